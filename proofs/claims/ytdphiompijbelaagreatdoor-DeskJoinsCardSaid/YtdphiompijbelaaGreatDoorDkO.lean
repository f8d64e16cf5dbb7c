import Derived.Test.YtdphiompijbelaaGreatDoorDkG0
set_option linter.all false
set_option maxRecDepth 100000
open List renaming getD_cons_zero->H,getD_cons_succ->G,length_nil->kB,length_cons->kP
open Go.Proofs.Tryz renaming prog->M
open Go.Ending renaming returned->K
open Bool renaming false->O,true->kI
open Array renaming getElem?_eq_some_iff->U
open Nat renaming lt_of_lt_of_le->Z,le_refl->kC,le_succ->kY
open Go renaming heap_alloc_new->V,bodyPost_ret->z,World->kJ,Calls->kS,Value->kN
open Go.Obj renaming cells->T
open Go.RowKit renaming Hid->Y
open Option renaming some->P,none->R
open Go.IntKind renaming i64->J
open Go.Value renaming int->I,pointer->N,bool->Q,tuple->j,slice->kR,agg->kT
set_option maxHeartbeats 4000000
namespace Go.Proofs.YtdphiompijbelaaGreatDoor
open Go.RowKit Go.Sort
namespace Pg
def tbit (x:Bool):Int:=if x=kI then 1 else 0
def ylj (X:Spc) (p:Int):List UInt8:=
 if tFC X.S 0 p≠0 then tell [110,111] [tFC X.S 0 p]
 else tell [109,97,112] ([(tFM X.S 0 p).p,(tFM X.S 0 p).s,(tFM X.S 0 p).f,(tFM X.S 0 p).r]++[tbit (tFE X.S 0 p).u,tbit (tFE X.S 0 p).d])
theorem yjN (x:Bool):fits (tbit x):=ykb x
end Pg
theorem yfC (m:Pg.Mp):∃a b c d,m=⟨a,b,c,d⟩:=⟨m.p,m.s,m.f,m.r,rfl⟩
theorem yfv (e:Pg.En):∃a b c d f g,e=⟨a,b,c,d,f,g⟩:=⟨_,_,_,_,_,_,rfl⟩
theorem yeU (n:Int):∃a,n=a:=⟨_,rfl⟩
section
variable {W:Bs} {w w':kJ} {b v:Nat} {d:Pg.Dk} {bs cs:List UInt8} {F Fw:Nat->Prop}
theorem ybM (p:Int) (hG:xZ W) (h:Tw W w b v d bs F Fw) (hf:(Pg.tFM d.X.S 0 p).Fits) (hc:Pg.fits (Pg.tFC d.X.S 0 p)) (hl:bs.length<=50000000000000):
 kS M 41 #[N (P ⟨b,0,R⟩),I J p] w fun e w'=>e=K (j #[])/\∃F',Tw W w' b v d (bs++Pg.ylj d.X p) F' Fw:=by
 obtain⟨sp,Fs,cs',D0,hd,_⟩:=h.wt.space;have HFd:=yc9 p w hd;have c0:=h.c0;have T0:Y (Tw W w b v d bs F Fw):=h;have HG:Y (xZ W):=hG;unfold Pg.ylj;obtain⟨fp,fs,ff,fg,hfm⟩:=yfC (Pg.tFM d.X.S 0 p);obtain⟨et,el,er,eu,ed,ef,hfe⟩:=yfv (Pg.tFE d.X.S 0 p);obtain⟨fc,hfc⟩:=yeU (Pg.tFC d.X.S 0 p);rw[hfm]at hf;rw[hfc]at hc;rw[hfm,hfe,hfc]at HFd ⊢;simp only[Pg.Mp.val,Pg.En.val]at HFd;have HMF:Y (Pg.Mp.Fits ⟨fp,fs,ff,fg⟩):=hf;have HCF:Y (Pg.fits fc):=hc;clear hd h hG hfm hfe hfc hf hc
 by_cases hz:fc=0
 ·subst hz
  rw[if_neg (by simp)]
  go_enter Tryz.func41,Tryz.ntmps41
  go_wp2_with fail
  refine HFd.mono ?_;rintro e w1 ⟨rfl,hb1⟩;obtain⟨W2,hW2⟩:∃W2,W2=(w1.alloc (T #[I J fp,I J fs,I J ff,I J fg] 76)).alloc (T #[Q et,Q el,I J er,Q eu,Q ed,I J ef] 82):=⟨_,rfl⟩;obtain⟨n1,n2,hb2⟩:=xS w1 (T #[I J fp,I J fs,I J ff,I J fg] 76) (T #[Q et,Q el,I J er,Q eu,Q ed,I J ef] 82);rw[<-hW2]at n1 n2 hb2;have T2:Y (Tw W W2 b v d bs F Fw):=T0.out.grow (zT hb1 hb2);obtain⟨⟨m0,m1,m2,m3⟩,_⟩:=yf5 n1;obtain⟨⟨e0,e1,e2,e3,e4,e5⟩,_⟩:=z9 n2;have lm:w1.heap.size<W2.heap.size:=(U.1 n1).1;have le:w1.heap.size+1<W2.heap.size:=(U.1 n2).1;have NM:Y (¬F w1.heap.size/\¬F (w1.heap.size+1)):=⟨fun e=>by have:=T0.out.tl.tl.lt e;have:=hb1.size;omega,fun e=>by have:=T0.out.tl.tl.lt e;have:=hb1.size;omega⟩;clear hb1 hb2 n1 n2 HFd c0 T0;have c0:=T2.out.c0
  go_upto_region 3 with fail
  rw[<-hW2];clear hW2;generalize w1.heap.size=gm at*;have HBt:=fun x w=>ydG x w;have HBu:=HBt eu;have HBd:=HBt ed;have fu:=Pg.yjN eu;have fd:=Pg.yjN ed;obtain⟨bu,hbu⟩:∃y,Pg.tbit eu=y:=⟨_,rfl⟩;obtain⟨bd,hbd⟩:∃y,Pg.tbit ed=y:=⟨_,rfl⟩;rw[show(if eu=kI then(1:Int)else 0)=bu from hbu]at HBu;rw[show(if ed=kI then(1:Int)else 0)=bd from hbd]at HBd;rw[hbu]at fu;rw[hbd]at fd;have HEU:Y _:=hbu;have HED:Y _:=hbd;clear hbu hbd;have hb5:Below W2.heap.size W2 (W2.alloc (T #[I J bu,I J bd] 3)).drew:=zT (zA (zR W2) _) (zR _).drew;have HV:=jT ⟨#[109,97,112]⟩ fp fs ff fg HMF.out.1 HMF.out.2.1 HMF.out.2.2.1 HMF.out.2.2.2 W2.heap.size 2 [bu,bd] (by simp) (by simp) ((xV (ns:=[bu,bd]) (V W2 _)).below (zR _).drew) (by simp[fu,fd]) (by decide) HG.out (T2.out.grow hb5).tl (by omega)
  have EA:Y (∀w' cs,zd (W2.alloc (T #[I J bu,I J bd] 3)).drew b (N (P ⟨v,0,R⟩)) F cs w'->(w'.cell? ⟨gm,0,R⟩=P (I J fp)/\w'.cell? ⟨gm,1,R⟩=P (I J fs)/\w'.cell? ⟨gm,2,R⟩=P (I J ff)/\w'.cell? ⟨gm,3,R⟩=P (I J fg))/\w'.cell? ⟨gm+1,3,R⟩=P (Q eu)/\w'.cell? ⟨gm+1,4,R⟩=P (Q ed)):=fun w' cs hd=>by
   obtain⟨_,_,hbd,_⟩:=hd;have hc:∀g p,g<W2.heap.size->¬F g->w'.cell? ⟨g,p,R⟩=W2.cell? ⟨g,p,R⟩:=fun g p hg hn=>(hbd.cell (a:=⟨g,p,R⟩) (Z hg hb5.size) hn).trans (hb5.cell (p:=⟨g,p,R⟩) hg);exact⟨⟨(hc gm _ lm NM.out.1).trans m0,(hc gm _ lm NM.out.1).trans m1,(hc gm _ lm NM.out.1).trans m2,(hc gm _ lm NM.out.1).trans m3⟩,(hc _ _ le NM.out.2).trans e3,(hc _ _ le NM.out.2).trans e4⟩
  have HAF:Y (∀cs w',zd (W2.alloc (T #[I J bu,I J bd] 3)).drew b (N (P ⟨v,0,R⟩)) F cs w'->zd W2 b (N (P ⟨v,0,R⟩)) F cs w'):=fun cs w' h=>zd.after hb5 h;clear hb5 HBt fu fd
  go_region_held3 (fun w'=>(w'.cell? ⟨gm,0,R⟩=P (I J fp)/\w'.cell? ⟨gm,1,R⟩=P (I J fs)/\w'.cell? ⟨gm,2,R⟩=P (I J ff)/\w'.cell? ⟨gm,3,R⟩=P (I J fg))/\w'.cell? ⟨gm+1,3,R⟩=P (Q eu)/\w'.cell? ⟨gm+1,4,R⟩=P (Q ed)) (go_keep) (first
   | (go_at_call 69;refine HV.mono ?_;rintro e w4 ⟨rfl,hd⟩;have D4:Y _:=hd;obtain⟨⟨q0,q1,q2,q3⟩,q4,q5⟩:=EA.out _ _ hd;clear hd)
   | (go_at_call 70;refine(HBu _).mono ?_;rintro e wb ⟨rfl,rfl⟩)
   | (go_at_call 70;refine(HBd _).mono ?_;rintro e wb ⟨rfl,rfl⟩))
  all_goals
   obtain⟨F5,t5,_⟩:=T2.out.told' (HAF.out _ _ D4.out)
   have T5:Y (Tw W w4 b v d (bs++Pg.tell [109,97,112] [fp,fs,ff,fg,Pg.tbit eu,Pg.tbit ed]) F5 Fw):=by
    rw[Y,HEU.out,HED.out];exact t5
   clear t5 HV T2 HAF e0 e1 e2 e3 e4 e5 m0 m1 m2 m3 q0 q1 q2 q3 q4 q5 EA D4 NM HBu HBd
   go_wp2_with fail
   go_end0
   exact⟨rfl,F5,T5.out⟩
 ·rw[if_pos hz]
  have hz':(fc !=0)=kI:=by simpa using hz
  go_enter Tryz.func41,Tryz.ntmps41
  go_wp2_with fail
  refine HFd.mono ?_;rintro e w1 ⟨rfl,hb1⟩;obtain⟨W2,hW2⟩:∃W2,W2=(w1.alloc (T #[I J fp,I J fs,I J ff,I J fg] 76)).alloc (T #[Q et,Q el,I J er,Q eu,Q ed,I J ef] 82):=⟨_,rfl⟩
  have hb2:Below w1.heap.size w1 W2:=by rw[hW2];exact zA (zA (zR _) _) _
  have T2:Y (Tw W W2 b v d bs F Fw):=T0.out.grow (zT hb1 hb2);clear hb1 hb2 HFd c0 T0;have c0:=T2.out.c0
  go_upto_region 1 with fail
  rw[<-hW2];clear hW2;have hb5:Below W2.heap.size W2 (W2.alloc (T #[I J fc] 3)):=zA (zR W2) _
  have HT:=zZ ⟨#[110,111]⟩ (P ⟨W2.heap.size,0,R⟩) 1 [fc] HG.out (T2.out.grow hb5).tl (xV (ns:=[fc]) (V W2 _)) (fun g e _ hF=>by
   have:=T2.out.tl.tl.lt hF;injection e with e;injection e with e
   omega) (by simp[HCF.out]) (by show _+2+_+1<=_;simp only[kP,kB];omega)
  have HB5:Y _:=hb5;clear hb5
  go_wp2_with fail
  refine HT.mono ?_;rintro e w4 ⟨rfl,hd⟩;have D4:Y _:=hd;clear hd HT
  go_wp2_with fail
  (try simp only[Exit.inBlock,Exit.then])
  refine z (results_none rfl _ _ _) rfl ?_;obtain⟨F5,t5,_⟩:=T2.out.told' (zd.after HB5.out D4.out);exact⟨rfl,F5,t5⟩
end
namespace Pg
def bad (co n:Int):Bool:=decide (co<1\/4<co\/n<1\/128<n)
def yjS (co n:Int):Option Dk:=if bad co n=kI then R else P ⟨Spc.new co.toNat n.toNat,[],[],0⟩
def yjT (co n:Int):List UInt8:=if bad co n=kI then tell [110,111] [1]else tell [111,107] []
end Pg
def Tn (W:Bs) (w:kJ) (b:Nat) (o:Option Pg.Dk) (bs:List UInt8):Prop:=
 match o with
 | none=>∃F,Tl0 W w b (N R) bs F
 | some d=>∃v F Fw,Tw W w b v d bs F Fw
section
variable {W:Bs} {w w':kJ} {b v:Nat} {p0:kN} {d:Pg.Dk} {bs cs:List UInt8} {F Fw:Nat->Prop}
theorem j9.swap (h:j9 w b p0 bs F) (p1:kN):j9 (w.setCell ⟨b,0,R⟩ p1) b p1 bs F:=by
 obtain⟨p,v,hk,hp,hr,hn,rfl⟩:=h;exact⟨p,v,heap_setCell_same w b 0 _ _ p1 hk,hp,zb hr ((But.refl (fun k=>k=b) _).setCell (a:=⟨b,0,R⟩) (.inr rfl) _) fun k hk e=>hn (e▸hk),hn,rfl⟩
theorem j9.own (h:j9 w b p0 bs F):F b:=by
 obtain⟨p,v,hk,hp,hr,hn,rfl⟩:=h;exact .inl rfl
theorem j9.row (h:j9 w b p0 bs F):∃p v,w.heap[b]?=P (T #[p0,p,v] 52 (0,0)):=by
 obtain⟨p,v,hk,_⟩:=h;exact⟨p,v,hk⟩
theorem Tl0.swap (h:Tl0 W w b p0 bs F) (p1:kN):Tl0 W (w.setCell ⟨b,0,R⟩ p1) b p1 bs F:=
 ⟨h.tl.swap p1,h.bel.ylR ((But.refl (fun k=>k=b) _).setCell (a:=⟨b,0,R⟩) (.inr rfl) _) fun k hk=>hk▸h.hi b h.tl.own,h.hi⟩
theorem yfG {w:kJ} {r:Nat} {v0 v1 v2:kN} {t:TypeId} (h:w.heap[r]?=P (T #[v0,v1,v2] t (0,0))):w.cell? ⟨r,0,R⟩=P v0/\∀i,w.frozen? ⟨r,i,R⟩=O:=
 ⟨by simp[World.cell?,h],fun i=>by simp[World.frozen?,h]⟩
theorem jU (co n:Int) (hG:xZ W) (h:Tl0 W w b p0 bs F) (hl:bs.length<=50000000000000):
 kS M 40 #[N (P ⟨b,0,R⟩),I J co,I J n] w fun e w'=>e=K (j #[])/\Tn W w' b (Pg.yjS co n) (bs++Pg.yjT co n):=by
 have T0:Y (Tl0 W w b p0 bs F):=h;have HG:Y (xZ W):=hG;clear h hG;unfold Pg.yjS Pg.yjT
 by_cases hbad:Pg.bad co n=kI
 ·rw[if_pos hbad,if_pos hbad]
  have HN:=yez co n w (of_decide_eq_true hbad);clear hbad
  go_enter Tryz.func40,Tryz.ntmps40
  go_wp2_with fail
  refine HN.mono ?_;rintro e w1 ⟨rfl,hb1⟩;obtain⟨W2,hW2⟩:∃W2,W2=w1.alloc (T #[I J 1,I J (-1)] 33):=⟨_,rfl⟩
  have hb2:Below w1.heap.size w1 W2:=by rw[hW2];exact zA (zR _) _
  have hx2:W2.heap[w1.heap.size]?=P (T #[I J 1,I J (-1)] 33 (0,0)):=by rw[hW2];exact V _ _
  have T2:Y (Tl0 W W2 b p0 bs F):=T0.out.grow (zT hb1 hb2)
  have nb:w1.heap.size≠b:=by have:=T0.out.tl.lt T0.out.tl.own;have:=hb1.size;omega
  have nb':b≠w1.heap.size:=nb.symm
  have NF:Y (¬F w1.heap.size):=fun e=>by have:=T0.out.tl.lt e;have:=hb1.size;omega
  obtain⟨W3,hW3⟩:∃W3,W3=W2.setCell ⟨b,0,R⟩ (N R):=⟨_,rfl⟩
  have T3:Y (Tl0 W W3 b (N R) bs F):=by rw[Y,hW3];exact T2.out.swap _
  have hx3:W3.heap[w1.heap.size]?=P (T #[I J 1,I J (-1)] 33 (0,0)):=by rw[hW3];exact(heap_setCell_other _ _ _ _ nb).trans hx2
  obtain⟨pp,vv,hrow⟩:=T2.out.tl.row;obtain⟨c0,cf⟩:=yfG hrow;obtain⟨⟨z0,z1⟩,zf⟩:=zP hx3;have lz:w1.heap.size<W3.heap.size:=(U.1 hx3).1;clear hb1 hb2 HN T0 T2 hx2 hx3 hrow
  go_upto_region 1 with fail
  rw[<-hW2];clear hW2
  go_upto_region 2 with fail
  rw[<-hW3];clear hW3 c0 cf;generalize w1.heap.size=gx at*;have hb5:Below W3.heap.size W3 (W3.alloc (T #[I J 1] 3)).drew:=zT (zA (zR W3) _) (zR _).drew
  have HT:=zZ ⟨#[110,111]⟩ (P ⟨W3.heap.size,0,R⟩) 1 [1] HG.out (T3.out.grow hb5) ((xV (ns:=[1]) (V W3 _)).below (zR _).drew) (fun g e _ hF=>by
   have:=T3.out.tl.lt hF;injection e with e;injection e with e
   omega) (by simp[Pg.fits]) (by show _+2+_+1<=_;simp only[kP,kB];omega)
  have EA:Y (∀w' cs,zd (W3.alloc (T #[I J 1] 3)).drew b (N R) F cs w'->w'.cell? ⟨gx,0,R⟩=P (I J 1)):=fun w' cs hd=>by
   obtain⟨_,_,hbd,_⟩:=hd;exact((hbd.cell (a:=⟨gx,0,R⟩) (Z lz hb5.size) NF.out).trans (hb5.cell (p:=⟨gx,0,R⟩) lz)).trans z0
  have HAF:Y (∀cs w',zd (W3.alloc (T #[I J 1] 3)).drew b (N R) F cs w'->zd W3 b (N R) F cs w'):=fun cs w' h=>zd.after hb5 h;clear hb5
  go_upto_region 3 with fail
  go_region_held3 (fun w'=>w'.cell? ⟨gx,0,R⟩=P (I J 1)) (go_keep) (first
   | (go_at_call 20;refine HT.mono ?_;rintro e w4 ⟨rfl,hd⟩;have D4:Y _:=hd;have q0:=EA.out _ _ hd;clear hd))
  all_goals
   obtain⟨F5,t5,_⟩:=T3.out.done (HAF.out _ _ D4.out);have T5:Y (Tn W w4 b R (bs++Pg.tell [110,111] [1])):=⟨F5,t5⟩;clear t5 HT T3 HAF z0 z1 q0 EA D4
   go_wp2_with fail
   (try simp only[Exit.inBlock,Exit.then])
   refine z (results_none rfl _ _ _) rfl ?_;exact⟨rfl,T5.out⟩
 ·rw[if_neg hbad,if_neg hbad]
  have hbad:=of_decide_eq_false (Bool.eq_false_iff.2 hbad);obtain⟨cn,rfl⟩:=Int.eq_ofNat_of_zero_le (show 0<=co by omega);obtain⟨nn,rfl⟩:=Int.eq_ofNat_of_zero_le (show 0<=n by omega);have HN:=yey cn nn w (by omega) (by omega) (by omega) (by omega);rw[Int.toNat_natCast,Int.toNat_natCast];clear hbad
  go_enter Tryz.func40,Tryz.ntmps40
  go_wp2_with fail
  refine HN.mono ?_;rintro e w1 ⟨v,Fw,rfl,hw1,hb1,hF1⟩;obtain⟨W2,hW2⟩:∃W2,W2=w1.alloc (T #[I J 0,I J 0] 33):=⟨_,rfl⟩
  have hb2:Below w1.heap.size w1 W2:=by rw[hW2];exact zA (zR _) _
  have hx2:W2.heap[w1.heap.size]?=P (T #[I J 0,I J 0] 33 (0,0)):=by rw[hW2];exact V _ _
  have T2:Y (Tl0 W W2 b p0 bs F):=T0.out.grow (zT hb1 hb2);have lb:=T0.out.tl.lt T0.out.tl.own
  have nb:w1.heap.size≠b:=by have:=hb1.size;omega
  have nb':b≠w1.heap.size:=nb.symm;obtain⟨W3,hW3⟩:∃W3,W3=W2.setCell ⟨b,0,R⟩ (N (P ⟨v,0,R⟩)):=⟨_,rfl⟩
  have T3:Y (Tw W W3 b v ⟨Pg.Spc.new cn nn,[],[],0⟩ bs F Fw):=by
   rw[Y,hW3];refine⟨T2.out.swap _,?_,fun k hk hw=> ?_,fun k hk=> .inr (Nat.le_trans T0.out.bel.size (hF1 k hk))⟩
   ·exact(hw1.grow hb2).keep ((But.refl (fun k=>k=b) _).setCell (a:=⟨b,0,R⟩) (.inr rfl) _) fun k hk e=>by have:=hF1 k hk;omega
   ·have:=hF1 k hw
    have:=T0.out.tl.lt hk;omega
  have hx3:W3.heap[w1.heap.size]?=P (T #[I J 0,I J 0] 33 (0,0)):=by rw[hW3];exact(heap_setCell_other _ _ _ _ nb).trans hx2
  obtain⟨pp,vv,hrow⟩:=T2.out.tl.row;obtain⟨c0,cf⟩:=yfG hrow;obtain⟨⟨z0,z1⟩,zf⟩:=zP hx3;clear hb1 hb2 HN T0 T2 hx2 hx3 hrow hw1 hF1 lb
  go_upto_region 1 with fail
  rw[<-hW2];clear hW2
  go_upto_region 2 with fail
  rw[<-hW3];clear hW3 c0 cf;have HT:=zZ ⟨#[111,107]⟩ R 0 [] HG.out T3.out.tl (qj W3) (fun _ e=>by cases e) (fun _ e=>by cases e) (by show _+2+_+1<=_;simp only[kB];omega)
  go_wp2_with fail
  refine HT.mono ?_;rintro e w4 ⟨rfl,hd⟩;have D4:Y _:=hd;clear hd HT
  go_wp2_with fail
  go_end0
  obtain⟨F5,t5,_⟩:=T3.out.told' D4.out;exact⟨rfl,v,F5,Fw,t5⟩
end
namespace Pg
def Trs.rest (s:Trs):Trs:=(s.yhX s.X.C.length).yjU s.X.C.length
theorem Rest.eq {s t:Trs} (h:Rest s t):t=s.rest:=by
 obtain⟨a,h1,h2⟩:=h;rw[h2.eq,h1.eq];rfl
def Dk.trs (d:Dk):Trs:=⟨d.X,d.L,d.L0,d.ti,[]⟩
def Dk.of (t:Trs):Dk:=⟨t.X,t.L,t.L0,t.ti⟩
def ylI (d:Dk):List UInt8:=tEvs d.trs.rest.E++tell [99,97,108,109] [d.trs.rest.X.S.free,(d.trs.rest.X.tabs.length:Int)]
end Pg
theorem qw.own {w:kJ} {b:Nat} {X:Pg.Spc} {L L0:List Pg.Mp} {ti:Int} {F:Nat->Prop} (h:qw w b X L L0 ti F):F b:=by
 obtain⟨D,fl,st,A,h,ok,rfl⟩:=h;exact .inl rfl
section
variable {W:Bs} {w w':kJ} {b v:Nat} {d:Pg.Dk} {bs cs:List UInt8} {F Fw:Nat->Prop}
theorem ybL (hG:xZ W) (h:Tw W w b v d bs F Fw) (hti:0<=d.ti/\d.ti<=100000) (hco:d.X.C.length<=4) (hf:∀e ∈ d.trs.rest.E,e.Fits) (hE:d.trs.rest.E.length<=1000) (hfr:Pg.fits d.trs.rest.X.S.free) (htb:d.trs.rest.X.tabs.length<=5000) (hl:bs.length<=50000000000000):
 kS M 44 #[N (P ⟨b,0,R⟩)] w fun e w'=>e=K (j #[])/\∃F' Fw',Tw W w' b v (.of d.trs.rest) (bs++Pg.ylI d) F' Fw':=by
 have HC:=ydv (s0:=d.trs) w h.wt rfl hti hco;have c0:=h.c0;have T0:Y (Tw W w b v d bs F Fw):=h;have HG:Y (xZ W):=hG;unfold Pg.ylI;clear h hG
 go_enter Tryz.func44,Tryz.ntmps44
 go_wp2_with fail
 refine HC.mono ?_;rintro e w1 ⟨t,ad,cap,hr,rfl,hev,hb1,Fw1,hw1,hF1,hnew⟩;have hrt:=hr.eq;rw[<-hrt]at hf hE hfr htb;have HRT:Y _:=hrt;clear hrt;have T1:Y (Tw W w1 b v (.of t) bs F Fw1):=T0.out.step (d':= .of t) hw1 hb1 hF1
 have HNE:Y (∀g,ad=P ⟨g,0,R⟩->0<t.E.length->¬F g):=fun g hg _ e=>by have:=T0.out.tl.tl.lt e;have:=(hnew g hg).1;omega
 clear hb1 hF1 hw1 hnew hr HC T0 c0;obtain⟨W2,hW2⟩:∃W2,W2=w1.alloc (T #[I J 0,I J 0] 33):=⟨_,rfl⟩
 have hb2:Below w1.heap.size w1 W2:=by rw[hW2];exact zA (zR _) _
 have hx2:W2.heap[w1.heap.size]?=P (T #[I J 0,I J 0] 33 (0,0)):=by rw[hW2];exact V _ _
 have T2:Y (Tw W W2 b v (.of t) bs F Fw1):=T1.out.grow hb2;have HE2:Y (jd W2 ad t.E):=hev.below hb2
 have NF:Y (¬F w1.heap.size):=fun e=>by have:=T1.out.tl.tl.lt e;omega
 obtain⟨⟨z0,z1⟩,zf⟩:=zP hx2;have lz:w1.heap.size<W2.heap.size:=(U.1 hx2).1;have c0:=T2.out.c0;clear hb2 hx2 hev T1
 go_upto_region 1 with fail
 rw[<-hW2];clear hW2;generalize w1.heap.size=gx at*;have hb5:Below W2.heap.size W2 W2.drew:=(zR W2).drew;have HV:=ja ad cap t.E HG.out (T2.out.grow hb5).tl (HE2.out.below hb5) HNE.out hf (by omega)
 have EA:Y (∀w' cs,zd W2.drew b (N (P ⟨v,0,R⟩)) F cs w'->w'.cell? ⟨gx,0,R⟩=P (I J 0)/\w'.cell? ⟨gx,1,R⟩=P (I J 0)):=fun w' cs hd=>by
  obtain⟨_,_,hbd,_⟩:=hd;have hc:∀p,w'.cell? ⟨gx,p,R⟩=W2.cell? ⟨gx,p,R⟩:=fun p=>(hbd.cell (a:=⟨gx,p,R⟩) (Z lz hb5.size) NF.out).trans (hb5.cell (p:=⟨gx,p,R⟩) lz);exact⟨(hc _).trans z0,(hc _).trans z1⟩
 have HAF:Y (∀cs w',zd W2.drew b (N (P ⟨v,0,R⟩)) F cs w'->zd W2 b (N (P ⟨v,0,R⟩)) F cs w'):=fun cs w' h=>zd.after hb5 h;clear hb5
 go_cut []from 12 to 17 (fun wc=>∃F5,Y (Tw W wc b v (.of t) (bs++Pg.tEvs t.E) F5 Fw1))
 case first=>
  go_region_held3 (fun w'=>w'.cell? ⟨gx,0,R⟩=P (I J 0)/\w'.cell? ⟨gx,1,R⟩=P (I J 0)) (go_keep) (first
   | (go_at_call 74;refine HV.mono ?_;rintro e w4 ⟨rfl,hd⟩;have D4:Y _:=hd;obtain⟨q0,q1⟩:=EA.out _ _ hd;clear hd))
  all_goals
   obtain⟨F5,t5,_⟩:=T2.out.told' (HAF.out _ _ D4.out);have T5:Y (Tw W w4 b v (.of t) (bs++Pg.tEvs t.E) F5 Fw1):=t5;clear t5 HV HAF EA D4
   go_wp2_with fail
   go_meet
   case rel=>exact⟨F5,T5⟩
 case rest=>
  obtain⟨F5,T5⟩:=hcut;clear HV EA HAF T2 z0 z1 zf lz NF c0 HE2 HNE;obtain⟨sp,Fs,c1,D0,hd,_⟩:=T5.out.wt.space;have c0:=T5.out.c0;have lv:v<wc.heap.size:=World.block_lt_of_cell? _ _ c1;have lb:b<wc.heap.size:=T5.out.lb;have NV:Y (¬F5 v):=fun e=>T5.out.ap v e T5.out.wt.own;have HFr:=fun w' (hb:Below wc.heap.size wc w')=>yao w' (hd.grow hb);have HTb:=fun w' (hb:Below wc.heap.size wc w')=>jN w' (hd.grow hb);have HXX:Y (d.X.C.length<=4):=hco;rw[show(Pg.Dk.of t).X=t.X from rfl]at HFr HTb;obtain⟨fr,hfr'⟩:∃y,t.X.S.free=y:=⟨_,rfl⟩;obtain⟨tb,htb'⟩:∃y,t.X.tabs.length=y:=⟨_,rfl⟩;rw[hfr']at HFr hfr;rw[htb']at htb;simp only[htb']at HTb;have HFR:Y _:=hfr';have HTB:Y _:=htb';have hcap:∀w' ad,zl w' ad t.X.tabs->True:=fun _ _ _=>trivial
  have HT:=fun wx (hb:Below wc.heap.size wc wx)=>zZ ⟨#[99,97,108,109]⟩ (P ⟨wx.heap.size,0,R⟩) 2 [fr,(tb:Int)] HG.out (T5.out.grow (zT hb (zA (zR wx) (T #[I J fr,I J (tb:Int)] 3)))).tl (xV (ns:=[fr,(tb:Int)]) (V wx _)) (fun g e _ hF=>by
   have:=T5.out.tl.tl.lt hF;have:=hb.size;injection e with e;injection e with e
   omega) (by simp[hfr];unfold Pg.fits;omega) (by have:=Pg.yju t.E hf;show(bs++Pg.tEvs t.E).length+4+_+1<=_;simp only[List.length_append,kP,kB];omega)
  have CC:Y (∀w',Below wc.heap.size wc w'->w'.cell? ⟨b,0,R⟩=P (N (P ⟨v,0,R⟩))/\w'.cell? ⟨v,0,R⟩=P (N (P ⟨sp,0,R⟩))):=fun w' hb=>⟨(hb.cell (p:=⟨b,0,R⟩) lb).trans c0,(hb.cell (p:=⟨v,0,R⟩) lv).trans c1⟩
  have EA:Y (∀wx,Below wc.heap.size wc wx->∀w' cs,zd (wx.alloc (T #[I J fr,I J (tb:Int)] 3)) b (N (P ⟨v,0,R⟩)) F5 cs w'->(w'.cell? ⟨b,0,R⟩=P (N (P ⟨v,0,R⟩))/\w'.cell? ⟨v,0,R⟩=P (N (P ⟨sp,0,R⟩)))/\zd wc b (N (P ⟨v,0,R⟩)) F5 cs w'):=fun wx hb w' cs hd=>by
   have hb6:=zT hb (zA (zR wx) (T #[I J fr,I J (tb:Int)] 3));have hd':=zd.after hb6 hd;obtain⟨F6,t6,_⟩:=T5.out.told' hd';obtain⟨_,_,hbd,_⟩:=hd;exact⟨⟨t6.c0,((hbd.cell (a:=⟨v,0,R⟩) (Z lv hb6.size) NV.out).trans (hb6.cell (p:=⟨v,0,R⟩) lv)).trans c1⟩,hd'⟩
  have BR:Y (Below wc.heap.size wc wc):=zR wc
  have FIN:Y (∀w',zd wc b (N (P ⟨v,0,R⟩)) F5 (bs++Pg.tEvs t.E++Pg.tell [99,97,108,109] [fr,(tb:Int)]) w'->∃F',Tw W w' b v (.of t) (bs++(Pg.tEvs t.E++Pg.tell [99,97,108,109] [t.X.S.free,(t.X.tabs.length:Int)])) F' Fw1):=fun w' hd=>by
   obtain⟨F6,t6,_⟩:=T5.out.told' hd;rw[HFR.out,HTB.out,<-List.append_assoc];exact⟨F6,t6⟩
  clear hd hcap hf hE hfr htb hl T5 NV HFR HTB hfr' htb' lv lb
  go_upto_region 2 with fail
  go_region_held3 (fun w'=>w'.cell? ⟨b,0,R⟩=P (N (P ⟨v,0,R⟩))/\w'.cell? ⟨v,0,R⟩=P (N (P ⟨sp,0,R⟩))) (go_keep) (first
   | (go_at_call 20;refine(HT _ B7.out).mono ?_;rintro e w8 ⟨rfl,hd⟩;obtain⟨⟨y0,y1⟩,hd'⟩:=EA.out _ B7.out _ _ hd;have D8:Y _:=hd';clear hd hd')
   | (go_at_call 75;refine(HFr _ B6t.out).mono ?_;rintro e wg ⟨rfl,hbg⟩;have B7:Y (Below wc.heap.size wc wg):=zT B6t.out hbg;obtain⟨x0,x1⟩:=CC.out _ B7.out;clear hbg)
   | (go_at_call 76;refine(HTb _ B6f.out).mono ?_;rintro e wg ⟨adt,capt,rfl,_,_,hbg⟩;have B7:Y (Below wc.heap.size wc wg):=zT B6f.out hbg;obtain⟨x0,x1⟩:=CC.out _ B7.out;clear hbg)
   | (go_at_call 75;refine(HFr _ BR.out.drew).mono ?_;rintro e wf ⟨rfl,hbf⟩;have B6f:Y (Below wc.heap.size wc wf):=zT BR.out.drew hbf;obtain⟨q0,q1⟩:=CC.out _ B6f.out;clear hbf)
   | (go_at_call 76;refine(HTb _ BR.out.drew).mono ?_;rintro e wf ⟨adt,capt,rfl,_,_,hbf⟩;have B6t:Y (Below wc.heap.size wc wf):=zT BR.out.drew hbf;obtain⟨q0,q1⟩:=CC.out _ B6t.out;clear hbf))
  all_goals
   have T9:=FIN.out _ D8.out;have TH:Y _:=T9;clear T9 FIN D8
   go_wp2_with fail
   go_end0
   obtain⟨F6,t6⟩:=TH.out;rw[<-HRT.out];exact⟨rfl,F6,Fw1,t6⟩
end
namespace Pg
def yhU (wd:List UInt8) (ns:List Int):Option Sx:=
 match ns with
 | [a]=>if wd=[117,110,109,97,112]then P ⟨2,0,⟨a,0,0,0⟩,0,0,O⟩else if wd=[119,97,108,107]then P ⟨5,a,⟨0,0,0,0⟩,0,0,O⟩
   else if wd=[97,99,107]then P ⟨6,a,⟨0,0,0,0⟩,0,0,O⟩else if wd=[101,118,105,99,116]then P ⟨7,a,⟨0,0,0,0⟩,0,0,O⟩else R
 | [a,b]=>if wd=[112,114,111,116,101,99,116]then P ⟨3,0,⟨a,0,0,b⟩,0,0,O⟩else R
 | [a,b,c,d]=>if wd=[109,97,112]then P ⟨1,0,⟨a,b,c,d⟩,0,0,O⟩else if wd=[97,99,99,101,115,115]then P ⟨4,a,⟨0,0,0,0⟩,b,c,d !=0⟩else R
 | _=>R
def sx0:Sx:=⟨0,0,⟨0,0,0,0⟩,0,0,O⟩
end Pg
theorem yfb (wd:ByteArray) (a:Int) (ad:Option Addr) (cap:Nat) (w:kJ) (hn:zl w ad [a]):
 kS M 45 #[kT #[.string wd,I J 1],kR ad 1 cap] w fun e w'=>e=K (j #[((Pg.yhU wd.toList [a]).getD Pg.sx0).val,Q (Pg.yhU wd.toList [a]).isSome])/\Below w.heap.size w w':=by
 obtain⟨g,rfl,hg,c0⟩:=hn 0 (by simp);simp only[H,G]at c0;have HBB:Y (∀A B:Obj,Below w.heap.size w ((w.alloc A).alloc B)):=fun A B=>zA (zA (zR w) A) B;have HBD:Y (∀A B:Obj,Below w.heap.size w ((w.alloc A).alloc B).drew):=fun A B=>zT (zA (zA (zR w) A) B) (zR _).drew;clear hn
 go_enter Tryz.func45,Tryz.ntmps45
 go_wp2_with (go_region)
 all_goals
  refine z (v:=j #[((Pg.yhU wd.toList [a]).getD Pg.sx0).val,Q (Pg.yhU wd.toList [a]).isSome]) ?_ rfl ⟨rfl,?_⟩
  ·simp[results,Tryz.results45,go_sem,Pg.yhU,Pg.Sx.val,Pg.sx0, *]
  ·first|exact HBB.out _ _|exact HBD.out _ _
theorem yfc (wd:ByteArray) (a b:Int) (ad:Option Addr) (cap:Nat) (w:kJ) (hn:zl w ad [a,b]):
 kS M 45 #[kT #[.string wd,I J 2],kR ad 2 cap] w fun e w'=>e=K (j #[((Pg.yhU wd.toList [a,b]).getD Pg.sx0).val,Q (Pg.yhU wd.toList [a,b]).isSome])/\Below w.heap.size w w':=by
 obtain⟨g,rfl,hg,c0⟩:=hn 0 (by simp);obtain⟨_,e,_,c1⟩:=hn 1 (by simp);cases e;simp only[H,G]at c0 c1;have HBB:Y (∀A B:Obj,Below w.heap.size w ((w.alloc A).alloc B)):=fun A B=>zA (zA (zR w) A) B;have HBD:Y (∀A B:Obj,Below w.heap.size w ((w.alloc A).alloc B).drew):=fun A B=>zT (zA (zA (zR w) A) B) (zR _).drew;clear hn
 go_enter Tryz.func45,Tryz.ntmps45
 go_wp2_with (go_region)
 all_goals
  refine z (v:=j #[((Pg.yhU wd.toList [a,b]).getD Pg.sx0).val,Q (Pg.yhU wd.toList [a,b]).isSome]) ?_ rfl ⟨rfl,?_⟩
  ·simp[results,Tryz.results45,go_sem,Pg.yhU,Pg.Sx.val,Pg.sx0, *]
  ·first|exact HBB.out _ _|exact HBD.out _ _
theorem yfd (wd:ByteArray) (a b c d:Int) (ad:Option Addr) (cap:Nat) (w:kJ) (hn:zl w ad [a,b,c,d]):
 kS M 45 #[kT #[.string wd,I J 4],kR ad 4 cap] w fun e w'=>e=K (j #[((Pg.yhU wd.toList [a,b,c,d]).getD Pg.sx0).val,Q (Pg.yhU wd.toList [a,b,c,d]).isSome])/\Below w.heap.size w w':=by
 obtain⟨g,rfl,hg,c0⟩:=hn 0 (by simp);obtain⟨_,e,_,c1⟩:=hn 1 (by simp);cases e;obtain⟨_,e,_,c2⟩:=hn 2 (by simp);cases e;obtain⟨_,e,_,c3⟩:=hn 3 (by simp);cases e;simp only[H,G]at c0 c1 c2 c3;have HBB:Y (∀A B:Obj,Below w.heap.size w ((w.alloc A).alloc B)):=fun A B=>zA (zA (zR w) A) B;have HBD:Y (∀A B:Obj,Below w.heap.size w ((w.alloc A).alloc B).drew):=fun A B=>zT (zA (zA (zR w) A) B) (zR _).drew;clear hn
 go_enter Tryz.func45,Tryz.ntmps45
 go_wp2_with (go_region)
 all_goals
  refine z (v:=j #[((Pg.yhU wd.toList [a,b,c,d]).getD Pg.sx0).val,Q (Pg.yhU wd.toList [a,b,c,d]).isSome]) ?_ rfl ⟨rfl,?_⟩
  ·simp[results,Tryz.results45,go_sem,Pg.yhU,Pg.Sx.val,Pg.sx0, *]
  ·first|exact HBB.out _ _|exact HBD.out _ _
theorem vF (wd:ByteArray) (n:Nat) (ad:Option Addr) (cap:Nat) (w:kJ) (h1:n≠1) (h2:n≠2) (h4:n≠4):
 kS M 45 #[kT #[.string wd,I J n],kR ad n cap] w fun e w'=>e=K (j #[Pg.sx0.val,Q O])/\Below w.heap.size w w':=by
 have HBB:Y (∀A B:Obj,Below w.heap.size w ((w.alloc A).alloc B)):=fun A B=>zA (zA (zR w) A) B;have d1:decide ((n:Int)=1)=O:=decide_eq_false (by omega);have d2:decide ((n:Int)=2)=O:=decide_eq_false (by omega);have d4:decide ((n:Int)=4)=O:=decide_eq_false (by omega)
 have e1:¬((n:Int)=1):=by omega
 have e2:¬((n:Int)=2):=by omega
 have e4:¬((n:Int)=4):=by omega
 clear h1 h2 h4
 go_enter Tryz.func45,Tryz.ntmps45
 go_wp2_with fail
 all_goals
  refine z (v:=j #[Pg.sx0.val,Q O]) ?_ rfl ⟨rfl,HBB.out _ _⟩;simp[results,Tryz.results45,go_sem,Pg.Sx.val,Pg.sx0]
def Pg.Dk.next (d:Pg.Dk) (x:Pg.Sx):Pg.Dk:=⟨d.X.goN x,d.X.nxL d.L x,d.X.nxP d.L d.L0 x,d.ti+d.X.chg x⟩
section
variable {W:Bs} {w:kJ} {b v:Nat} {d:Pg.Dk} {bs:List UInt8} {F Fw:Nat->Prop}
theorem qN (x:Pg.Sx) (hx:xi x) (hG:xZ W) (h:Tw W w b v d bs F Fw) (hti:0<=d.ti/\d.ti<4611686018427387904) (hf:(d.X.goE x).Fits) (hl:bs.length<=50000000000000):
 kS M 46 #[N (P ⟨b,0,R⟩),x.val] w fun e w'=>e=K (j #[])/\∃F' Fw',Tw W w' b v (d.next x) (bs++Pg.tEv (d.X.goE x)) F' Fw':=by
 obtain⟨W1,hW1⟩:∃W1,W1=w.alloc (T #[I J x.kind,I J x.core,I J x.m.p,I J x.m.s,I J x.m.f,I J x.m.r,I J x.q,I J x.k,Q x.u] 80):=⟨_,rfl⟩
 have hb1:Below w.heap.size w W1:=by rw[hW1];exact zA (zR w) _
 have hx1:W1.heap[w.heap.size]?=P (T #[I J x.kind,I J x.core,I J x.m.p,I J x.m.s,I J x.m.f,I J x.m.r,I J x.q,I J x.k,Q x.u] 80 (0,0)):=by rw[hW1];exact V _ _
 have cx:∀p u,(#[I J x.kind,I J x.core,I J x.m.p,I J x.m.s,I J x.m.f,I J x.m.r,I J x.q,I J x.k,Q x.u]:Array kN)[p]?=P u->W1.cell? ⟨w.heap.size,p,R⟩=P u:=fun p u hp=>by simp[World.cell?,hx1,hp]
 have x0:=cx 0 _ rfl;have x1:=cx 1 _ rfl;have x2:=cx 2 _ rfl;have x3:=cx 3 _ rfl;have x4:=cx 4 _ rfl;have x5:=cx 5 _ rfl;have x6:=cx 6 _ rfl;have x7:=cx 7 _ rfl;have x8:=cx 8 _ rfl;have T1:Y (Tw W W1 b v d bs F Fw):=h.grow hb1;have c0:=T1.out.c0;have HD:=fun w' Fw (hw:qw w' v d.X d.L d.L0 d.ti Fw)=>ycP x hx w' hw hti;have HG:Y (xZ W):=hG
 have NB:Y (¬Fw w.heap.size):=fun e=>by have:=h.wt.lt e;omega
 simp only[Pg.Sx.val,Pg.Ev.val]at HD ⊢;clear cx hx1 h hb1 hG
 go_enter Tryz.func46,Tryz.ntmps46
 go_upto_region 1 with fail
 rw[<-hW1];clear hW1;generalize w.heap.size=gx at*;have T1d:Y (Tw W W1.drew b v d bs F Fw):=T1.out.grow (zR W1).drew;have lx:gx<W1.heap.size:=World.block_lt_of_cell? _ _ x0;have lb:b<W1.heap.size:=T1.out.lb;have HLw:Y (∀k,Fw k->k<W1.heap.size):=fun k hk=>T1.out.wt.lt hk;have HLf:Y (∀k,F k->k<W1.heap.size):=fun k hk=>T1.out.tl.tl.lt hk
 have nb:W1.heap.size≠b:=by omega
 have nx:W1.heap.size≠gx:=by omega
 have nb':W1.heap.size+1≠b:=by omega
 have nx':W1.heap.size+1≠gx:=by omega
 have HDB:Y (∀w',Below W1.heap.size W1 w'->kS M 77 #[N (P ⟨v,0,R⟩),x.val] w' fun e w2=>e=K (j #[(d.X.goE x).val,kT #[I J 0,I J 0]])/\∃Fw2,Y (StD W W1 w' w2 b v (d.next x) bs F Fw2)/\w2.cell? ⟨b,0,R⟩=P (N (P ⟨v,0,R⟩))/\w2.cell? ⟨gx,0,R⟩=P (I J x.kind)/\w2.cell? ⟨gx,1,R⟩=P (I J x.core)/\w2.cell? ⟨gx,2,R⟩=P (I J x.m.p)/\w2.cell? ⟨gx,3,R⟩=P (I J x.m.s)/\w2.cell? ⟨gx,4,R⟩=P (I J x.m.f)/\w2.cell? ⟨gx,5,R⟩=P (I J x.m.r)/\w2.cell? ⟨gx,6,R⟩=P (I J x.q)/\w2.cell? ⟨gx,7,R⟩=P (I J x.k)/\w2.cell? ⟨gx,8,R⟩=P (Q x.u)):=fun w' hb=>by
  have t:=T1.out.grow hb;refine(HD w' Fw t.wt).mono ?_;rintro e w2 ⟨rfl,Fw2,h2,hb2,hF2⟩;have T2:=t.step (d':=d.next x) h2 hb2 hF2;have hc:∀p,w2.cell? ⟨gx,p,R⟩=W1.cell? ⟨gx,p,R⟩:=fun p=>(hb2.cell (a:=⟨gx,p,R⟩) (Z lx hb.size) NB.out).trans (hb.cell (p:=⟨gx,p,R⟩) lx);exact⟨rfl,Fw2,⟨T2,hb.size,hb2.size,T1.out.tl.bel.size,fun k h1 h2=>hb2.block k h2 fun e=>by have:=HLw.out k e;omega,fun k hk=>(hF2 k hk).elim (fun e=> .inl (HLw.out k e)) .inr,HLf.out⟩,T2.c0,(hc _).trans x0,(hc _).trans x1,(hc _).trans x2,(hc _).trans x3,(hc _).trans x4,(hc _).trans x5,(hc _).trans x6,(hc _).trans x7,(hc _).trans x8⟩
 simp only[Pg.Sx.val,Pg.Ev.val]at HDB;have HFT:Y (d.X.goE x).Fits:=hf;clear HD hf HLw
 go_cut [4,5]from 6 to 21 (fun s4 s5 wc=>∃be bf Fw2,s4=N (P ⟨be,0,R⟩)/\s5=N (P ⟨bf,0,R⟩)/\Y (StE W wc b v (d.next x) bs F Fw2 (d.X.goE x) be bf))
 case first=>
  go_region_held3 (fun w'=>w'.cell? ⟨b,0,R⟩=P (N (P ⟨v,0,R⟩))/\w'.cell? ⟨gx,0,R⟩=P (I J x.kind)/\w'.cell? ⟨gx,1,R⟩=P (I J x.core)/\w'.cell? ⟨gx,2,R⟩=P (I J x.m.p)/\w'.cell? ⟨gx,3,R⟩=P (I J x.m.s)/\w'.cell? ⟨gx,4,R⟩=P (I J x.m.f)/\w'.cell? ⟨gx,5,R⟩=P (I J x.m.r)/\w'.cell? ⟨gx,6,R⟩=P (I J x.q)/\w'.cell? ⟨gx,7,R⟩=P (I J x.k)/\w'.cell? ⟨gx,8,R⟩=P (Q x.u)) (go_keep) (first
   | (go_at_call 77;refine(HDB.out (W1.drew) ((zR W1).drew)).mono ?_;rintro e w2 ⟨rfl,Fw2,SD,q,q0,q1,q2,q3,q4,q5,q6,q7,q8⟩;have hl2:W1.heap.size<=w2.heap.size:=SD.out.le';have n1:w2.heap.size≠b:=(by omega);have n2:w2.heap.size≠gx:=(by omega);have n3:w2.heap.size+1≠b:=(by omega);have n4:w2.heap.size+1≠gx:=(by omega))
   | (go_at_call 77;refine(HDB.out ((W1.alloc (T #[I J 0,Q O,I J 0,I J 0,I J 0,Q O] 73)).drew) (zT (zA (zR W1) _) (zR _).drew)).mono ?_;rintro e w2 ⟨rfl,Fw2,SD,q,q0,q1,q2,q3,q4,q5,q6,q7,q8⟩;have hl2:W1.heap.size<w2.heap.size:=Z (by simp) SD.out.le';have n1:w2.heap.size≠b:=(by omega);have n2:w2.heap.size≠gx:=(by omega);have n3:w2.heap.size+1≠b:=(by omega);have n4:w2.heap.size+1≠gx:=(by omega);have n5:W1.heap.size≠w2.heap.size:=(by omega);have n6:w2.heap.size≠W1.heap.size:=(by omega);obtain⟨⟨z0,z1,z2,z3,z4,z5⟩,zf⟩:=z9 ((SD.out.row _ (kC _) (by simp)).trans (V W1 _)))
   | (go_at_call 77;refine(HDB.out ((W1.alloc (T #[I J 0,I J 0] 33)).drew) (zT (zA (zR W1) _) (zR _).drew)).mono ?_;rintro e w2 ⟨rfl,Fw2,SD,q,q0,q1,q2,q3,q4,q5,q6,q7,q8⟩;have hl2:W1.heap.size<w2.heap.size:=Z (by simp) SD.out.le';have n1:w2.heap.size≠b:=(by omega);have n2:w2.heap.size≠gx:=(by omega);have n3:w2.heap.size+1≠b:=(by omega);have n4:w2.heap.size+1≠gx:=(by omega);have n5:W1.heap.size≠w2.heap.size:=(by omega);have n6:w2.heap.size≠W1.heap.size:=(by omega);obtain⟨⟨v0,v1⟩,vf⟩:=zP ((SD.out.row _ (kC _) (by simp)).trans (V W1 _)))
   | (go_at_call 77;refine(HDB.out (((W1.alloc (T #[I J 0,Q O,I J 0,I J 0,I J 0,Q O] 73)).alloc (T #[I J 0,I J 0] 33)).drew) (zT (zA (zA (zR W1) _) _) (zR _).drew)).mono ?_;rintro e w2 ⟨rfl,Fw2,SD,q,q0,q1,q2,q3,q4,q5,q6,q7,q8⟩;have hl2:W1.heap.size+1<w2.heap.size:=Z (by simp) SD.out.le';have n1:w2.heap.size≠b:=(by omega);have n2:w2.heap.size≠gx:=(by omega);have n3:w2.heap.size+1≠b:=(by omega);have n4:w2.heap.size+1≠gx:=(by omega);have n5:W1.heap.size≠w2.heap.size:=(by omega);have n6:w2.heap.size≠W1.heap.size:=(by omega);obtain⟨⟨z0,z1,z2,z3,z4,z5⟩,zf⟩:=z9 ((SD.out.row _ (kC _) (by simp;omega)).trans (xS W1 _ _).1);obtain⟨⟨v0,v1⟩,vf⟩:=zP ((SD.out.row _ (kY _) (by simp)).trans (xS W1 _ _).2.1))
   | (go_at_call 77;refine(HDB.out (((W1.alloc (T #[I J 0,I J 0] 33)).alloc (T #[I J 0,Q O,I J 0,I J 0,I J 0,Q O] 73)).drew) (zT (zA (zA (zR W1) _) _) (zR _).drew)).mono ?_;rintro e w2 ⟨rfl,Fw2,SD,q,q0,q1,q2,q3,q4,q5,q6,q7,q8⟩;have hl2:W1.heap.size+1<w2.heap.size:=Z (by simp) SD.out.le';have n1:w2.heap.size≠b:=(by omega);have n2:w2.heap.size≠gx:=(by omega);have n3:w2.heap.size+1≠b:=(by omega);have n4:w2.heap.size+1≠gx:=(by omega);have n5:W1.heap.size≠w2.heap.size:=(by omega);have n6:w2.heap.size≠W1.heap.size:=(by omega);obtain⟨⟨v0,v1⟩,vf⟩:=zP ((SD.out.row _ (kC _) (by simp;omega)).trans (xS W1 _ _).1);obtain⟨⟨z0,z1,z2,z3,z4,z5⟩,zf⟩:=z9 ((SD.out.row _ (kY _) (by simp)).trans (xS W1 _ _).2.1)))
  all_goals
   go_wp2_with fail
   go_meet
   case rel=>
    refine⟨_,_,Fw2,rfl,rfl,?_⟩
    first
     | with_reducible exact ygF SD
     | with_reducible exact ygG SD
     | ((with_reducible refine ygH SD ?_);exact V W1 _)
     | ((with_reducible refine ygI SD ?_);exact V W1 _)
     | ((with_reducible refine ygJ SD ?_ ?_);exact(xS W1 _ _).1;exact(xS W1 _ _).2.1)
     | ((with_reducible refine ygK SD ?_ ?_);exact(xS W1 _ _).1;exact(xS W1 _ _).2.1)
 case rest=>
  obtain⟨be,bf,Fw2,rfl,rfl,HE⟩:=hcut;clear HDB T1 T1d NB x0 x1 x2 x3 x4 x5 x6 x7 x8 c0 lx lb nb nx nb' nx';have c0:=HE.out.tw.c0;obtain⟨⟨z0,z1,z2,z3,z4,z5⟩,zf⟩:=z9 (show wc.heap[be]?=P (T #[I J (d.X.goE x).c,Q (d.X.goE x).ended,I J (d.X.goE x).a,I J (d.X.goE x).f,I J (d.X.goE x).r,Q (d.X.goE x).back] 73 (0,0))from HE.out.ev);obtain⟨⟨v0,v1⟩,vf⟩:=zP (show wc.heap[bf]?=P (T #[I J 0,I J 0] 33 (0,0))from HE.out.fl);have lbe:be<wc.heap.size:=(U.1 HE.out.ev).1;have lbf:bf<wc.heap.size:=(U.1 HE.out.fl).1;have hb5:Below wc.heap.size wc (wc.alloc (evC (d.X.goE x))).drew:=zT (zA (zR wc) _) (zR _).drew
  have HV:=ja (P ⟨wc.heap.size,0,R⟩) 1 [d.X.goE x] HG.out (HE.out.tw.grow hb5).tl ((yfT (V wc (evC (d.X.goE x)))).below (zR _).drew) (fun g e _ hF=>by
   have:=HE.out.tw.tl.tl.lt hF;injection e with e;injection e with e
   omega) (by simpa using HFT.out) (by simp;omega)
  have EA:Y (∀w' cs,zd (wc.alloc (evC (d.X.goE x))).drew b (N (P ⟨v,0,R⟩)) F cs w'->(w'.cell? ⟨be,0,R⟩=P (I J (d.X.goE x).c)/\w'.cell? ⟨be,1,R⟩=P (Q (d.X.goE x).ended)/\w'.cell? ⟨be,2,R⟩=P (I J (d.X.goE x).a)/\w'.cell? ⟨be,3,R⟩=P (I J (d.X.goE x).f)/\w'.cell? ⟨be,4,R⟩=P (I J (d.X.goE x).r)/\w'.cell? ⟨be,5,R⟩=P (Q (d.X.goE x).back))/\w'.cell? ⟨bf,0,R⟩=P (I J 0)/\w'.cell? ⟨bf,1,R⟩=P (I J 0)):=fun w' cs hd=>by
   obtain⟨_,_,hbd,_⟩:=hd;have hc:∀g p,g<wc.heap.size->¬F g->w'.cell? ⟨g,p,R⟩=wc.cell? ⟨g,p,R⟩:=fun g p hg hn=>(hbd.cell (a:=⟨g,p,R⟩) (Z hg hb5.size) hn).trans (hb5.cell (p:=⟨g,p,R⟩) hg)
   have ne:¬F be:=fun e=>by have:=(HE.out.out be e).1;omega
   have nf:¬F bf:=fun e=>by have:=(HE.out.out bf e).2;omega
   exact⟨⟨(hc be _ lbe ne).trans z0,(hc be _ lbe ne).trans z1,(hc be _ lbe ne).trans z2,(hc be _ lbe ne).trans z3,(hc be _ lbe ne).trans z4,(hc be _ lbe ne).trans z5⟩,(hc bf _ lbf nf).trans v0,(hc bf _ lbf nf).trans v1⟩
  have HAF:Y (∀cs w',zd (wc.alloc (evC (d.X.goE x))).drew b (N (P ⟨v,0,R⟩)) F cs w'->zd wc b (N (P ⟨v,0,R⟩)) F cs w'):=fun cs w' h=>zd.after hb5 h;clear hb5;unfold evC at HV EA HAF
  go_upto_region 2 with fail
  go_region_held3 (fun w'=>(w'.cell? ⟨be,0,R⟩=P (I J (d.X.goE x).c)/\w'.cell? ⟨be,1,R⟩=P (Q (d.X.goE x).ended)/\w'.cell? ⟨be,2,R⟩=P (I J (d.X.goE x).a)/\w'.cell? ⟨be,3,R⟩=P (I J (d.X.goE x).f)/\w'.cell? ⟨be,4,R⟩=P (I J (d.X.goE x).r)/\w'.cell? ⟨be,5,R⟩=P (Q (d.X.goE x).back))/\w'.cell? ⟨bf,0,R⟩=P (I J 0)/\w'.cell? ⟨bf,1,R⟩=P (I J 0)) (go_keep) (first
   | (go_at_call 74;refine HV.mono ?_;rintro e w4 ⟨rfl,hd⟩;have D4:Y _:=hd;obtain⟨⟨q0,q1,q2,q3,q4,q5⟩,q6,q7⟩:=EA.out _ _ hd;clear hd))
  all_goals
   obtain⟨F5,t5,_⟩:=HE.out.tw.told' (HAF.out _ _ D4.out)
   have T5:Y (Tw W w4 b v (d.next x) (bs++Pg.tEv (d.X.goE x)) F5 Fw2):=by
    rw[Y]
    simpa[Pg.tEvs]using t5
   clear t5 HV HE HAF z0 z1 z2 z3 z4 z5 v0 v1 q0 q1 q2 q3 q4 q5 q6 q7 EA D4
   go_wp2_with fail
   go_end0
   exact⟨rfl,F5,Fw2,T5.out⟩
end
namespace Pg
structure Dk.Ok (d:Dk):Prop where
 ti:0<=d.ti/\d.ti<=100000
 co:d.X.C.length<=4
 maps:∀m ∈ d.X.maps,m.Fits
 mlen:d.X.maps.length<=5000
 lines:∀k,∀l ∈ d.X.linesOf k,l.m.Fits
 llen:∀k,(d.X.linesOf k).length<=5000
 fm:∀p,(tFM d.X.S 0 p).Fits
 fc:∀p,fits (tFC d.X.S 0 p)
 ev:∀x,xi x->(d.X.goE x).Fits
 rE:∀e ∈ d.trs.rest.E,e.Fits
 rl:d.trs.rest.E.length<=1000
 rf:fits d.trs.rest.X.S.free
 rt:d.trs.rest.X.tabs.length<=5000
def Dk.stp (d:Dk) (wd:List UInt8) (ns:List Int):Option Dk×List UInt8×Bool:=
 match yhU wd ns with
 | some x=>(P (d.next x),tEv (d.X.goE x),kI)
 | none=>(P d,[],O)
def askD (o:Option Dk) (wd:List UInt8) (ns:List Int):Option Dk×List UInt8×Bool:=
 if wd=[110,101,119]/\ns.length=2 then(yjS (ns.getD 0 0) (ns.getD 1 0),yjT (ns.getD 0 0) (ns.getD 1 0),kI)
 else match o with
 | none=>(R,[],O)
 | some d=>
   match ns with
   | []=>if wd=[108,105,115,116]then(P d,yii d.X.maps++tell [101,110,100] [],kI)else if wd=[99,97,108,109]then(P (.of d.trs.rest),ylI d,kI)else(P d,[],O)
   | [a]=>if wd=[102,105,110,100]then(P d,ylj d.X a,kI)else if wd=[107,101,112,116]then(P d,yhJ (d.X.linesOf a)++tell [101,110,100] [],kI)else d.stp wd [a]
   | ns=>d.stp wd ns
end Pg
section
variable {W:Bs} {w w':kJ} {b v:Nat} {d:Pg.Dk} {bs cs:List UInt8} {F Fw:Nat->Prop}
theorem ygf (wd:ByteArray) (ad:Option Addr) (cap:Nat) (hok:d.Ok) (hG:xZ W) (h:Tw W w b v d bs F Fw) (hl:bs.length<=50000000000000):
 kS M 19 #[N (P ⟨b,0,R⟩),.string wd,kR ad 0 cap] w fun e w'=>e=K (Q (Pg.askD (P d) wd.toList []).2.2)/\Tn W w' b (Pg.askD (P d) wd.toList []).1 (bs++(Pg.askD (P d) wd.toList []).2.1):=by
 obtain⟨W1,hW1⟩:∃W1,W1=w.alloc (T #[.string wd,I J 0] 110):=⟨_,rfl⟩
 have hb1:Below w.heap.size w W1:=by rw[hW1];exact zA (zR w) _
 obtain⟨⟨f0,f1⟩,_⟩:=zP (show W1.heap[w.heap.size]?=P (T #[.string wd,I J 0] 110 (0,0)) by rw[hW1];exact V _ _);have T1:Y (Tw W W1 b v d bs F Fw):=h.grow hb1;have c0:=T1.out.c0;have HL:=ybO hG T1.out hok.maps hok.mlen hl;have HC:=ybL hG T1.out hok.ti hok.co hok.rE hok.rl hok.rf hok.rt hl;have HN:=vF wd 0 ad cap W1 (by decide) (by decide) (by decide);simp only[Pg.sx0,Pg.Sx.val]at HN;clear hb1 h hG hok
 go_enter Tryz.func19,Tryz.ntmps19
 go_upto_region 2 with fail
 rw[<-hW1];clear hW1;generalize w.heap.size=gx at*;have HSN:Pg.yhU wd.toList []=R:=rfl
 go_wp2_with fail
 all_goals first
  | (go_at_call 43
     have HA:Y (Pg.askD (P d) wd.toList []=(P d,Pg.yii d.X.maps++Pg.tell [101,110,100] [],kI)):=(by simp[Y,Pg.askD, *]);refine HL.mono ?_;rintro e w2 ⟨rfl,hT⟩;have HTT:Y _:=hT;clear hT
     go_wp2_with fail
     go_ret
     rw[HA.out];obtain⟨F5,t5⟩:=HTT.out
     exact⟨rfl,v,F5,Fw,by simpa using t5⟩)
  | (go_at_call 44
     have HA:Y (Pg.askD (P d) wd.toList []=(P (.of d.trs.rest),Pg.ylI d,kI)):=(by simp[Y,Pg.askD, *]);refine HC.mono ?_;rintro e w2 ⟨rfl,hT⟩;have HTT:Y _:=hT;clear hT
     go_wp2_with fail
     go_ret
     rw[HA.out];obtain⟨F5,Fw5,t5⟩:=HTT.out
     exact⟨rfl,v,F5,Fw5,t5⟩)
  | (go_at_call 45
     have HA:Y (Pg.askD (P d) wd.toList []=(P d,[],O)):=(by simp[Y,Pg.askD,Pg.Dk.stp,HSN, *]);refine HN.mono ?_;rintro e w2 ⟨rfl,hb2⟩;have T2:Y _:=T1.out.grow hb2;clear hb2
     go_wp2_with fail
     go_ret
     rw[HA.out]
     exact⟨rfl,v,F,Fw,by simpa using T2.out.grow (zA (zR _) _)⟩)
end
section
variable {W:Bs} {w w':kJ} {b v:Nat} {d:Pg.Dk} {bs cs:List UInt8} {F Fw:Nat->Prop}
theorem yfH {w:kJ} {r:Nat} {v0 v1 v2 v3 v4 v5 v6 v7 v8:kN} {t:TypeId} (h:w.heap[r]?=P (T #[v0,v1,v2,v3,v4,v5,v6,v7,v8] t (0,0))):
 w.cell? ⟨r,0,R⟩=P v0/\w.cell? ⟨r,1,R⟩=P v1/\w.cell? ⟨r,2,R⟩=P v2/\w.cell? ⟨r,3,R⟩=P v3/\w.cell? ⟨r,4,R⟩=P v4/\w.cell? ⟨r,5,R⟩=P v5/\w.cell? ⟨r,6,R⟩=P v6/\w.cell? ⟨r,7,R⟩=P v7/\w.cell? ⟨r,8,R⟩=P v8:=by simp[World.cell?,h]
theorem ybC (wd:List UInt8) {a:Int} (ha:Pg.fits a):∀x,Pg.yhU wd [a]=P x->xi x:=by
 intro x hx
 have f0:Pg.fits 0:=by unfold Pg.fits;omega
 simp only[Pg.yhU]at hx
 repeat' (split at hx)
 all_goals first
  | (cases hx;done)
  | (injection hx with hx;subst hx;exact⟨by assumption,by assumption,by assumption,by assumption,by assumption,by assumption⟩)
theorem ygg (wd:ByteArray) (a:Int) (ad:Option Addr) (cap:Nat) (hn:zl w ad [a]) (ha:Pg.fits a) (hok:d.Ok) (hG:xZ W) (h:Tw W w b v d bs F Fw) (hl:bs.length<=50000000000000):
 kS M 19 #[N (P ⟨b,0,R⟩),.string wd,kR ad 1 cap] w fun e w'=>e=K (Q (Pg.askD (P d) wd.toList [a]).2.2)/\Tn W w' b (Pg.askD (P d) wd.toList [a]).1 (bs++(Pg.askD (P d) wd.toList [a]).2.1):=by
 obtain⟨W1,hW1⟩:∃W1,W1=w.alloc (T #[.string wd,I J 1] 110):=⟨_,rfl⟩
 have hb1:Below w.heap.size w W1:=by rw[hW1];exact zA (zR w) _
 obtain⟨⟨f0,f1⟩,_⟩:=zP (show W1.heap[w.heap.size]?=P (T #[.string wd,I J 1] 110 (0,0)) by rw[hW1];exact V _ _);have T1:Y (Tw W W1 b v d bs F Fw):=h.grow hb1;have c0:=T1.out.c0;have hn1:=hn.below hb1;obtain⟨g,rfl,hg,k0⟩:=hn1 0 (by simp);simp only[H,G]at k0;have HF:=ybM a hG T1.out (hok.fm a) (hok.fc a) hl;have HK:=ybN a hG T1.out (hok.lines a) (hok.llen a) hl;have HN:=yfb wd a _ cap W1 hn1;have HG:Y _:=hG;have HTI:Y (0<=d.ti/\d.ti<4611686018427387904):=⟨hok.ti.1,by have:=hok.ti.2;omega⟩;have HEV:Y (∀x,xi x->(d.X.goE x).Fits):=hok.ev;have HLL:Y _:=hl;have HXF:Y (∀x,Pg.yhU wd.toList [a]=P x->xi x):=ybC wd.toList ha;clear hb1 h hG hok hn hn1 hl ha
 cases HSN:Pg.yhU wd.toList [a]with
 | none=>
   rw[HSN]at HN;simp only[Option.getD_none,Option.isSome_none,Pg.sx0,Pg.Sx.val]at HN
   go_enter Tryz.func19,Tryz.ntmps19
   go_upto_region 2 with fail
   rw[<-hW1];clear hW1;generalize w.heap.size=gx at*
   go_wp2_with fail
   all_goals first
   | (go_at_call 41
      have HA:Y (Pg.askD (P d) wd.toList [a]=(P d,Pg.ylj d.X a,kI)):=(by simp[Y,Pg.askD, *]);refine HF.mono ?_;rintro e w2 ⟨rfl,hT⟩;have HTT:Y _:=hT;clear hT
      go_wp2_with fail
      go_ret
      rw[HA.out];obtain⟨F5,t5⟩:=HTT.out
      exact⟨rfl,v,F5,Fw,t5⟩)
   | (go_at_call 42
      have HA:Y (Pg.askD (P d) wd.toList [a]=(P d,Pg.yhJ (d.X.linesOf a)++Pg.tell [101,110,100] [],kI)):=(by simp[Y,Pg.askD, *]);refine HK.mono ?_;rintro e w2 ⟨rfl,hT⟩;have HTT:Y _:=hT;clear hT
      go_wp2_with fail
      go_ret
      rw[HA.out];obtain⟨F5,t5⟩:=HTT.out
      exact⟨rfl,v,F5,Fw,by simpa using t5⟩)
   | (go_at_call 45
      have HA:Y (Pg.askD (P d) wd.toList [a]=(P d,[],O)):=(by simp[Y,Pg.askD,Pg.Dk.stp,HSN, *]);refine HN.mono ?_;rintro e w2 ⟨rfl,hb2⟩;have T2:Y _:=T1.out.grow hb2;clear hb2
      go_wp2_with fail
      go_ret
      rw[HA.out]
      exact⟨rfl,v,F,Fw,by simpa using T2.out.grow (zA (zR _) _)⟩)
 | some x=>
   have hxf:=HXF.out x HSN;rw[HSN]at HN;simp only[Option.getD_some,Option.isSome_some]at HN
   go_enter Tryz.func19,Tryz.ntmps19
   go_upto_region 2 with fail
   rw[<-hW1];clear hW1;generalize w.heap.size=gx at*
   go_wp2_with fail
   all_goals first
   | (go_at_call 41
      have HA:Y (Pg.askD (P d) wd.toList [a]=(P d,Pg.ylj d.X a,kI)):=(by simp[Y,Pg.askD, *]);refine HF.mono ?_;rintro e w2 ⟨rfl,hT⟩;have HTT:Y _:=hT;clear hT
      go_wp2_with fail
      go_ret
      rw[HA.out];obtain⟨F5,t5⟩:=HTT.out
      exact⟨rfl,v,F5,Fw,t5⟩)
   | (go_at_call 42
      have HA:Y (Pg.askD (P d) wd.toList [a]=(P d,Pg.yhJ (d.X.linesOf a)++Pg.tell [101,110,100] [],kI)):=(by simp[Y,Pg.askD, *]);refine HK.mono ?_;rintro e w2 ⟨rfl,hT⟩;have HTT:Y _:=hT;clear hT
      go_wp2_with fail
      go_ret
      rw[HA.out];obtain⟨F5,t5⟩:=HTT.out
      exact⟨rfl,v,F5,Fw,by simpa using t5⟩)
   | (go_at_call 45
      have HA:Y (Pg.askD (P d) wd.toList [a]=(P (d.next x),Pg.tEv (d.X.goE x),kI)):=(by simp[Y,Pg.askD,Pg.Dk.stp,HSN, *]);refine HN.mono ?_;rintro e w2 ⟨rfl,hb2⟩;obtain⟨xk,xc,⟨mp,ms,mf,mr⟩,xq,xa,xu⟩:=x;obtain⟨W3,hW3⟩:∃W3,W3=w2.alloc (T #[I J xk,I J xc,I J mp,I J ms,I J mf,I J mr,I J xq,I J xa,Q xu] 80):=⟨_,rfl⟩;have hb3:Below w2.heap.size w2 W3:=(by rw[hW3];exact zA (zR _) _);have hx3:W3.heap[w2.heap.size]?=P (T #[I J xk,I J xc,I J mp,I J ms,I J mf,I J mr,I J xq,I J xa,Q xu] 80 (0,0)):=(by rw[hW3];exact V _ _);obtain⟨z0,z1,z2,z3,z4,z5,z6,z7,z8⟩:=yfH hx3;have T3:Y _:=T1.out.grow (zT hb2 hb3);have HS:=qN ⟨xk,xc,⟨mp,ms,mf,mr⟩,xq,xa,xu⟩ hxf HG.out T3.out HTI.out (HEV.out _ hxf) HLL.out;simp only[Pg.Sx.val]at HS ⊢;clear hb2 hb3 hx3
      go_upto_region 9 with fail
      rw[<-hW3];clear hW3
      go_wp2_with fail
      refine HS.mono ?_;rintro e w4 ⟨rfl,hT⟩;have HTT:Y _:=hT;clear hT HS
      go_wp2_with fail
      go_ret
      rw[HA.out];obtain⟨F5,Fw5,t5⟩:=HTT.out
      exact⟨rfl,v,F5,Fw5,t5⟩)
end
end Go.Proofs.YtdphiompijbelaaGreatDoor
