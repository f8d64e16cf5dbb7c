import Derived.Test.YtdphiompijbelaaGreatTabB
set_option linter.all false
set_option maxRecDepth 100000
open Go.Proofs.Tryz renaming prog->kJ
open Go.Ending renaming returned->kI
open Nat renaming le_refl->z,le_trans->kN
open List renaming length_singleton->A,length_append->y
open Go.RowKit renaming Hid->U
open Go.World renaming block_lt_of_cell?->V,cell?_of_block->Q,frozen?_of_block->E,cell?_setCell_other->kP,cell?_setCell_same->kS,frozen?_setCell->kT
open Bool renaming false->N,true->M
open Go.Value renaming int->R,slice->O,bool->K,ownBlock->D,tuple->kC,pointer->kY,slice->kF,agg->kQ,int->kU
open Go.IntKind renaming i64->C
open Option renaming none->J,some->Z
open Go renaming cell_later->I,bodyPost_ret->L,World->kR,Value->kV,Calls->kZ
set_option maxHeartbeats 4000000
namespace Go.Proofs.YtdphiompijbelaaGreat
open Go.RowKit Go.Sort
theorem yfe {e:Pg.En} {lv:Nat} {p r:Int} (hf:e.fault lv=0) (ht:e.t=M) (hl:e.l=M) (hp:Pg.below p 4096=M) (h0:0<=r) (h1:r<=7):Pg.En.map ⟨e.t,e.l,r,e.u,e.d,e.f⟩ lv p=(e.map lv p).rts r:=by
 obtain⟨et,el,er,eu,ed,ef⟩:=e;simp only at ht hl;subst ht hl;unfold Pg.En.fault at hf
 have hf':Pg.ygu M M r eu ed ef lv=0:=by
  unfold Pg.ygu at hf ⊢;simp only at hf;rw[if_neg (by omega)]
  rw[if_neg (by simp),if_neg (by rintro (h|h|h|h)<;>simp_all<;>omega)]
  split at hf
  ·omega
  ·rw[if_neg (by simp)]at hf
   split at hf
   ·omega
   ·simpa using hf
 have o1:Pg.lOk M M er eu ed ef lv p=M:=by
  simp only[Pg.lOk,hf,hp];simp
 have o2:Pg.lOk M M r eu ed ef lv p=M:=by
  simp only[Pg.lOk,hf',hp];simp
 simp[Pg.En.map,Pg.Mp.rts,Pg.yh1,Pg.yir,Pg.yhV,Pg.yhv,o1,o2]
theorem vZ {w w1:kR} (h:Below w.heap.size w w1) (r:Nat) (hr:w.heap.size<=r) (x0 x1 x2 x3 x4 x5:kV):
 Below w.heap.size w ((((((w1.setCell ⟨r,0,J⟩ x0).setCell ⟨r,1,J⟩ x1).setCell ⟨r,2,J⟩ x2).setCell ⟨r,3,J⟩ x3).setCell ⟨r,4,J⟩ x4).setCell ⟨r,5,J⟩ x5):=
 (((((h.setCell (p:=⟨r,0,J⟩) hr x0).setCell (p:=⟨r,1,J⟩) hr x1).setCell (p:=⟨r,2,J⟩) hr x2).setCell (p:=⟨r,3,J⟩) hr x3).setCell (p:=⟨r,4,J⟩) hr x4).setCell (p:=⟨r,5,J⟩) hr x5
theorem yd7 {b:Nat} {S:Pg.Fs} {F:Nat->Prop} (t p:Int) (w:kR) (h:zd w b S F):
 kZ kJ 70 #[kY (Z ⟨b,0,J⟩),R C t,R C p] w fun en w'=>en=kI (kC #[(Pg.tFM S t p).val,(Pg.tFE S t p).val,R C (Pg.tFC S t p)])/\Below w.heap.size w w':=by
 obtain⟨W2,hW2⟩:∃W2,W2=(w.alloc (.cells #[R C 0,R C 0,R C 0,R C 0] 39)).alloc (.cells #[K N,K N,R C 0,K N,K N,R C 0] 70):=⟨_,rfl⟩
 have hB2:Below w.heap.size w W2:=by rw[hW2];exact zA (zA (zR w) _) _
 have r4:W2.cell? ⟨w.heap.size,0,J⟩=Z (R C 0)/\W2.cell? ⟨w.heap.size,1,J⟩=Z (R C 0)/\W2.cell? ⟨w.heap.size,2,J⟩=Z (R C 0)/\W2.cell? ⟨w.heap.size,3,J⟩=Z (R C 0):=by rw[hW2];simp[go_sem]
 have r6:W2.cell? ⟨w.heap.size+1,0,J⟩=Z (K N)/\W2.cell? ⟨w.heap.size+1,1,J⟩=Z (K N)/\W2.cell? ⟨w.heap.size+1,2,J⟩=Z (R C 0)/\W2.cell? ⟨w.heap.size+1,3,J⟩=Z (K N)/\W2.cell? ⟨w.heap.size+1,4,J⟩=Z (K N)/\W2.cell? ⟨w.heap.size+1,5,J⟩=Z (R C 0):=by rw[hW2];simp[go_sem]
 have rf4:∀o,W2.frozen? ⟨w.heap.size,o,J⟩=N:=fun o=>by rw[hW2];simp[go_sem]
 have rf6:∀o,W2.frozen? ⟨w.heap.size+1,o,J⟩=N:=fun o=>by rw[hW2];simp[go_sem]
 have hsz:W2.heap.size=w.heap.size+2:=by rw[hW2];simp
 have HW:=xQ t p W2 (h.keep (G:=fun _=>False) (But.ygr hB2) fun _ _=>id);have HR4:U _:=r4;have HR6:U _:=r6;have HF4:U _:=rf4;have HF6:U _:=rf6;have HB2:U _:=hB2;have e2:Pg.tFM S t p=if Pg.tFC S t p=0 then(ygv (zt S t p)).map (ygw (zt S t p)) p else .zz:=rfl;have e3:Pg.tFE S t p=if Pg.tFC S t p=0 then ygv (zt S t p)else Pg.En.zero:=rfl;generalize Pg.tFC S t p=cc at*;generalize Pg.tFM S t p=mm at*;generalize Pg.tFE S t p=ee at*;generalize zt S t p=X at*;generalize ygw X=lv at*;generalize ygv X=e at*;have H0:U (zd w b S F):=h;clear h r4 r6 rf4 rf6 hB2
 go_enter Tryz.func70,Tryz.ntmps70
 go_wp2_with fail
 rw[<-hW2];clear hW2;refine HW.mono ?_;rintro en w3 ⟨k,rfl,hS,hb3⟩;obtain⟨z0,z1,z2,z3⟩:=xc hb3 HR4.out;obtain⟨y0,y1,y2,y3,y4,y5⟩:=zQ hb3 HR6.out;have zf:∀o,w3.frozen? ⟨w.heap.size,o,J⟩=N:=fun o=>(hb3.frozen (p:=⟨w.heap.size,o,J⟩) (by show w.heap.size<_;omega)).trans (HF4.out o);have yf:∀o,w3.frozen? ⟨w.heap.size+1,o,J⟩=N:=fun o=>(hb3.frozen (p:=⟨w.heap.size+1,o,J⟩) (by show w.heap.size+1<_;omega)).trans (HF6.out o);have HB3:U (Below w.heap.size w w3):=zT HB2.out hb3;have hl3:w.heap.size<w3.heap.size:=V _ _ z0;have hl3':w.heap.size+1<w3.heap.size:=V _ _ y0;clear HW hb3 HR4 HR6 HF4 HF6 HB2
 by_cases hc:cc=0
 ·subst hc
  rw[if_pos rfl]at e2 e3;have E2:U _:=e2;have E3:U _:=e3;have HMap:=fun W' (hb:Below w3.heap.size w3 W')=>qv (hS.grow hb);obtain⟨B,v1,v2,F',hM,_,_,_,_,_,hmk⟩:=hS.body;have hki:k<w.heap.size\/W2.heap.size<=k:=(hmk k (.inl rfl)).imp (fun h=>zd.lt H0.out h) id;clear hmk;have k2:=hM.c2;have k3:=hM.c3;have k4:=hM.c4;have k5:=hM.c5;have k6:=hM.c6;have k7:=hM.c7;have hlk:=hM.lb;clear hM hS e2 e3;generalize e.map lv p=m at*;obtain⟨mp,ms,mf,mr⟩:=m;obtain⟨et,el,er,eu,ed,ef⟩:=e;simp only at k2 k3 k4 k5 k6 k7;simp only[Pg.Mp.val]at HMap
  have n1:¬k=w.heap.size:=by omega
  have n2:¬k=w.heap.size+1:=by omega
  have n1':¬w.heap.size=k:=by omega
  have n2':¬w.heap.size+1=k:=by omega
  go_wp2_with fail
  go_region_held3 (fun w'=>w'.cell? ⟨k,2,J⟩=Z (K et)/\w'.cell? ⟨k,3,J⟩=Z (K el)/\w'.cell? ⟨k,4,J⟩=Z (R C er)/\w'.cell? ⟨k,5,J⟩=Z (K eu)/\w'.cell? ⟨k,6,J⟩=Z (K ed)/\w'.cell? ⟨k,7,J⟩=Z (R C ef)) (go_keep) (
   (go_at_call 121;refine(HMap _ (by first|exact(zR w3).drew|exact zR w3)).mono ?_;rintro en w4 ⟨rfl,hb4⟩
    have HB4:U (Below w3.heap.size w3 w4):=zT (zR w3).drew hb4;have q2:=I HB4.out k2;have q3:=I HB4.out k3;have q4:=I HB4.out k4;have q5:=I HB4.out k5;have q6:=I HB4.out k6;have q7:=I HB4.out k7;have x0:=I HB4.out z0;have x1:=I HB4.out z1;have x2:=I HB4.out z2;have x3:=I HB4.out z3;have u0:=I HB4.out y0;have u1:=I HB4.out y1;have u2:=I HB4.out y2;have u3:=I HB4.out y3;have u4:=I HB4.out y4;have u5:=I HB4.out y5;have xf:∀o,w4.frozen? ⟨w.heap.size,o,J⟩=N:=fun o=>(HB4.out.frozen (p:=⟨w.heap.size,o,J⟩) hl3).trans (zf o);have uf:∀o,w4.frozen? ⟨w.heap.size+1,o,J⟩=N:=fun o=>(HB4.out.frozen (p:=⟨w.heap.size+1,o,J⟩) hl3').trans (yf o)
    clear hb4))
  go_wp2_with fail
  refine L (v:=kC #[kQ #[R C mp,R C ms,R C mf,R C mr],kQ #[K et,K el,R C er,K eu,K ed,R C ef],R C 0]) ?_ rfl ⟨by rw[E2.out,E3.out];rfl,?_⟩
  ·simp[results,Tryz.results70,go_sem,x0,x1,x2,x3,u0,u1,u2,u3,u4,u5]
  ·exact vZ (zq (zT HB3.out HB4.out) w.heap.size (z _) _ _ _ _) (w.heap.size+1) (by omega) _ _ _ _ _ _
 ·have hcb:(cc !=0)=M:=by simp[hc]
  rw[if_neg hc]at e2 e3;have E2:U _:=e2;have E3:U _:=e3;clear e2 e3 hc hS
  go_wp2_with fail
  refine L (v:=kC #[kQ #[R C 0,R C 0,R C 0,R C 0],kQ #[K N,K N,R C 0,K N,K N,R C 0],R C cc]) ?_ rfl ⟨by rw[E2.out,E3.out];rfl,?_⟩
  ·simp[results,Tryz.results70,go_sem,z0,z1,z2,z3,y0,y1,y2,y3,y4,y5]
  ·exact vZ (zq HB3.out w.heap.size (z _) _ _ _ _) (w.heap.size+1) (by omega) _ _ _ _ _ _
theorem yer (r:Int):Pg.check 0 0 0 r=if r<0\/7<r then 1 else 0:=by
 unfold Pg.check
 split<;>split<;>simp_all[Pg.below,Pg.span]<;>omega
theorem ydf {X:List Pg.Sp} (h:1<=X.length):∃Y s,X=Y++[s]:=by
 rcases List.eq_nil_or_concat X with rfl|⟨Y,s,rfl⟩
 ·simp at h
 ·exact⟨Y,s,by simp⟩
theorem qK {S:Pg.Fs} {t p:Int} (hz:qq S t p=0):∃Y s lv,zt S t p=Y++[s]/\Pg.Way S t p (Y++[s]) lv s.e s.table/\s.level=lv/\lv<=3/\Y.length<=3/\(s.place:Int)=Pg.index p (lv:Int)/\s.place=Pg.ix p lv:=by
 obtain⟨lv,e,tl,W⟩:=Pg.yix hz;have h4:=W.len
 have hX1:1<=(zt S t p).length:=by
  cases hX:zt S t p with
  | nil=>
    have h5:=W.ygw;rw[hX]at h5 h4;simp[ygw]at h5 h4;omega
  | cons a l=>simp
 obtain⟨Y,s,hY⟩:=ydf hX1;have e1:ygw (Y++[s])=s.level:=jJ Y s;have e2:ygv (Y++[s])=s.e:=jI Y s
 have e3:lastT (Y++[s])=s.table:=by simp[lastT]
 have hi:=yam S t p (i:=Y.length) (by rw[hY];simp);rw[hY]at W h4 hi;rw[y,A]at h4;have hl:=W.ygw;rw[e1]at hl
 have hl':s.level=lv:=by omega
 have he:=W.ygv;rw[e2]at he;have ht:=W.lastT;rw[e3]at ht;subst he ht
 have hpl:(qz (Y++[s])).getD Y.length 0=(s.place:Int):=by simp[qz]
 have hix:=Pg.ygA hi.1 (lv:=lv) (by omega)
 have hpp:(s.place:Int)=Pg.index p (lv:Int):=by rw[<-hpl,hi.2.2,show(3-(Y.length:Int))=(lv:Int) by omega]
 exact⟨Y,s,lv,hY,W,hl',by omega,by omega,hpp,by omega⟩
theorem ybD {b:Nat} {S:Pg.Fs} {F:Nat->Prop} (t p r:Int) (w:kR) (h:zd w b S F):
 kZ kJ 91 #[kY (Z ⟨b,0,J⟩),R C t,R C p,R C r] w fun en w'=>en=kI (kC #[(Pg.prM S t p r).val,R C (Pg.prC S t p r)])/\∃F',zd w' b (Pg.prS S t p r) F'/\But F w w'/\∀k,F' k->F k\/w.heap.size<=k:=by
 have HC:=xO 0 0 0 r;rw[yer]at HC;have H:U (zd w b S F):=h;obtain⟨W1,hW1⟩:∃W1,W1=w.alloc (.cells #[R C 0,R C 0,R C 0,R C 0] 39):=⟨_,rfl⟩
 have hB1:Below w.heap.size w W1:=by rw[hW1];exact zA (zR w) _
 have r4:W1.cell? ⟨w.heap.size,0,J⟩=Z (R C 0)/\W1.cell? ⟨w.heap.size,1,J⟩=Z (R C 0)/\W1.cell? ⟨w.heap.size,2,J⟩=Z (R C 0)/\W1.cell? ⟨w.heap.size,3,J⟩=Z (R C 0):=by rw[hW1];simp[go_sem]
 have rf4:∀o,W1.frozen? ⟨w.heap.size,o,J⟩=N:=fun o=>by rw[hW1];simp[go_sem]
 have HR4:U _:=r4;have HF4:U _:=rf4;have HB1:U _:=hB1;have fin0:U (∀w',Below w.heap.size w w'->∃F',zd w' b S F'/\But F w w'/\∀k,F' k->F k\/w.heap.size<=k):=fun w' hb=>⟨F,zd.keep (G:=fun _=>False) H.out (But.ygr hb) fun _ _=>id,But.ygr hb,fun k hk=> .inl hk⟩
 by_cases hr:r<0\/7<r
 ·have e1:Pg.prC S t p r=1:=by rw[Pg.prC,if_pos hr]
  have e2:Pg.prM S t p r= .zz:=by rw[Pg.prM,e1,if_neg (by decide)]
  have e3:Pg.prS S t p r=S:=by rw[Pg.prS,e1,if_neg (by decide)]
  rw[e1,e2,e3];rw[if_pos hr]at HC;clear h e1 e2 e3 hr r4 rf4 hB1
  go_enter Tryz.func91,Tryz.ntmps91
  go_wp2_with fail
  rw[<-hW1];clear hW1;refine(HC _).mono ?_;rintro en w2 ⟨rfl,hb2⟩;obtain⟨z0,z1,z2,z3⟩:=xc hb2 HR4.out;have hlw:w.heap.size<W1.heap.size:=V _ _ HR4.out.1;have zf:∀o,w2.frozen? ⟨w.heap.size,o,J⟩=N:=fun o=>(hb2.frozen (p:=⟨w.heap.size,o,J⟩) hlw).trans (HF4.out o);have HB2:U (Below w.heap.size w w2):=zT HB1.out hb2;clear hb2
  go_wp2_with fail
  refine L (v:=kC #[kQ #[R C 0,R C 0,R C 0,R C 0],R C 1]) ?_ rfl ⟨rfl,fin0.out _ (zq HB2.out w.heap.size (z _) _ _ _ _)⟩;simp[results,Tryz.results91,go_sem,z0,z1,z2,z3]
 ·have e1:Pg.prC S t p r=Pg.tFC S t p:=by rw[Pg.prC,if_neg hr]
  rw[if_neg hr]at HC;have HW:=fun w2 (hb:Below w.heap.size w w2)=>xQ t p w2 (h.keep (G:=fun _=>False) (But.ygr hb) fun _ _=>id)
  by_cases hc:Pg.tFC S t p=0
  ·have hz:qq S t p=0:=by
    by_cases hz:qq S t p=0
    ·exact hz
    ·rw[Pg.tFC,if_pos hz]at hc
     exact absurd hc hz
   obtain⟨Y,s,lv,hY,W,hsl,hl3,hY3,hpl,hix⟩:=qK hz;have hf:=Pg.yhy h.ok W.code;rw[<-W.en]at hf
   have ht:s.e.t=M:=by
    rw[Pg.tFC,hz,if_neg (by decide),hY,W.ygv]at hc;cases hst:s.e.t
    ·rw[hst]at hc;simp at hc
    ·rfl
   have hl:s.e.l=M:=by
    have:=W.on;unfold Pg.En.on at this;rw[ht]at this
    simpa using this
   have e5:Pg.tFM S t p=s.e.map (lv:Int) p:=by rw[Pg.tFM,if_pos hc,hY,W.ygv,W.ygw]
   have e2:Pg.prM S t p r=Pg.En.map ⟨s.e.t,s.e.l,r,s.e.u,s.e.d,s.e.f⟩ (lv:Int) p:=by rw[Pg.prM,e1,if_pos hc,e5];exact(yfe hf ht hl W.below (by omega) (by omega)).symm
   have e3:Pg.prS S t p r=S.store s.table (s.place:Int) (Pg.enc s.e.t s.e.l r s.e.u s.e.d s.e.f (lv:Int)):=by
    rw[Pg.prS,e1,if_pos hc,hY,W.lastT,W.ygw,W.ygv,hpl]
   have e6:tabs (Y++[s])=tabs Y++[s.table]:=by simp[tabs]
   have e7:qz (Y++[s])=qz Y++[(s.place:Int)]:=by simp[qz]
   rw[e1,e2,e3,hc];rw[hc,hY,W.ygw,W.ygv,e6,e7]at HW
   have hlen:(tabs Y).length=(qz Y).length:=by rw[xM,j9]
   have hlt:(tabs Y).length<4000:=by rw[xM];omega
   clear e1 e2 e3 e5 e6 e7 hf hY W hix hpl hc hz h r4 rf4 hB1 hr;obtain⟨st,sp,sl,sa,⟨et,el,er,eu,ed,ef⟩⟩:=s;simp only at ht hl HW ⊢;generalize (sp:Int)=pl at*;subst ht hl;generalize hmm:Pg.En.map ⟨M,M,r,eu,ed,ef⟩ (lv:Int) p=m at*;have HMM:U _:=hmm;clear hmm;obtain⟨mp,ms,mf,mr⟩:=m;simp only[Pg.Mp.val]
   go_enter Tryz.func91,Tryz.ntmps91
   go_wp2_with fail
   rw[<-hW1];clear hW1;refine(HC _).mono ?_;rintro en w2 ⟨rfl,hb2⟩;obtain⟨z0,z1,z2,z3⟩:=xc hb2 HR4.out;have hlw:w.heap.size<W1.heap.size:=V _ _ HR4.out.1;have hlw2:w.heap.size<w2.heap.size:=V _ _ z0;have zf:∀o,w2.frozen? ⟨w.heap.size,o,J⟩=N:=fun o=>(hb2.frozen (p:=⟨w.heap.size,o,J⟩) hlw).trans (HF4.out o);have HB2:U (Below w.heap.size w w2):=zT HB1.out hb2;clear hb2 HC HR4 HF4 HB1
   go_wp2_with fail
   refine(HW _ HB2.out).mono ?_;rintro en w3 ⟨k,rfl,hS,hb3⟩;have HS:U _:=hS;obtain⟨B,v1,v2,F',hM,_,_,_,_,_,_⟩:=hS.body;have hlk:=hM.lb;have k2:=hM.c2;have k3:=hM.c3;have k4:=hM.c4;have k5:=hM.c5;have k6:=hM.c6;have k7:=hM.c7;simp only at k2 k3 k4 k5 k6 k7;have HZ:U _:=xc hb3 ⟨z0,z1,z2,z3⟩;have HZF:U (∀o,w3.frozen? ⟨w.heap.size,o,J⟩=N):=fun o=>(hb3.frozen (p:=⟨w.heap.size,o,J⟩) hlw2).trans (zf o);clear hM hS HW z0 z1 z2 z3 zf hb3;have HP:=fun w4 (h4:St w2 w4 k b F S (lv:Int) ⟨M,M,er,eu,ed,ef⟩ (tabs Y++[st]) (qz Y++[pl]) p)=>vF ⟨M,M,r,eu,ed,ef⟩ h4 hlen (by omega);simp only[Pg.En.val]at HP
   go_wp2_with fail
   refine(HP _ (HS.out.grow (zA (zR w3) _))).mono ?_;rintro en w5 ⟨rfl,h5⟩;have HMap:=qv h5;obtain⟨F5,f1,f2,f3⟩:=h5.leaves
   have hz5:w5.heap[w.heap.size]?=w3.heap[w.heap.size]?:=by
    have q1:=h5.but.block w.heap.size hlw2 fun hF=>by have:=zd.lt H.out hF;omega
    have q2:=HS.out.but.block w.heap.size hlw2 fun hF=>by have:=zd.lt H.out hF;omega
    exact q1.trans q2.symm
   have Z5:U (w5.cell? ⟨w.heap.size,0,J⟩=Z (R C 0)/\w5.cell? ⟨w.heap.size,1,J⟩=Z (R C 0)/\w5.cell? ⟨w.heap.size,2,J⟩=Z (R C 0)/\w5.cell? ⟨w.heap.size,3,J⟩=Z (R C 0)):=⟨(Q hz5).trans HZ.out.1,(Q hz5).trans HZ.out.2.1,(Q hz5).trans HZ.out.2.2.1,(Q hz5).trans HZ.out.2.2.2⟩;have ZF5:U (∀o,w5.frozen? ⟨w.heap.size,o,J⟩=N):=fun o=>(E hz5).trans (HZF.out o);have hl5:w.heap.size<w5.heap.size:=V _ _ Z5.out.1;rw[HMM.out]at HMap;simp only[Pg.Mp.val]at HMap;have F1:U (zd w5 b (S.store st pl (Pg.enc M M r eu ed ef (lv:Int))) F5):=f1;have F2:U (But F w w5):=(But.ygr HB2.out).trans f2 fun _ _ h=>h;have F3:U (∀j,F5 j->F j\/w2.heap.size<=j):=f3;clear h5 f1 f2 f3 HP k2 k3 k4 k5 k6 k7 hz5 HS HZ HZF
   go_wp2_with fail
   refine HMap.mono ?_;rintro en w6 ⟨rfl,hb6⟩;obtain⟨z0,z1,z2,z3⟩:=xc hb6 Z5.out;have zf:∀o,w6.frozen? ⟨w.heap.size,o,J⟩=N:=fun o=>(hb6.frozen (p:=⟨w.heap.size,o,J⟩) hl5).trans (ZF5.out o);have HB6:U _:=hb6;clear hb6 HMap Z5 ZF5
   go_wp2_with fail
   refine L (v:=kC #[kQ #[R C mp,R C ms,R C mf,R C mr],R C 0]) ?_ rfl ⟨rfl,F5,?_,?_,fun j hj=> ?_⟩
   ·simp[results,Tryz.results91,go_sem,z0,z1,z2,z3]
   ·refine zd.keep (G:=fun j=>j=w.heap.size) F1.out ?_ fun j hj e=> ?_
    ·iterate 4 refine But.setCell ?_ (by exact .inr rfl) _
     exact But.ygr HB6.out
    ·rcases F3.out j hj with h|h
     ·have:=zd.lt H.out h;omega
     ·omega
   ·iterate 4 refine But.setCell ?_ (by exact .inl (z _)) _
    exact F2.out.trans (But.ygr (F:=fun _=>False) HB6.out) fun _ _ h=>h.elim
   ·exact(F3.out j hj).imp id fun h=>by omega
  ·have e2:Pg.prM S t p r= .zz:=by rw[Pg.prM,e1,if_neg hc]
   have e3:Pg.prS S t p r=S:=by rw[Pg.prS,e1,if_neg hc]
   rw[e1,e2,e3];clear h e1 e2 e3 hr r4 rf4 hB1;generalize Pg.tFC S t p=cc at*
   have hcb:(cc !=0)=M:=by simp[hc]
   clear hc
   go_enter Tryz.func91,Tryz.ntmps91
   go_wp2_with fail
   rw[<-hW1];clear hW1;refine(HC _).mono ?_;rintro en w2 ⟨rfl,hb2⟩;obtain⟨z0,z1,z2,z3⟩:=xc hb2 HR4.out;have hlw:w.heap.size<W1.heap.size:=V _ _ HR4.out.1;have hlw2:w.heap.size<w2.heap.size:=V _ _ z0;have zf:∀o,w2.frozen? ⟨w.heap.size,o,J⟩=N:=fun o=>(hb2.frozen (p:=⟨w.heap.size,o,J⟩) hlw).trans (HF4.out o);have HB2:U (Below w.heap.size w w2):=zT HB1.out hb2;clear hb2 HC HR4 HF4 HB1
   go_wp2_with fail
   refine(HW _ HB2.out).mono ?_;rintro en w3 ⟨k,rfl,_,hb3⟩;obtain⟨y0,y1,y2,y3⟩:=xc hb3 ⟨z0,z1,z2,z3⟩;have yf:∀o,w3.frozen? ⟨w.heap.size,o,J⟩=N:=fun o=>(hb3.frozen (p:=⟨w.heap.size,o,J⟩) hlw2).trans (zf o);have HB3:U (Below w.heap.size w w3):=zT HB2.out hb3;clear hb3 z0 z1 z2 z3 zf HW
   go_wp2_with fail
   refine L (v:=kC #[kQ #[R C 0,R C 0,R C 0,R C 0],R C cc]) ?_ rfl ⟨rfl,fin0.out _ (zq HB3.out w.heap.size (z _) _ _ _ _)⟩;simp[results,Tryz.results91,go_sem,y0,y1,y2,y3]
namespace St
variable {w0 w w':kR} {k b:Nat} {F0:Nat->Prop} {S:Pg.Fs} {lv:Int} {e:Pg.En} {ts ps:List Int} {p:Int}
end St
theorem Mk.push1 {w w3 W:kR} {B k b:Nat} {lv:Int} {e:Pg.En} {v1 v2:kV} {ts ps:List Int} {p:Int} (h:Mk w B k b lv e v1 v2 ts ps p) (hB:B<=w.heap.size) (hW:Below w.heap.size w W) (hg:W.grownBy w3 v1.ownBlock) {g cap:Nat} (hat:v1.ownBlock=Z g\/w.heap.size<=g) (x:Int)
 (ho:w3.ownsRow B 3 1 (O (Z ⟨g,0,J⟩) (ts.length+1) cap) (ts.length+1) (zr ts++[R C x])):
 Mk (w3.setCell ⟨k,8,J⟩ (O (Z ⟨g,0,J⟩) (ts.length+1) cap)) B k b lv e (O (Z ⟨g,0,J⟩) (ts.length+1) cap) v2 (ts++[x]) ps p/\But (fun j=>j=k\/v1.ownBlock=Z j) w (w3.setCell ⟨k,8,J⟩ (O (Z ⟨g,0,J⟩) (ts.length+1) cap))/\∀j,mkF k (O (Z ⟨g,0,J⟩) (ts.length+1) cap) v2 j->mkF k v1 v2 j\/w.heap.size<=j:=by
 have hlk:=h.lb;have b1:But (fun j=>v1.ownBlock=Z j) w w3:=(But.ygr hW).grown hg fun k hk=> .inr hk
 have hgk:g≠k:=by
  rcases hat with hat|hat
  ·exact fun e=>h.n1 (e▸hat)
  ·omega
 have hg2:∀j,g=j->v2.ownBlock≠Z j:=by
  rintro j rfl;rcases hat with hat|hat
  ·exact h.ne g hat
  ·exact fun e=>by have:=(h.o2.lt g e).2;omega
 have hk3:w3.heap[k]?=w.heap[k]?:=b1.block k hlk h.n1
 have c:∀{o:Nat} {v:kV},o≠8->w.cell? ⟨k,o,J⟩=Z v->(w3.setCell ⟨k,8,J⟩ (O (Z ⟨g,0,J⟩) (ts.length+1) cap)).cell? ⟨k,o,J⟩=Z v:=fun{o v} ho e=>
  (kP _ _ _ _ (fun e=>ho (by injection e with _ e;exact e.symm))).trans ((Q hk3).trans e)
 have b2:But (fun j=>j=k\/v1.ownBlock=Z j) w (w3.setCell ⟨k,8,J⟩ (O (Z ⟨g,0,J⟩) (ts.length+1) cap)):=(b1.mono fun _ _ h=> .inr h).setCell (a:=⟨k,8,J⟩) (.inr (.inl rfl)) _;refine⟨⟨c (by decide) h.c0,c (by decide) h.c1,c (by decide) h.c2,c (by decide) h.c3,c (by decide) h.c4,c (by decide) h.c5,c (by decide) h.c6,c (by decide) h.c7,kS _ _ _ ((Q hk3).trans h.c8),c (by decide) h.c9,c (by decide) h.c10,fun o=>by rw[kT];exact(E hk3).trans (h.fz o),?_,?_,fun j hj=>hg2 j (by simpa[D]using hj),fun e=>hgk (by simpa[D]using e),h.n2,h.hi⟩,b2,fun j hj=> ?_⟩
 ·have e1:zr (ts++[x])=zr ts++[R C x]:=by simp[zr]
  rw[y,A,e1];exact za ho fun j hj=>Below.heap_setCell _ _ _ _ fun e=>hgk ((by simpa[D]using hj:g=j).trans e)
 ·exact zb h.o2 b2 fun j hj e=>by
   rcases e with e|e
   ·exact h.n2 (e▸hj)
   ·exact h.ne j e hj
 ·rcases hj with hj|hj|hj
  ·exact .inl (.inl hj)
  ·have:g=j:=by simpa[D]using hj
   subst this;exact hat.imp (fun e=> .inr (.inl e)) id
  ·exact .inl (.inr (.inr hj))
theorem Mk.push2 {w w3 W:kR} {B k b:Nat} {lv:Int} {e:Pg.En} {v1 v2:kV} {ts ps:List Int} {p:Int} (h:Mk w B k b lv e v1 v2 ts ps p) (hB:B<=w.heap.size) (hW:Below w.heap.size w W) (hg:W.grownBy w3 v2.ownBlock) {g cap:Nat} (hat:v2.ownBlock=Z g\/w.heap.size<=g) (x:Int)
 (ho:w3.ownsRow B 3 1 (O (Z ⟨g,0,J⟩) (ps.length+1) cap) (ps.length+1) (zr ps++[R C x])):
 Mk (w3.setCell ⟨k,9,J⟩ (O (Z ⟨g,0,J⟩) (ps.length+1) cap)) B k b lv e v1 (O (Z ⟨g,0,J⟩) (ps.length+1) cap) ts (ps++[x]) p/\But (fun j=>j=k\/v2.ownBlock=Z j) w (w3.setCell ⟨k,9,J⟩ (O (Z ⟨g,0,J⟩) (ps.length+1) cap))/\∀j,mkF k v1 (O (Z ⟨g,0,J⟩) (ps.length+1) cap) j->mkF k v1 v2 j\/w.heap.size<=j:=by
 have hlk:=h.lb;have b1:But (fun j=>v2.ownBlock=Z j) w w3:=(But.ygr hW).grown hg fun k hk=> .inr hk
 have hgk:g≠k:=by
  rcases hat with hat|hat
  ·exact fun e=>h.n2 (e▸hat)
  ·omega
 have hg2:v1.ownBlock≠Z g:=by
  rcases hat with hat|hat
  ·exact fun e=>h.ne g e hat
  ·exact fun e=>by have:=(h.o1.lt g e).2;omega
 have hk3:w3.heap[k]?=w.heap[k]?:=b1.block k hlk h.n2
 have c:∀{o:Nat} {v:kV},o≠9->w.cell? ⟨k,o,J⟩=Z v->(w3.setCell ⟨k,9,J⟩ (O (Z ⟨g,0,J⟩) (ps.length+1) cap)).cell? ⟨k,o,J⟩=Z v:=fun{o v} ho e=>
  (kP _ _ _ _ (fun e=>ho (by injection e with _ e;exact e.symm))).trans ((Q hk3).trans e)
 have b2:But (fun j=>j=k\/v2.ownBlock=Z j) w (w3.setCell ⟨k,9,J⟩ (O (Z ⟨g,0,J⟩) (ps.length+1) cap)):=(b1.mono fun _ _ h=> .inr h).setCell (a:=⟨k,9,J⟩) (.inr (.inl rfl)) _;refine⟨⟨c (by decide) h.c0,c (by decide) h.c1,c (by decide) h.c2,c (by decide) h.c3,c (by decide) h.c4,c (by decide) h.c5,c (by decide) h.c6,c (by decide) h.c7,c (by decide) h.c8,kS _ _ _ ((Q hk3).trans h.c9),c (by decide) h.c10,fun o=>by rw[kT];exact(E hk3).trans (h.fz o),?_,?_,fun j hj e=>hg2 (by have:g=j:=(by simpa[D]using e);rw[this];exact hj),h.n1,fun e=>hgk (by simpa[D]using e),h.hi⟩,b2,fun j hj=> ?_⟩
 ·exact zb h.o1 b2 fun j hj e=>by
   rcases e with e|e
   ·exact h.n1 (e▸hj)
   ·exact h.ne j hj e
 ·have e1:zr (ps++[x])=zr ps++[R C x]:=by simp[zr]
  rw[y,A,e1];exact za ho fun j hj=>Below.heap_setCell _ _ _ _ fun e=>hgk ((by simpa[D]using hj:g=j).trans e)
 ·rcases hj with hj|hj|hj
  ·exact .inl (.inl hj)
  ·exact .inl (.inr (.inl hj))
  ·have:g=j:=by simpa[D]using hj
   subst this;exact hat.imp (fun e=> .inr (.inr e)) id
theorem St.step {w0 w w':kR} {B k b:Nat} {F0 F:Nat->Prop} {S:Pg.Fs} {lv lv':Int} {e e':Pg.En} {ts ts' ps ps':List Int} {p p':Int} {v1 v2 v1' v2':kV} {G:Nat->Prop} (hM:Mk w B k b lv e v1 v2 ts ps p) (hF:zd w b S F) (hB:But F0 w0 w) (h1:∀j,F j->F0 j\/w0.heap.size<=j) (h2:∀j,F j->¬mkF k v1 v2 j) (hBB:B<=w.heap.size) (hm:∀j,mkF k v1 v2 j->F0 j\/w0.heap.size<=j)
 (hM':Mk w' B k b lv' e' v1' v2' ts' ps' p') (hb:But G w w') (hG:∀j,G j->mkF k v1 v2 j) (hn:∀j,mkF k v1' v2' j->mkF k v1 v2 j\/w.heap.size<=j):St w0 w' k b F0 S lv' e' ts' ps' p':=
 ⟨B,v1',v2',F,hM',hF.keep hb fun j hj hg=>h2 j hj (hG j hg),hB.trans hb fun i hi hg=>(hm i (hG i hg)).elim id fun h=>by omega,h1,fun j hj hm=>by
  rcases hn j hm with h|h
  ·exact h2 j hj h
  ·have:=hF.lt hj;omega,kN hBB hb.size,fun j hj=>by
  rcases hn j hj with h|h
  ·exact hm j h
  ·have:=hB.size;exact .inr (by omega)⟩
theorem yde {w0 w:kR} {k b:Nat} {F0:Nat->Prop} {S:Pg.Fs} {lv:Int} {e:Pg.En} {ts ps:List Int} {p:Int} (h:St w0 w k b F0 S lv e ts ps p):
 kZ kJ 46 #[kY (Z ⟨b,0,J⟩)] w fun en w'=>en=kI (R C S.takeN)/\St w0 w' k b F0 S.take lv e ts ps p:=by
 obtain⟨B,v1,v2,F,hM,hF,hB,h1,h2,hBB,hm⟩:=h.body;refine(yap w hF).mono ?_;rintro en w' ⟨rfl,F',f1,f2,f3⟩;refine⟨rfl,B,v1,v2,F',hM.keep f2 fun j hj hf=>h2 j hf hj,f1,hB.trans f2 fun i hi hf=> ?_,fun j hj=> ?_,fun j hj hm=> ?_,kN hBB f2.size,hm⟩
 ·rcases h1 i hf with h|h
  ·exact h
  ·omega
 ·rcases f3 j hj with h|h
  ·exact h1 j h
  ·have:=hB.size;exact .inr (by omega)
 ·rcases f3 j hj with h|h
  ·exact h2 j h hm
  ·have:=(hM.lt hm).2;omega
theorem ycT {w0 w:kR} {k b:Nat} {F0:Nat->Prop} {S:Pg.Fs} {lv:Int} {e:Pg.En} {ts ps:List Int} {p t q:Int} (h:St w0 w k b F0 S lv e (ts++[t]) (ps++[q]) p) (hlen:ts.length=ps.length) (hl:ts.length<4000) (hv0:0<=lv) (hv1:lv<100):
 kZ kJ 167 #[kY (Z ⟨k,0,J⟩)] w fun en w'=>en=kI (kC #[])/\St w0 w' k b F0 (S.take.store t q (Pg.enc M N 7 N N S.takeN lv)) (lv-1) Pg.En.zero (ts++[t]++[S.takeN]) (ps++[q]++[Pg.index p (lv-1)]) p:=by
 have HT:=yde h;have HP:∀w1,St w0 w1 k b F0 S.take lv e (ts++[t]) (ps++[q]) p->kZ kJ 134 #[kY (Z ⟨k,0,J⟩),kQ #[K M,K N,R C 7,K N,K N,R C S.takeN]] w1 fun en w'=>en=kI (kC #[])/\St w0 w' k b F0 (S.take.store t q (Pg.enc M N 7 N N S.takeN lv)) lv ⟨M,N,7,N,N,S.takeN⟩ (ts++[t]) (ps++[q]) p:=fun w1 h1=>vF ⟨M,N,7,N,N,S.takeN⟩ h1 hlen (by omega);have HI:=vq p (lv-1);generalize Pg.enc M N 7 N N S.takeN lv=v at*;generalize S.takeN=tk at*;generalize S.take=S1 at*;generalize S1.store t q v=S2 at*;generalize Pg.index p (lv-1)=ix at*
 have hlen1:(ts++[t]).length=ts.length+1:=by simp
 have hlen2:(ps++[q]).length=ts.length+1:=by simp[hlen]
 generalize ts++[t]=T at*;generalize ps++[q]=P at*;clear hlen;generalize ts.length=n at*;obtain⟨B,v1,v2,F,hM,hF,hB,h1,h2,hBB,hm⟩:=h.body;have k0:=hM.c0;clear hM hF hB h1 h2 h hBB hm
 go_enter Tryz.func167,Tryz.ntmps167
 go_wp2_with fail
 refine HT.mono ?_;rintro en w1 ⟨rfl,hS1⟩;have HP:=HP w1 hS1;clear HT hS1 k0
 go_wp2_with fail
 refine HP.mono ?_;rintro en w2 ⟨rfl,hS2⟩;obtain⟨B,v1,v2,F,hM,hF,hB,h1,h2,hBB,hm⟩:=hS2.body;have k1:=hM.c1;have k2:=hM.c2;have k3:=hM.c3;have k4:=hM.c4;have k5:=hM.c5;have k6:=hM.c6;have k7:=hM.c7;have k8:=hM.c8;have kf:=hM.fz;simp only at k2 k3 k4 k5 k6 k7;obtain⟨W3,hW3⟩:∃W3,W3=((((((w2.setCell ⟨k,1,J⟩ (R C (lv-1))).setCell ⟨k,2,J⟩ (K N)).setCell ⟨k,3,J⟩ (K N)).setCell ⟨k,4,J⟩ (R C 0)).setCell ⟨k,5,J⟩ (K N)).setCell ⟨k,6,J⟩ (K N)).setCell ⟨k,7,J⟩ (R C 0):=⟨_,rfl⟩
 have M3:Mk W3 B k b (lv-1) Pg.En.zero v1 v2 T P p:=by rw[hW3];exact(hM.yiL (lv-1)).setE Pg.En.zero
 have bt3:But (fun j=>j=k) w2 W3:=by
  rw[hW3];exact((((((((But.refl (fun j=>j=k) w2).setCell (a:=⟨k,1,J⟩) (.inr rfl) _).setCell (a:=⟨k,2,J⟩) (.inr rfl) _).setCell (a:=⟨k,3,J⟩) (.inr rfl) _).setCell (a:=⟨k,4,J⟩) (.inr rfl) _).setCell (a:=⟨k,5,J⟩) (.inr rfl) _).setCell (a:=⟨k,6,J⟩) (.inr rfl) _).setCell (a:=⟨k,7,J⟩) (.inr rfl) _)
 have HM3:U _:=M3;have HF3:U (zd W3 b S2 F):=hF.keep bt3 fun j hj e=>h2 j hj (.inl e)
 have HBt3:U (But F0 w0 W3):=hB.trans bt3 fun i hi e=>(hm i (.inl e)).elim id fun h=>by omega
 have H1:U _:=h1;have H2:U _:=h2;have Hm:U _:=hm;have hsz:B<=W3.heap.size:=kN hBB bt3.size;clear hM hF hB h1 h2 HP hS2 bt3 M3 hBB hm;obtain⟨a1,c1,rfl⟩:=zF HM3.out.o1;have hown:=HM3.out.o1;have r8:=HM3.out.c8;have hlk:=HM3.out.lb;have hsz0:=HBt3.out.size;obtain⟨q0,hq,hz0,hz1,hz2⟩:=info_parts qu;rw[hlen1]at hown r8 k8
 have hsW:W3.heap.size=w2.heap.size:=by rw[hW3];simp
 have hown2:(((((((w2.setCell ⟨k,1,J⟩ (R C (lv-1))).setCell ⟨k,2,J⟩ (K N)).setCell ⟨k,3,J⟩ (K N)).setCell ⟨k,4,J⟩ (R C 0)).setCell ⟨k,5,J⟩ (K N)).setCell ⟨k,6,J⟩ (K N)).setCell ⟨k,7,J⟩ (R C 0)).ownsRow B 3 1 (O a1 (n+1) c1) (n+1) (zr T):=by rw[<-hW3];exact hown
 go_wp2_with (first
  | (at_builtin;refine wpList_append_lies _ rfl _ _ 45 rfl B 3 q0 (R C 0) 1 8 Tryz.underlying45 hq hz0 hz1 hz2 rfl (by decide) _ _ _ rfl (hown2.alloc _) ⟨w2.heap.size,0,J⟩ 1 1 [R C tk] rfl rfl ?c1 ?c2 (by decide) ?c3 ?c4 ?c5 (w2.heap.size+1) (by simp) ?_))
 case c1=>
  intro j u hj
  match j,hj with
  | 0,hj=>simp at hj;subst hj;simp[Addr.add,go_sem]
 case c2=>intro u hu;simp at hu;subst hu;rfl
 case c3=>unfold maxLen;omega
 case c4=>omega
 case c5=>simp;omega
 intro g cap w4 hown4 hgrow hat hlt4;rw[<-hW3]at hgrow;clear hW3 k1 k2 k3 k4 k5 k6 k7 k8 kf hown2;have hgl:g<w4.heap.size:=hlt4;obtain⟨M5,b5,n5⟩:=HM3.out.push1 (W:=W3.alloc (.cells #[R C tk] 3)) (g:=g) (cap:=cap) hsz (zA (zR _) _) (by rw[hlen1];exact hgrow) (by rw[hlen1];exact hat.imp id fun h=>by omega) tk (by rw[hlen1];exact hown4);rw[hlen1]at M5 b5 n5;have hk4:w4.heap[k]?=W3.heap[k]?:=hgrow.block k (by simp;omega) (fun e=>HM3.out.n1 (by rw[hlen1];exact e.symm))|>.trans (Below.heap_alloc _ _ _ hlk);have e8:w4.cell? ⟨k,8,J⟩=Z (O a1 (n+1) c1):=(Q hk4).trans r8;have ef8:w4.frozen? ⟨k,8,J⟩=N:=(E hk4).trans (HM3.out.fz 8);have HM5:U _:=M5;have HB5:U _:=b5;have HN5:U _:=n5;clear M5 b5 n5 hk4 hgrow hat hown4 hlt4 hown r8 HP
 go_wp2_with fail
 clear e8 ef8;generalize hW5:w4.setCell ⟨k,8,J⟩ (O (Z ⟨g,0,J⟩) (n+1+1) cap)=W5 at*;clear hW5;obtain⟨a2,c2,rfl⟩:=zF HM5.out.o2;have k9:=HM5.out.c9;have k10:=HM5.out.c10;have k1:=HM5.out.c1;have kf:=HM5.out.fz
 have hown:W5.ownsRow B 3 1 (O a2 (n+1) c2) (n+1) (zr P):=by have:=HM5.out.o2;rw[hlen2]at this;exact this
 rw[hlen2]at k9;have hlk5:=HM5.out.lb;have hs5:=HB5.out.size;have HF5:U (zd W5 b S2 F):=zd.keep HF3.out HB5.out fun j hj hg=>H2.out j hj (by rw[hlen1];exact hg.imp id fun h=> .inl h)
 have HBt5:U (But F0 w0 W5):=HBt3.out.trans HB5.out fun i hi hg=>(Hm.out i (by rw[hlen1];exact hg.imp id fun h=> .inl h)).elim id fun h=>by omega
 have Hm5:U (∀j,mkF k (O (Z ⟨g,0,J⟩) (n+1+1) cap) (O a2 P.length c2) j->F0 j\/w0.heap.size<=j):=fun j hj=>by
  rcases HN5.out j hj with h|h
  ·exact Hm.out j (by rw[hlen1];exact h)
  ·exact .inr (by omega)
 have H25:U (∀j,F j->¬mkF k (O (Z ⟨g,0,J⟩) (n+1+1) cap) (O a2 P.length c2) j):=fun j hj hm=>by
  rcases HN5.out j hm with h|h
  ·exact H2.out j hj (by rw[hlen1];exact h)
  ·have:=zd.lt HF3.out hj;omega
 have hs05:B<=W5.heap.size:=by omega
 have hnk:¬k=W5.heap.size:=by omega
 clear HB5 HN5 HM3 HF3 HBt3 H2 hlk hsz hsz0 hgl hs5 hsW Hm
 have hnews:∀(W:kR) (j:Nat) (u:kV),[kU C ix][j]?=Z u->(W.alloc (.cells #[R C ix] 3)).cell? ((⟨W.heap.size,0,J⟩:Addr).add j)=Z u:=fun W j u hu=>
  World.news_of_block (heap_alloc_new W _) j u hu
 have hone:∀u,u ∈ [kU C ix]->u.oneCell'=M:=by
  intro u hu;simp at hu;subst hu;rfl
 have hm1:n+1+1<=maxLen:=by unfold maxLen;omega
 have hm2:(n+1+1)*8<=140737488355328:=by omega
 have hn2:(kF a2 (n+1) c2).ownBlock≠Z k:=by have:=HM5.out.n2;rw[hlen2]at this;exact this
 go_region_law (first
  | (go_simp;go_at_call 196;refine(HI _).mono ?_;rintro e w6 ⟨rfl,rfl⟩)
  | (refine step_append_lies _ rfl (.tmp 43) (.tmp 54) 45 rfl B 3 q0 _ 1 8 Tryz.underlying45 hq hz0 hz1 hz2 rfl (by decide) (O a2 (n+1) c2) _ _ (by simp[Act.eval]) (hown.alloc _) ⟨W5.heap.size,0,J⟩ 1 1 [R C ix] (by simp[Act.eval]) rfl (hnews W5) hone (by decide) hm1 hm2 (kN hs05 (by simp)) (W5.heap.size+1) (by simp) ?_;intro g6 cap6 w6 hown6 hgrow6 hat6 hlt6;have hG6:U ((W5.alloc (.cells #[R C ix] 3)).drew.grownBy w6 (kF a2 (n+1) c2).ownBlock):=hgrow6;have hk6:w6.heap[k]?=W5.heap[k]?:=(hG6.out.block k (by simp;omega) (fun e=>hn2 e.symm)).trans (Below.heap_alloc _ _ _ hlk5);have e9:w6.cell? ⟨k,9,J⟩=Z (O a2 (n+1) c2):=(Q hk6).trans k9;have ef9:w6.frozen? ⟨k,9,J⟩=N:=(E hk6).trans (kf 9);have hO6:U (w6.ownsRow B 3 1 (O (Z ⟨g6,0,J⟩) (n+1+1) cap6) (n+1+1) (zr P++[R C ix])):=hown6;have hA6:U ((kF a2 (n+1) c2).ownBlock=Z g6\/g6=W5.heap.size+1):=hat6;clear hown6 hgrow6 hat6 hk6))
 all_goals
  obtain⟨M7,b7,n7⟩:=HM5.out.push2 (W:=(W5.alloc (.cells #[R C ix] 3)).drew) (g:=g6) (cap:=cap6) hs05 (zA (zR _) _).drew (by rw[hlen2];exact hG6.out) (by rw[hlen2];exact hA6.out.imp id fun h=>by omega) ix (by rw[hlen2];exact hO6.out);rw[hlen2]at M7 b7 n7
  have fin:U (St w0 (w6.setCell ⟨k,9,J⟩ (O (Z ⟨g6,0,J⟩) (n+1+1) cap6)) k b F0 S2 (lv-1) Pg.En.zero (T++[tk]) (P++[ix]) p):=
   St.step HM5.out HF5.out HBt5.out H1.out H25.out hs05 Hm5.out M7 b7 (fun j hj=>hj.imp id fun h=> .inr (by rw[hlen2];exact h)) (fun j hj=>(n7 j hj).imp (fun h=>by rw[hlen2];exact h) id)
  go_wp2_with fail
  go_end0
  exact⟨rfl,fin.out⟩
theorem ydL (p:Int) (s:Nat) (S:Pg.Fs) (t:Int):Pg.insW p s s S t=(S,t):=by
 cases s with
 | zero=>rfl
 | succ s=>simp[Pg.insW]
theorem ydM (p:Int) (s m:Nat) (S:Pg.Fs) (t:Int) (h:s<=m):Pg.insW p s (m+1) S t=Pg.insW p s m (S.take.store t (Pg.index p ((m+1:Nat):Int)) (Pg.enc M N 7 N N S.takeN ((m+1:Nat):Int))) S.takeN:=by
 rw[Pg.insW,if_neg (by omega)]
theorem yck {b:Nat} {S:Pg.Fs} {F:Nat->Prop} (t:Int) (m:Pg.Mp) (w:kR) (h:zd w b S F):
 kZ kJ 133 #[kY (Z ⟨b,0,J⟩),R C t,m.val] w fun en w'=>en=kI (R C (Pg.insC S t m))/\∃F',zd w' b (Pg.insS S t m) F'/\But F w w'/\∀k,F' k->F k\/w.heap.size<=k:=by
 obtain⟨p,s,f,r⟩:=m;have HC:=xO p s f r;have eC:Pg.Mp.code ⟨p,s,f,r⟩=Pg.check p s f r:=rfl;rw[<-eC]at HC;simp only[Pg.Mp.val];have H:U (zd w b S F):=h;obtain⟨W1,hW1⟩:∃W1,W1=w.alloc (.cells #[R C p,R C s,R C f,R C r] 39):=⟨_,rfl⟩
 have hB1:Below w.heap.size w W1:=by rw[hW1];exact zA (zR w) _
 have r4:W1.cell? ⟨w.heap.size,0,J⟩=Z (R C p)/\W1.cell? ⟨w.heap.size,1,J⟩=Z (R C s)/\W1.cell? ⟨w.heap.size,2,J⟩=Z (R C f)/\W1.cell? ⟨w.heap.size,3,J⟩=Z (R C r):=by rw[hW1];simp[go_sem]
 have HB1:U _:=hB1;obtain⟨x0,x1,x2,x3⟩:=r4;have fin0:U (∀w',Below w.heap.size w w'->∃F',zd w' b S F'/\But F w w'/\∀k,F' k->F k\/w.heap.size<=k):=fun w' hb=>⟨F,zd.keep (G:=fun _=>False) H.out (But.ygr hb) fun _ _=>id,But.ygr hb,fun k hk=> .inl hk⟩;have HW:=fun w2 (hb:Below w.heap.size w w2)=>jU t p w2 (h.keep (G:=fun _=>False) (But.ygr hb) fun _ _=>id);clear hB1 eC
 by_cases hc:Pg.Mp.code ⟨p,s,f,r⟩=0
 ·rw[hc]at HC
  by_cases hz:qq S t p=0
  ·obtain⟨Y,sp,lv,hY,W,hsl,hl3,hY3,hpl,hix⟩:=qK hz
   have hs:0<=s/\s<=2:=by
    have hc':Pg.check p s f r=0:=hc
    have hsp:Pg.span s≠0:=by
     intro e;rw[Pg.check,if_pos e]at hc';omega
    unfold Pg.span at hsp
    by_cases h0:s=0
    ·omega
    ·by_cases h1:s=1
     ·omega
     ·by_cases h2:s=2
      ·omega
      ·simp[h0,h1,h2]at hsp
   obtain⟨sn,rfl⟩:=Int.eq_ofNat_of_zero_le hs.1
   have hs2:sn<=2:=by omega
   have e6:tabs (Y++[sp])=tabs Y++[sp.table]:=by simp[tabs]
   have e7:qz (Y++[sp])=qz Y++[(sp.place:Int)]:=by simp[qz]
   have eI:Pg.insC S t ⟨p,sn,f,r⟩=if sp.e.t=M\/(lv:Int)<(sn:Int)then 4 else if S.free<(lv:Int)-(sn:Int)then 6 else 0:=by
    rw[Pg.insC,if_neg (by simp[hc]),if_neg (by simp[hz]),hY,W.ygv,W.ygw]
   have eS:Pg.insS S t ⟨p,sn,f,r⟩=if Pg.insC S t ⟨p,sn,f,r⟩=0 then(Pg.insW p sn lv S sp.table).1.store (Pg.insW p sn lv S sp.table).2 (Pg.index p (sn:Int)) (Pg.enc M M r N N f (sn:Int))else S:=by
    rw[Pg.insS,hY,W.ygw,W.lastT];rfl
   rw[hz,hY,W.ygw,W.ygv,e6,e7,hpl]at HW
   have hlen:(tabs Y).length=(qz Y).length:=by rw[xM,j9]
   have hlt:(tabs Y).length<=3:=by rw[xM];omega
   have hfree:=h.ok.yio;have HFr:=fun w2 (hb:Below w.heap.size w w2)=>yan w2 (h.keep (G:=fun _=>False) (But.ygr hb) fun _ _=>id);clear hc hz W hY hsl hpl hix h e6 e7 hs;generalize tabs Y=T at*;generalize qz Y=P at*;obtain⟨st,_,_,_,⟨et,el,er,eu,ed,ef⟩⟩:=sp;simp only at eI eS HW;clear hY3 Y;generalize Pg.insC S t ⟨p,sn,f,r⟩=ic at*;generalize Pg.insS S t ⟨p,sn,f,r⟩=iS at*
   by_cases hE:et=M\/(lv:Int)<(sn:Int)
   ·rw[if_pos hE]at eI
    rw[eI,if_neg (by decide)]at eS;rw[eI,eS];clear eI eS;cases et
    ·have hlt':(lv:Int)<(sn:Int):=by
      rcases hE with h|h
      ·cases h
      ·exact h
     clear hE
     go_enter Tryz.func133,Tryz.ntmps133
     go_wp2_with fail
     rw[<-hW1];clear hW1;refine(HC _).mono ?_;rintro en w2 ⟨rfl,hb2⟩;have y0:=I hb2 x0;have y1:=I hb2 x1;have y2:=I hb2 x2;have y3:=I hb2 x3;have HB2:U (Below w.heap.size w w2):=zT HB1.out hb2;clear hb2 HC x0 x1 x2 x3
     go_wp2_with fail
     refine(HW _ HB2.out).mono ?_;rintro en w3 ⟨k,rfl,hS,hb3⟩;have HS:U _:=hS;have HB3:U (Below w.heap.size w w3):=zT HB2.out hb3;obtain⟨B,v1,v2,F',hM,_,_,_,_,_,_⟩:=hS.body;have k0:=hM.c0;have k1:=hM.c1;have k2:=hM.c2;simp only at k2;have z1:=I hb3 y1;have z2:=I hb3 y2;have z3:=I hb3 y3;have hlx:w.heap.size<w2.heap.size:=V _ _ y0;have HZ:U _:=And.intro z1 (And.intro z2 z3);clear hM hS hb3 HW y0 y1 y2 y3
     go_wp2_with fail
     go_quiet (fail)
     go_wp2_with fail
     go_ret
     exact⟨rfl,fin0.out _ (zT HB3.out (below_drewN (zR _) _))⟩
    ·clear hE
     go_enter Tryz.func133,Tryz.ntmps133
     go_wp2_with fail
     rw[<-hW1];clear hW1;refine(HC _).mono ?_;rintro en w2 ⟨rfl,hb2⟩;have y0:=I hb2 x0;have y1:=I hb2 x1;have y2:=I hb2 x2;have y3:=I hb2 x3;have HB2:U (Below w.heap.size w w2):=zT HB1.out hb2;clear hb2 HC x0 x1 x2 x3
     go_wp2_with fail
     refine(HW _ HB2.out).mono ?_;rintro en w3 ⟨k,rfl,hS,hb3⟩;have HS:U _:=hS;have HB3:U (Below w.heap.size w w3):=zT HB2.out hb3;obtain⟨B,v1,v2,F',hM,_,_,_,_,_,_⟩:=hS.body;have k0:=hM.c0;have k1:=hM.c1;have k2:=hM.c2;simp only at k2;have z1:=I hb3 y1;have z2:=I hb3 y2;have z3:=I hb3 y3;have hlx:w.heap.size<w2.heap.size:=V _ _ y0;have HZ:U _:=And.intro z1 (And.intro z2 z3);clear hM hS hb3 HW y0 y1 y2 y3
     go_wp2_with fail
     go_quiet (fail)
     go_wp2_with fail
     go_ret
     exact⟨rfl,fin0.out _ (zT HB3.out (below_drewN (zR _) _))⟩
   ·rw[if_neg hE]at eI
    have hef:et=N:=by
     cases et
     ·rfl
     ·exact absurd (.inl rfl) hE
    have hle:sn<=lv:=by omega
    subst hef;clear hE
    by_cases hfu:S.free<(lv:Int)-(sn:Int)
    ·rw[if_pos hfu]at eI
     rw[eI,if_neg (by decide)]at eS;rw[eI,eS];clear eI eS
     go_enter Tryz.func133,Tryz.ntmps133
     go_wp2_with fail
     rw[<-hW1];clear hW1;refine(HC _).mono ?_;rintro en w2 ⟨rfl,hb2⟩;have y0:=I hb2 x0;have y1:=I hb2 x1;have y2:=I hb2 x2;have y3:=I hb2 x3;have HB2:U (Below w.heap.size w w2):=zT HB1.out hb2;clear hb2 HC x0 x1 x2 x3
     go_wp2_with fail
     refine(HW _ HB2.out).mono ?_;rintro en w3 ⟨k,rfl,hS,hb3⟩;have HS:U _:=hS;have HB3:U (Below w.heap.size w w3):=zT HB2.out hb3;obtain⟨B,v1,v2,F',hM,_,_,_,_,_,_⟩:=hS.body;have k0:=hM.c0;have k1:=hM.c1;have k2:=hM.c2;simp only at k2;have z1:=I hb3 y1;have z2:=I hb3 y2;have z3:=I hb3 y3;have hlx:w.heap.size<w2.heap.size:=V _ _ y0;have HZ:U _:=And.intro z1 (And.intro z2 z3);clear hM hS hb3 HW y0 y1 y2 y3
     go_wp2_with fail
     go_quiet (fail)
     go_wp2_with fail
     refine(HFr _ (zT HB3.out (below_drewN (zR _) _))).mono ?_;rintro en w4 ⟨rfl,hb4⟩;have HB4:U (Below w.heap.size w w4):=zT (zT HB3.out (below_drewN (zR _) _)) hb4;clear hb4 HFr
     go_wp2_with fail
     go_ret
     exact⟨rfl,fin0.out _ HB4.out⟩
    ·rw[if_neg hfu]at eI
     rw[eI,if_pos rfl]at eS;rw[eI,eS];clear eI eS
     have dd1:decide ((lv:Int)-(sn:Int)<0)=N:=by simp;omega
     have dd2:decide (S.free<(lv:Int)-(sn:Int))=N:=by simp;omega
     go_enter Tryz.func133,Tryz.ntmps133
     go_wp2_with fail
     rw[<-hW1];clear hW1;refine(HC _).mono ?_;rintro en w2 ⟨rfl,hb2⟩;have y0:=I hb2 x0;have y1:=I hb2 x1;have y2:=I hb2 x2;have y3:=I hb2 x3;have HB2:U (Below w.heap.size w w2):=zT HB1.out hb2;clear hb2 HC x0 x1 x2 x3
     go_wp2_with fail
     refine(HW _ HB2.out).mono ?_;rintro en w3 ⟨k,rfl,hS,hb3⟩;have HS:U _:=hS;have HB3:U (Below w.heap.size w w3):=zT HB2.out hb3;obtain⟨B,v1,v2,F',hM,_,_,_,_,_,_⟩:=hS.body;have k0:=hM.c0;have k1:=hM.c1;have k2:=hM.c2;simp only at k2;have z1:=I hb3 y1;have z2:=I hb3 y2;have z3:=I hb3 y3;have hlx:w.heap.size<w2.heap.size:=V _ _ y0;have HZ:U _:=And.intro z1 (And.intro z2 z3);clear hM hS hb3 HW y0 y1 y2 y3
     go_wp2_with fail
     go_quiet (fail)
     go_wp2_with fail
     refine(HFr _ (zT HB3.out (below_drewN (zR _) _))).mono ?_;rintro en w4 ⟨rfl,hb4⟩;have HB34:U (Below w3.heap.size w3 w4):=zT (below_drewN (zR _) _) hb4;clear hb4 HFr
     go_wp2_with fail
     try simp only[dd1,dd2]
     go_loopw [53] (fun i wr=>∃(j lvn:Nat) (Si:Pg.Fs) (ei:Pg.En) (ts ps:List Int) (ti:Int),lvn+j=lv/\sn<=lvn/\i=R C (j:Int)/\ts.length=ps.length/\ts.length=T.length+j/\U (St w2 wr k b F Si (lvn:Int) ei (ts++[ti]) (ps++[Pg.index p (lvn:Int)]) p/\Pg.insW p sn lvn Si ti=Pg.insW p sn lv S st)) (fun i _=>lv-(intOf i).toNat)
     case atStart=>exact⟨0,lv,S,_,T,P,st,by omega,by omega,rfl,hlen,rfl,HS.out.grow HB34.out,rfl⟩
     case round=>
      obtain⟨j,lvn,Si,ei,ts,ps,ti,hj,hlvn,rfl,hl1,hl2,HR⟩:=hrel
      have j0:(0:Int)<=(j:Int):=by omega
      by_cases hlt2:sn<lvn
      ·have j1:(j:Int)<(lv:Int)-(sn:Int):=by omega
       have HX:=ycT HR.out.1 hl1 (by omega) (by omega) (by omega);obtain⟨lm,rfl⟩:∃lm,lvn=lm+1:=⟨lvn-1,by omega⟩
       have e9:((lm+1:Nat):Int)-1=(lm:Int):=by omega
       rw[e9]at HX
       have e10:U (Pg.insW p sn lm (Si.take.store ti (Pg.index p ((lm+1:Nat):Int)) (Pg.enc M N 7 N N Si.takeN ((lm+1:Nat):Int))) Si.takeN=Pg.insW p sn lv S st):=by rw[U,<-ydM p sn lm Si ti (by omega)];exact HR.out.2
       go_wp2_with fail
       refine HX.mono ?_;rintro en w5 ⟨rfl,h5⟩;have H5:U _:=h5;clear h5 HX HR
       go_wp2_with fail
       exact⟨⟨j+1,lm,_,_,_,_,_,by omega,by omega,by go_num,by simp[hl1],by simp[hl2];omega,H5.out,e10.out⟩,by simp[intOf];omega⟩
      ·have hee:lvn=sn:=by omega
       subst hee
       have j1:¬(j:Int)<(lv:Int)-(lvn:Int):=by omega
       have hins:=HR.out.2;rw[ydL]at hins;have HX:=vF ⟨M,M,r,N,N,f⟩ HR.out.1 hl1 (by omega);simp only[Pg.En.val]at HX
       have hbx:wr.heap[w.heap.size]?=w3.heap[w.heap.size]?:=by
        have q1:=HR.out.1.but.block w.heap.size hlx fun hF=>by have:=zd.lt H.out hF;omega
        have q2:=HS.out.but.block w.heap.size hlx fun hF=>by have:=zd.lt H.out hF;omega
        exact q1.trans q2.symm
       have b2:=(Q hbx).trans HZ.out.2.1;have b3:=(Q hbx).trans HZ.out.2.2;have HIN:U _:=hins;clear hins hbx z1 z2 z3 k0 k1 k2 HR
       go_wp2_with fail
       refine HX.mono ?_;rintro en w6 ⟨rfl,h6⟩;obtain⟨F6,f1,f2,f3⟩:=h6.leaves
       have fin:U (∃F',zd w6 b ((Pg.insW p lvn lv S st).1.store (Pg.insW p lvn lv S st).2 (Pg.index p (lvn:Int)) (Pg.enc M M r N N f (lvn:Int))) F'/\But F w w6/\∀k,F' k->F k\/w.heap.size<=k):=by
        rw[U,<-HIN.out];exact⟨F6,f1,(But.ygr HB2.out).trans f2 fun _ _ h=>h,fun j hj=>(f3 j hj).imp id fun h=>by have:=HB2.out.size;omega⟩
       clear h6 f1 f2 f3 HX HIN
       go_wp2_with fail
       go_ret
       exact⟨rfl,fin.out⟩
  ·have e1:Pg.insC S t ⟨p,s,f,r⟩=qq S t p:=by rw[Pg.insC,if_neg (by simp[hc]),if_pos hz]
   have e2:Pg.insS S t ⟨p,s,f,r⟩=S:=by rw[Pg.insS,e1,if_neg hz]
   rw[e1,e2];clear e1 e2 h;generalize qq S t p=cc at*
   have hcb:(cc !=0)=M:=by simp[hz]
   clear hz hc
   go_enter Tryz.func133,Tryz.ntmps133
   go_wp2_with fail
   rw[<-hW1];clear hW1;refine(HC _).mono ?_;rintro en w2 ⟨rfl,hb2⟩;have y0:=I hb2 x0;have HB2:U (Below w.heap.size w w2):=zT HB1.out hb2;clear hb2
   go_wp2_with fail
   refine(HW _ HB2.out).mono ?_;rintro en w3 ⟨k,rfl,_,hb3⟩;have HB3:U (Below w.heap.size w w3):=zT HB2.out hb3;clear hb3
   go_wp2_with fail
   go_ret
   exact⟨rfl,fin0.out _ HB3.out⟩
 ·have e1:Pg.insC S t ⟨p,s,f,r⟩=Pg.Mp.code ⟨p,s,f,r⟩:=by rw[Pg.insC,if_pos hc]
  have e2:Pg.insS S t ⟨p,s,f,r⟩=S:=by rw[Pg.insS,e1,if_neg hc]
  rw[e1,e2];clear e1 e2 h HW;generalize Pg.Mp.code ⟨p,s,f,r⟩=cc at*
  have hcb:(cc !=0)=M:=by simp[hc]
  clear hc
  go_enter Tryz.func133,Tryz.ntmps133
  go_wp2_with fail
  rw[<-hW1];clear hW1;refine(HC _).mono ?_;rintro en w2 ⟨rfl,hb2⟩;have HB2:U (Below w.heap.size w w2):=zT HB1.out hb2;clear hb2
  go_wp2_with fail
  go_ret
  exact⟨rfl,fin0.out _ HB2.out⟩
end Go.Proofs.YtdphiompijbelaaGreat
