import Derived.Test.YtdphiompijbelaaGreatTabI
import Derived.BigRegion
import Derived.WideKeyRuns
import Derived.Laws.StructEq
import Derived.MapKept
import Derived.Test.YtdphiompijbelaaGreatPgAns
set_option linter.all false
set_option maxRecDepth 100000
open List renaming take_succ_cons->ua,drop_succ_cons->ue,length_singleton->yJ,take_zero->yP,drop_zero->yS,length_append->yC,mem_singleton->yR,take_length->yQ,mem_of_getElem?->yZ,mem_iff_getElem?->yM,getElem?_modify->yX,mem_cons->yD
open Go.Ending renaming returned->ur
open Go.Obj renaming cells->kh
open Array renaming getElem?_eq_some_iff->ki,toList_modify->yA
open Nat renaming lt_of_lt_of_le->kO,le_refl->yT,le_trans->yO,le_succ->yH,zero_add->yy
open Bool renaming false->A,true->yV
open Go.World renaming cell?_of_block->E,block_lt_of_cell?->yF,frozen?_of_block->yK,frozen?->yE,cell?->yL
open Go.Proofs.Tryz renaming prog->M
open Go renaming cell_regrown->O,bodyPost_ret->un,World->uc,heap_alloc_new->yI,Calls->yY,Value->yG
open Go.RowKit renaming Hid->U
open Option renaming none->Q,some->Z
open Go.Value renaming int->J,bool->kp,pointer->uv,slice->ud,agg->yB,tuple->yN,slice->yU,ownBlock->yW
open Go.IntKind renaming i64->I
set_option maxHeartbeats 4000000
namespace Go.Proofs.YtdphiompijbelaaGreat
open Go.RowKit
section
open Go.Sort
theorem yeL {S:Pg.Fs} {t:Int} (ht:S.has t=yV):(Pg.yhS S t=yV ↔ ∀j:Nat,j<8->S.load t (j:Int)=0):=by
 unfold Pg.yhS;simp only[List.all_eq_true,List.mem_range,beq_iff_eq];refine forall_congr' fun j=>forall_congr' fun hj=> ?_
 have:S.at' t (j:Int)=yV:=by simp[Pg.Fs.at',ht];omega
 simp[Pg.Fs.load,this]
theorem vp {w0 w:uc} {k b:Nat} {F0:Nat->Prop} {S:Pg.Fs} {lv:Int} {e:Pg.En} {ts ps:List Int} {p t:Int} (h:St w0 w k b F0 S lv e (ts++[t]) ps p) (hl:ts.length<4000) (ht:S.has t=yV):
 yY M 136 #[uv (Z ⟨k,0,Q⟩)] w fun en w'=>en=ur (kp (Pg.yhS S t))/\Lw w w':=by
 have HS:U _:=h;have HE:U _:=yeL ht
 have Hg:(ts++[t]).length=ts.length+1:=by simp
 clear h ht;generalize Pg.yhS S t=em at*
 go_enter Tryz.func136,Tryz.ntmps136
 go_wp2
 go_loopw [6] (fun i wr=>∃j:Nat,j<=8/\i=J I j/\U (Lw w wr/\∀m:Nat,m<j->S.load t (m:Int)=0)) (fun i _=>8-(intOf i).toNat)
 case atStart=>exact⟨0,by omega,rfl,zR _,fun m hm=>by omega⟩
 case round=>
  obtain⟨j,hj,rfl,HR⟩:=hrel
  have i0:(0:Int)<=(j:Int):=by omega
  have hS:=HS.out.grow HR.out.1;obtain⟨B,v1,v2,F,hM,hF,hB,h1,h2,fq,hm⟩:=hS.body;obtain⟨g1,gZ,rfl,hc,_⟩:=jG hM.o1;have k0:=hM.c0;have k8:=hM.c8;have gV:=fun m=>ybo (hS.grow (below_drewN (zR wr) m)) (by rw[Hg];omega)
  have e1:(((ts++[t]).length:Nat):Int)-1=(ts.length:Int):=by rw[Hg];omega
  rw[e1]at gV;have NZ:=fun m=>jt t (j:Int) (wr.drewN m) (hF.keep (G:=fun _=>False) (But.yhJ (below_drewN (zR wr) m)) fun _ _=>id);clear hM hB h1 h2 hS hF e1 fq hm
  have i2:(0:Int)<=(ts.length:Int):=by omega
  have i3:(ts.length:Int)<(ts.length:Int)+1:=by omega
  have HX:U (S.load t (j:Int)=0->∀m:Nat,m<j+1->S.load t (m:Int)=0):=fun hz m hm=>by
   by_cases e:m=j
   ·rw[e];exact hz
   ·exact HR.out.2 m (by omega)
  by_cases Hf:j<8
  ·have i1:(j:Int)<8:=by omega
   have HJ:U _:=Hf;have fin:U (∀nq,Lw w (wr.drewN nq)):=fun nq=>zT HR.out.1 (below_drewN (zR _) nq);generalize hx:S.load t (j:Int)=x at*;have HXX:U _:=hx;clear hx;generalize S.at' t (j:Int)=at' at*;generalize ts.length=n at*
   by_cases hz:x=0
   ·have HZ:U _:=HX.out hz
    have hzb:(x !=0)=A:=by simp[hz]
    clear hz HX
    go_wp2
    go_quiet (first
     | (go_at_call 170;exact Calls.quiet_of_same (gV _))
     | (go_at_call 171;exact Calls.quiet_of_same (NZ _)))
    go_wp2_with fail
    exact⟨⟨j+1,by omega,by go_num,fin.out _,HZ.out⟩,by simp[intOf];omega⟩
   ·have HZ:U _:=hz
    have hzb:(x !=0)=yV:=by simp[hz]
    clear hz HX
    go_wp2
    go_quiet (first
     | (go_at_call 170;exact Calls.quiet_of_same (gV _))
     | (go_at_call 171;exact Calls.quiet_of_same (NZ _)))
    go_wp2
    go_ret
    refine⟨zV ?_,fin.out _⟩;cases em
    ·rfl
    ·exact absurd (HXX.out▸(HE.out.1 rfl j HJ.out)) HZ.out
  ·have i1:¬(j:Int)<8:=by omega
   have e8:j=8:=by omega
   subst e8;clear gV NZ k0 k8
   go_wp2
   go_ret
   exact⟨zV (HE.out.2 fun m hm=>HR.out.2 m hm).symm,HR.out.1⟩
theorem jD (ts:List Int) (t:Int):xn (ts++[t])=xn ts++[J I t]:=by simp[xn]
theorem Mk.pop {w:uc} {B k b:Nat} {lv:Int} {e:Pg.En} {g1 g2 n c1 c2:Nat} {T P:List Int} {p t q:Int} (h:Mk w B k b lv e (ud (Z ⟨g1,0,Q⟩) (n+1) c1) (ud (Z ⟨g2,0,Q⟩) (n+1) c2) (T++[t]) (P++[q]) p) (hT:T.length=n) (hP:P.length=n):
 Mk ((w.setCell ⟨k,8,Q⟩ (ud (Z ⟨g1,0,Q⟩) n c1)).setCell ⟨k,9,Q⟩ (ud (Z ⟨g2,0,Q⟩) n c2)) B k b lv e (ud (Z ⟨g1,0,Q⟩) n c1) (ud (Z ⟨g2,0,Q⟩) n c2) T P p:=by
 have hb:But (fun j=>j=k) w ((w.setCell ⟨k,8,Q⟩ (ud (Z ⟨g1,0,Q⟩) n c1)).setCell ⟨k,9,Q⟩ (ud (Z ⟨g2,0,Q⟩) n c2)):=
  ((But.refl (fun j=>j=k) w).setCell (a:=⟨k,8,Q⟩) (.inr rfl) _).setCell (a:=⟨k,9,Q⟩) (.inr rfl) _
 have o1:=h.o1;have o2:=h.o2;rw[yC,yJ,hT,jD]at o1;rw[yC,yJ,hP,jD]at o2;have p1:w.ownsRow B 3 1 (ud (Z ⟨g1,0,Q⟩) n c1) n (xn T):=ownsRow_pop (by simp[xn,hT]) o1;have p2:w.ownsRow B 3 1 (ud (Z ⟨g2,0,Q⟩) n c2) n (xn P):=ownsRow_pop (by simp[xn,hP]) o2;have n1:(yU (Z ⟨g1,0,Q⟩) n c1).ownBlock≠Z k:=h.n1;have n2:(yU (Z ⟨g2,0,Q⟩) n c2).ownBlock≠Z k:=h.n2;refine⟨?_,?_,?_,?_,?_,?_,?_,?_,?_,?_,?_,fun o=> ?_,?_,?_,h.ne,n1,n2,h.hi⟩
 iterate 12 (focus (simp[go_sem,h.c0,h.c1,h.c2,h.c3,h.c4,h.c5,h.c6,h.c7,h.c8,h.c9,h.c10,h.fz]))
 ·rw[hT]
  exact zc p1 hb fun j hj e=>n1 (e▸hj)
 ·rw[hP]
  exact zc p2 hb fun j hj e=>n2 (e▸hj)
theorem ydl (lv:Int):Pg.enc A A 0 A A 0 lv=0:=by
 unfold Pg.enc;split
 ·simp[Pg.yiY]
 ·rfl
theorem ygo {w0 w:uc} {k b:Nat} {F0:Nat->Prop} {S:Pg.Fs} {lv:Int} {e:Pg.En} {ts ps:List Int} {p t q t' q':Int} (h:St w0 w k b F0 S lv e (ts++[t']++[t]) (ps++[q']++[q]) p) (Hg:ts.length=ps.length) (hl:ts.length<4000) (lU:0<=lv) (nE:lv<100):
 yY M 137 #[uv (Z ⟨k,0,Q⟩)] w fun en w'=>en=ur (J I t)/\St w0 w' k b F0 (S.store t' q' 0) (lv+1) Pg.En.zero (ts++[t']) (ps++[q']) p:=by
 have hT:(ts++[t']).length=ts.length+1:=by simp
 have hP:(ps++[q']).length=ts.length+1:=by simp[Hg]
 have HP:∀w1 e1,St w0 w1 k b F0 S (lv+1) e1 (ts++[t']) (ps++[q']) p->yY M 134 #[uv (Z ⟨k,0,Q⟩),yB #[kp A,kp A,J I 0,kp A,kp A,J I 0]] w1 fun en w'=>en=ur (yN #[])/\St w0 w' k b F0 (S.store t' q' 0) (lv+1) Pg.En.zero (ts++[t']) (ps++[q']) p:=fun w1 e1 h1=>by
  have:=vY Pg.En.zero h1 Hg (by omega);simp only[Pg.En.zero,Pg.En.val,ydl]at this;exact this
 have gV:=ybo h (by rw[yC,yJ,hT];omega)
 have e1:(((ts++[t']++[t]).length:Nat):Int)-1=((ts.length+1:Nat):Int):=by rw[yC,yJ,hT];omega
 rw[e1]at gV;obtain⟨B,v1,v2,F,hM,hF,hB,h1,h2,fq,hm⟩:=h.body;obtain⟨g1,gZ,rfl,rO,Tp⟩:=jG hM.o1;obtain⟨g2,cap2,rfl,tY,Tq⟩:=jG hM.o2;rw[hT]at rO Tp;rw[hP]at tY Tq
 have aP:Mk w B k b lv e (ud (Z ⟨g1,0,Q⟩) (ts.length+1+1) gZ) (ud (Z ⟨g2,0,Q⟩) (ts.length+1+1) cap2) (ts++[t']++[t]) (ps++[q']++[q]) p:=by have:=hM;rw[hT,hP]at this;exact this
 have SN:∀j,F j->¬mkF k (ud (Z ⟨g1,0,Q⟩) (ts.length+1+1) gZ) (ud (Z ⟨g2,0,Q⟩) (ts.length+1+1) cap2) j:=by have:=h2;rw[hT,hP]at this;exact this
 have k1:=aP.c1;have k8:=aP.c8;have k9:=aP.c9;have kf:=aP.fz;have HM:U _:=aP;have HF:U (zh w b S F):=hF;have CE:U _:=hB;have H1:U _:=h1;have H2:U _:=SN
 have kQ:∀j,mkF k (ud (Z ⟨g1,0,Q⟩) (ts.length+1+1) gZ) (ud (Z ⟨g2,0,Q⟩) (ts.length+1+1) cap2) j->F0 j\/w0.heap.size<=j:=by have:=hm;rw[hT,hP]at this;exact this
 have Hm:U _:=kQ;have wy:U _:=fq;clear hM hF hB h1 h2 h aP SN e1 Hg hm kQ fq;generalize ts++[t']=T at*;generalize ps++[q']=P at*;generalize S.store t' q' 0=S' at*;generalize ts.length=m at*
 have i0:(0:Int)<=((m+1:Nat):Int):=by omega
 have i1:((m+1:Nat):Int)<((m+1+1:Nat):Int):=by omega
 have i2:((m+1:Nat):Int)<=(gZ:Int):=by omega
 have i3:((m+1:Nat):Int)<=(cap2:Int):=by omega
 generalize hn:m+1=n at*;have HN:U _:=hn;clear hn
 go_enter Tryz.func137,Tryz.ntmps137
 go_wp2_with fail
 refine gV.mono ?_;rintro en w1 ⟨rfl,rfl⟩
 go_wp2_with fail
 go_region
 have M2:U _:=(HM.out.ymj (lv+1)).pop hT hP
 have bt:U (But (fun j=>j=k) w1 (((w1.setCell ⟨k,1,Q⟩ (J I (lv+1))).setCell ⟨k,8,Q⟩ (ud (Z ⟨g1,0,Q⟩) n gZ)).setCell ⟨k,9,Q⟩ (ud (Z ⟨g2,0,Q⟩) n cap2))):=
  (((But.refl (fun j=>j=k) w1).setCell (a:=⟨k,1,Q⟩) (.inr rfl) _).setCell (a:=⟨k,8,Q⟩) (.inr rfl) _).setCell (a:=⟨k,9,Q⟩) (.inr rfl) _
 have S2:U (St w0 (((w1.setCell ⟨k,1,Q⟩ (J I (lv+1))).setCell ⟨k,8,Q⟩ (ud (Z ⟨g1,0,Q⟩) n gZ)).setCell ⟨k,9,Q⟩ (ud (Z ⟨g2,0,Q⟩) n cap2)) k b F0 S (lv+1) e T P p):=
  St.step HM.out HF.out CE.out H1.out H2.out wy.out Hm.out M2.out bt.out (fun j hj=> .inl hj) (fun j hj=> .inl hj)
 have S3:U (St w0 ((((w1.setCell ⟨k,1,Q⟩ (J I (lv+1))).setCell ⟨k,8,Q⟩ (ud (Z ⟨g1,0,Q⟩) n gZ)).setCell ⟨k,9,Q⟩ (ud (Z ⟨g2,0,Q⟩) n cap2)).drew) k b F0 S (lv+1) e T P p):=S2.out.grow (zR _).drew;have OW:=HP _ e S3.out;have FH:=HP _ e S2.out;clear HP gV k1 k8 k9 kf rO tY
 go_wp2_with fail
 first
  | refine OW.mono ?_
  | refine FH.mono ?_
 rintro en w2 ⟨rfl,hS⟩;have HS:U _:=hS;clear hS OW FH
 go_wp2
 go_ret
 exact⟨rfl,HS.out⟩
theorem St.rebase {w0 w:uc} {k b:Nat} {F0:Nat->Prop} {S:Pg.Fs} {lv:Int} {e:Pg.En} {ts ps:List Int} {p:Int} (h:St w0 w k b F0 S lv e ts ps p):
 ∃H:Nat->Prop,St w w k b H S lv e ts ps p/\(∀j,H j->F0 j\/w0.heap.size<=j)/\∀j,H j->j<w.heap.size:=by
 obtain⟨B,v1,v2,F,hM,hF,hB,h1,h2,fq,hm⟩:=h.body;refine⟨fun j=>F j\/mkF k v1 v2 j,⟨B,v1,v2,F,hM,hF,But.refl _ _,fun j hj=> .inl (.inl hj),h2,fq,fun j hj=> .inl (.inr hj)⟩,fun j hj=>hj.elim (h1 j) (hm j),fun j hj=>hj.elim (fun h=>hF.lt h) fun h=>(hM.lt h).2⟩
theorem St.other {w0 w w':uc} {k b:Nat} {H:Nat->Prop} {S:Pg.Fs} {lv:Int} {e:Pg.En} {ts ps:List Int} {p:Int} (h:St w0 w k b H S lv e ts ps p) {G:Nat->Prop} (hb:But G w w') (hG:∀j,G j->j<w0.heap.size/\¬H j):
 ∃H':Nat->Prop,St w' w' k b H' S lv e ts ps p/\(∀j,H' j->H j\/w0.heap.size<=j)/\∀j,H' j->j<w.heap.size:=by
 obtain⟨B,v1,v2,F,hM,hF,hB,h1,h2,fq,hm⟩:=h.body
 have n1:∀j,F j->¬G j:=fun j hj hg=>by
  obtain⟨g1,g2⟩:=hG j hg;rcases h1 j hj with h|h
  ·exact g2 h
  ·omega
 have n2:∀j,mkF k v1 v2 j->¬G j:=fun j hj hg=>by
  obtain⟨g1,g2⟩:=hG j hg;rcases hm j hj with h|h
  ·exact g2 h
  ·omega
 exact⟨fun j=>F j\/mkF k v1 v2 j,⟨B,v1,v2,F,hM.keep hb n2,hF.keep hb n1,But.refl _ _,fun j hj=> .inl (.inl hj),h2,yO fq hb.size,fun j hj=> .inl (.inr hj)⟩,fun j hj=>hj.elim (h1 j) (hm j),fun j hj=>hj.elim (fun h=>hF.lt h) fun h=>(hM.lt h).2⟩
def qV (p:Int) (ts:List Int) (n:Nat) (S:Pg.Fs) (G:List Int):Pg.Fs×List Int:=
 if n<=1\/Pg.yhS S (ts.getD (n-1) 0)=A then(S,G)else Pg.rmW p ts (n-1) S (G++[ts.getD (n-1) 0])
theorem yby (p:Int) (ts:List Int) (m:Nat) (S:Pg.Fs) (G:List Int):Pg.rmW p ts (m+1) S G=qV p ts (m+1) (S.store (ts.getD m 0) (Pg.index p (3-(m:Int))) 0) G:=by
 unfold qV;rw[Pg.rmW]
 by_cases h:m=0\/Pg.yhS (S.store (ts.getD m 0) (Pg.index p (3-(m:Int))) 0) (ts.getD m 0)=A
 ·rw[iP h,iP (by simpa using h.imp (fun e=>by omega) id)]
 ·rw[iN h,iN (by intro hh;exact h (by simpa using hh.imp (fun e=>by omega) id))]
  simp
theorem xP (l:List Int) (m:Nat) (h:m<l.length):l.take (m+1)=l.take m++[l.getD m 0]:=by
 rw[List.take_succ_eq_append_getElem h];simp[List.getD,h]
structure ygd (w:uc) (b:Nat) (F:Nat->Prop) (S S':Pg.Fs) (m:Pg.Mp) (G:List Int) (c:Int) (en:Ending) (w':uc):Prop where
 body:∃ad cap F',en=ur (yN #[m.val,ud ad G.length cap,J I c])/\zq w' ad G/\zh w' b S' F'/\But F w w'/\(∀k,F' k->F k\/w.heap.size<=k)/\∀g,ad=Z ⟨g,0,Q⟩->w.heap.size<=g/\¬F' g
def lenOf:yG->Nat
 | ud _ n _=>n
 | _=>0
structure ygl (W5 wr:uc) (k b:Nat) (H0 Hc:Nat->Prop) (Si:Pg.Fs) (ei:Pg.En) (T P:List Int) (n:Nat) (p:Int) (vg:yG) (Gi:List Int) (R:Pg.Fs×List Int):Prop where
 st:St wr wr k b Hc Si (4-(n:Int)) ei (T.take n) (P.take n) p
 but:But H0 W5 wr
 hc:∀j,Hc j->H0 j\/W5.heap.size<=j
 lt:∀j,Hc j->j<wr.heap.size
 own:wr.ownsRow W5.heap.size 3 1 vg Gi.length (xn Gi)
 far:∀j,vg.ownBlock=Z j->¬Hc j
 has:∀x,x ∈ T->Si.has x=yV
 rest:qV p T n Si Gi=R
theorem ycj {w W1 W5 wr w7:uc} {k b n:Nat} {F H0 Hc:Nat->Prop} {S Si:Pg.Fs} {ei:Pg.En} {T P Gi:List Int} {p:Int} {ga:Option Addr} {gc:Nat} {R:Pg.Fs×List Int} (HI:ygl W5 wr k b H0 Hc Si ei T P n p (ud ga Gi.length gc) Gi R) (hb:Lw wr w7) (H:zh w b S F) (wX:But F w W5) (Gh:∀j,H0 j->F j\/W1.heap.size<=j) (mK:w.heap.size<W1.heap.size) (h15:W1.heap.size<=W5.heap.size) (a0 a1 a2 a3:yG) (m:Pg.Mp) (c:Int):
 ygd w b F S Si m Gi c (ur (yN #[m.val,ud ga Gi.length gc,J I c])) ((((w7.setCell ⟨w.heap.size,0,Q⟩ a0).setCell ⟨w.heap.size,1,Q⟩ a1).setCell ⟨w.heap.size,2,Q⟩ a2).setCell ⟨w.heap.size,3,Q⟩ a3):=by
 obtain⟨F2,hF,hB,h1⟩:=HI.st.leaves
 have EU:∀j,F2 j->Hc j:=fun j hj=>by
  rcases h1 j hj with h|h
  ·exact h
  ·have:=hF.lt hj;omega
 have EW:∀j,F2 j->F j\/W1.heap.size<=j:=fun j hj=>by
  rcases HI.hc j (EU j hj)with h|h
  ·exact Gh j h
  ·exact .inr (by omega)
 have fI:But (fun j=>j=w.heap.size) wr ((((w7.setCell ⟨w.heap.size,0,Q⟩ a0).setCell ⟨w.heap.size,1,Q⟩ a1).setCell ⟨w.heap.size,2,Q⟩ a2).setCell ⟨w.heap.size,3,Q⟩ a3):=by
  iterate 4 refine But.setCell ?_ (by exact .inr rfl) _
  exact But.yhJ hb
 refine⟨ga,gc,F2,rfl,?_,hF.keep fI fun j hj e=> ?_,?_,fun j hj=>(EW j hj).imp id fun h=>by omega,fun g hg=> ?_⟩
 ·exact qk (cap:=gc) (n:=Gi.length) (zc HI.own fI fun j hj e=>by have:=(HI.own.lt j hj).1;omega)
 ·rcases EW j hj with h|h
  ·have:=H.lt h;omega
  ·omega
 ·refine(wX.trans HI.but fun i hi h=> ?_).trans fI fun i hi e=>by omega
  rcases Gh i h with h|h
  ·exact h
  ·omega
 ·subst hg
  have:=(HI.own.lt g rfl).1;exact⟨by omega,fun h=>HI.far g rfl (EU g h)⟩
theorem ydc {b:Nat} {S:Pg.Fs} {F:Nat->Prop} (t p:Int) (w:uc) (h:zh w b S F):
 yY M 89 #[uv (Z ⟨b,0,Q⟩),J I t,J I p] w fun en w'=>ygd w b F S (Pg.rmR S t p).1 (Pg.tFM S t p) (Pg.rmR S t p).2 (Pg.tFC S t p) en w':=by
 have H:U (zh w b S F):=h;obtain⟨W1,rC⟩:=eY (w.alloc (kh #[J I 0,J I 0,J I 0,J I 0] 39))
 have sG:Lw w W1:=by rw[rC];exact zA (zR w) _
 have r4:W1.cell? ⟨w.heap.size,0,Q⟩=Z (J I 0)/\W1.cell? ⟨w.heap.size,1,Q⟩=Z (J I 0)/\W1.cell? ⟨w.heap.size,2,Q⟩=Z (J I 0)/\W1.cell? ⟨w.heap.size,3,Q⟩=Z (J I 0):=by rw[rC];simp[go_sem]
 have kX:∀o,W1.frozen? ⟨w.heap.size,o,Q⟩=A:=fun o=>by rw[rC];simp[go_sem]
 have ni:U _:=r4;have sU:U _:=kX;have ry:U _:=sG;have mK:w.heap.size<W1.heap.size:=yF _ _ r4.1;have HW:=qK t p W1 (h.keep (G:=fun _=>False) (But.yhJ sG) fun _ _=>id)
 by_cases hc:Pg.tFC S t p=0
 ·have hz:xQ S t p=0:=by
   by_cases hz:xQ S t p=0
   ·exact hz
   ·rw[Pg.tFC,iP hz]at hc
    exact absurd hc hz
  obtain⟨Y,s,lv,hY,W,lw,lN,Gq,dF,dN⟩:=qX hz;have pF:=W.has;have iR:=W.len
  have e5:Pg.tFM S t p=s.e.map (lv:Int) p:=by rw[Pg.tFM,iP hc,hY,W.yhO,W.yhQ]
  have eR:Pg.rmR S t p=Pg.rmW p (tabs (Y++[s])) (Y.length+1) S []:=by rw[Pg.rmR,iP hc,hY];simp
  have Bz:∀i,i<Y.length+1->(qL (Y++[s])).getD i 0=Pg.index p (3-(i:Int)):=fun i hi=>by
   have:=(yaV S t p (i:=i) (by rw[hY];simpa using hi)).2.2;rw[hY]at this;exact this
  rw[hc,e5,eR];rw[hc,hY,W.yhQ,W.yhO]at HW
  have KX:(tabs (Y++[s])).length=Y.length+1:=by rw[xA];simp
  have IP:(qL (Y++[s])).length=Y.length+1:=by rw[vy];simp
  rw[yC,yJ]at iR;clear hc hz W hY lw dF dN h e5 eR r4 kX sG;generalize tabs (Y++[s])=T at*;generalize qL (Y++[s])=P at*;generalize Y.length=N at*;generalize PP:s.e=e at*;clear PP;generalize Ry:e.map (lv:Int) p=mm at*;have N9:U _:=Ry;clear Ry;obtain⟨mp,ms,mf,mr⟩:=mm;rw[yby]
  go_enter Tryz.func89,Tryz.ntmps89
  go_wp2_with fail
  rw[<-rC];clear rC;refine HW.mono ?_;rintro en w3 ⟨k,rfl,hS,He⟩;have mY:=jF hS;rw[N9.out]at mY;simp only[Pg.Mp.val]at mY;have Ll:U _:=hS;have rE:U (Lw W1 w3):=He;clear hS He HW
  go_wp2_with fail
  refine mY.mono ?_;rintro en w4 ⟨rfl,Hl⟩;have rR:U (Lw w3 w4):=Hl;clear Hl mY;obtain⟨W5,nR⟩:=eY (w4.alloc (kh #[J I mp,J I ms,J I mf,J I mr] 39))
  have wX:Lw w3 W5:=by rw[nR];exact zA rR.out _
  have m4:W5.cell? ⟨w4.heap.size,0,Q⟩=Z (J I mp)/\W5.cell? ⟨w4.heap.size,1,Q⟩=Z (J I ms)/\W5.cell? ⟨w4.heap.size,2,Q⟩=Z (J I mf)/\W5.cell? ⟨w4.heap.size,3,Q⟩=Z (J I mr):=by rw[nR];simp[go_sem]
  have hl45:w4.heap.size<W5.heap.size:=yF _ _ m4.1;have Z5:U _:=xG (zT rE.out wX) ni.out;have FT:U (∀o,W5.frozen? ⟨w.heap.size,o,Q⟩=A):=fun o=>((zT rE.out wX).frozen (p:=⟨w.heap.size,o,Q⟩) mK).trans (sU.out o)
  have hS6:∃H0':Nat->Prop,St W5 W5 k b H0' S (lv:Int) e T P p/\(∀j,H0' j->F j\/W1.heap.size<=j)/\∀j,H0' j->j<w4.heap.size:=by
   obtain⟨H',q1,q2,q3⟩:=(Ll.out.grow rR.out).other (w':=W5) (G:=fun _=>False) (by rw[nR];exact But.yhJ (zA (zR _) _)) fun _ h=>h.elim;exact⟨H',q1,q2,q3⟩
  obtain⟨H0,Ig,Gh,Gj⟩:=hS6
  have Lf:yY M 134 #[uv (Z ⟨k,0,Q⟩),yB #[kp A,kp A,J I 0,kp A,kp A,J I 0]] W5 fun en w'=>en=ur (yN #[])/\St W5 w' k b H0 (S.store (T.getD N 0) (Pg.index p (3-(N:Int))) 0) (lv:Int) Pg.En.zero (T.take (N+1)) (P.take (N+1)) p:=by
   have eT:T=T.take N++[T.getD N 0]:=by rw[<-xP T N (by omega),<-KX,yQ]
   have eP:P=P.take N++[Pg.index p (3-(N:Int))]:=by rw[<-Bz N (by omega),<-xP P N (by omega),<-IP,yQ]
   have Mq:St W5 W5 k b H0 S (lv:Int) e (T.take N++[T.getD N 0]) (P.take N++[Pg.index p (3-(N:Int))]) p:=by rw[<-eT,<-eP];exact Ig
   have:=vY Pg.En.zero Mq (by simp;omega) (by simp;omega);simp only[Pg.En.zero,Pg.En.val,ydl]at this;rw[<-eT,<-eP]at this
   have t1:T.take (N+1)=T:=by rw[<-KX,yQ]
   have t2:P.take (N+1)=P:=by rw[<-IP,yQ]
   rw[t1,t2];exact this
  have M5:U _:=m4;have wB:U (But F w W5):=(But.yhJ ry.out).trans ((Ll.out.but).trans (But.yhJ (F:=fun _=>False) wX) fun _ _ h=>h.elim) fun _ _ h=>h;have CR:U _:=Gh;have Fy:U _:=Gj;have G7:W1.heap.size<=W5.heap.size:=yO rE.out.size wX.size;clear Ig Gh Gj m4 wX Ll
  have rQ:(lv:Int)=4-((N+1:Nat):Int):=by omega
  rw[rQ]at Lf;generalize hR:qV p T (N+1) (S.store (T.getD N 0) (Pg.index p (3-(N:Int))) 0) []=R at*;have bQ:U _:=hR;clear hR
  have Ty:∀x,x ∈ T->(S.store (T.getD N 0) (Pg.index p (3-(N:Int))) 0).has x=yV:=fun x hx=>by rw[Pg.yiu];exact pF x hx
  have NN:U _:=Ty;clear pF Ty
  go_wp2_with fail
  rw[<-nR];clear nR;refine Lf.mono ?_;rintro en w6 ⟨rfl,h6⟩;have OY:U _:=h6;clear h6 Lf
  go_wp2
  go_loopw [12] (fun vg wr=>∃(n:Nat) (Si:Pg.Fs) (ei:Pg.En) (Gi:List Int) (Hc:Nat->Prop),1<=n/\Gi.length+n=N+1/\U (ygl W5 wr k b H0 Hc Si ei T P n p vg Gi R)) (fun vg _=>10-lenOf vg)
  case atStart=>
   obtain⟨Hc,q1,q2,q3⟩:=OY.out.rebase;exact⟨N+1,_,_,[],Hc,by omega,by simp,q1,OY.out.but,q2,q3,World.ownsRow_nil _ _ _ _,fun j hj=>by simp[yW]at hj,NN.out,bQ.out⟩
  case round=>
   obtain⟨n,Si,ei,Gi,Hc,dY,GV,HI⟩:=hrel
   have hTn:(T.take n).length=n:=by simp;omega
   have wz:=vQ HI.out.st (by omega);rw[hTn]at wz;obtain⟨ga,gc,UO⟩:=zF HI.out.own;subst UO
   by_cases h1:n=1
   ·subst h1
    have Ha:decide (1<1)=A:=by decide
    rw[Ha]at wz
    have dw:U (R=(Si,Gi)):=by rw[U,<-HI.out.rest,qV,iP (by left;omega)]
    go_wp2_with fail
    refine wz.mono ?_;rintro en w7 ⟨rfl,Ng⟩;have rZ:Lw wr w7:=Ng▸zR wr;clear Ng
    have dA:w7.heap[w.heap.size]?=W5.heap[w.heap.size]?:=by
     have q1:=HI.out.but.block w.heap.size (by omega) fun h=>by
      rcases CR.out _ h with h|h
      ·have:=zh.lt H.out h;omega
      ·omega
     exact(rZ.block _ (by have:=HI.out.but.size;omega)).trans q1
    have dh:w7.heap[w4.heap.size]?=W5.heap[w4.heap.size]?:=by
     have q1:=HI.out.but.block w4.heap.size (by omega) fun h=>by have:=Fy.out _ h;omega
     exact(rZ.block _ (by have:=HI.out.but.size;omega)).trans q1
    have z0:=(E dA).trans Z5.out.1;have z1:=(E dA).trans Z5.out.2.1;have z2:=(E dA).trans Z5.out.2.2.1;have z3:=(E dA).trans Z5.out.2.2.2;have zf:∀o,w7.frozen? ⟨w.heap.size,o,Q⟩=A:=fun o=>(yK dA).trans (FT.out o);have m0:=(E dh).trans M5.out.1;have m1:=(E dh).trans M5.out.2.1;have m2:=(E dh).trans M5.out.2.2.1;have m3:=(E dh).trans M5.out.2.2.2;have fin:U _:=ycj HI.out rZ H.out wB.out CR.out mK G7 (J I mp) (J I ms) (J I mf) (J I mr) ⟨mp,ms,mf,mr⟩ 0;clear dA dh rZ wz
    go_wp2
    refine un (v:=yN #[yB #[J I mp,J I ms,J I mf,J I mr],ud ga Gi.length gc,J I 0]) ?_ rfl ?_
    ·simp[results,Tryz.results89,go_sem,z0,z1,z2,z3]
    ·rw[bQ.out,dw.out]
     exact fin.out
   ·obtain⟨m,rfl⟩:∃m,n=m+2:=⟨n-2,by omega⟩
    have Ha:decide (1<m+2)=yV:=by simp
    rw[Ha]at wz
    have eT:T.take (m+2)=T.take m++[T.getD m 0]++[T.getD (m+1) 0]:=by rw[xP T (m+1) (by omega),xP T m (by omega)]
    have ED:T.take (m+2)=T.take (m+1)++[T.getD (m+1) 0]:=xP T (m+1) (by omega)
    have eP:P.take (m+2)=P.take m++[P.getD m 0]++[P.getD (m+1) 0]:=by rw[xP P (m+1) (by omega),xP P m (by omega)]
    have dD:T.getD (m+1) 0 ∈ T:=by
     have:m+1<T.length:=by omega
     simp[List.getD,this]
    have wP:yY M 136 #[uv (Z ⟨k,0,Q⟩)] wr fun en w'=>en=ur (kp (Pg.yhS Si (T.getD (m+1) 0)))/\Lw wr w':=vp (by rw[<-ED];exact HI.out.st) (by simp;omega) (HI.out.has _ dD);cases oh:Pg.yhS Si (T.getD (m+1) 0)
    ·rw[oh]at wP
     have dw:U (R=(Si,Gi)):=by rw[U,<-HI.out.rest,qV,iP (by right;exact oh)]
     go_wp2_with fail
     refine wz.mono ?_;rintro en w7 ⟨rfl,Ng⟩;subst w7
     go_wp2_with fail
     refine wP.mono ?_;rintro en w7 ⟨rfl,rZ⟩
     have dA:w7.heap[w.heap.size]?=W5.heap[w.heap.size]?:=by
      have q1:=HI.out.but.block w.heap.size (by omega) fun h=>by
       rcases CR.out _ h with h|h
       ·have:=zh.lt H.out h;omega
       ·omega
      exact(rZ.block _ (by have:=HI.out.but.size;omega)).trans q1
     have dh:w7.heap[w4.heap.size]?=W5.heap[w4.heap.size]?:=by
      have q1:=HI.out.but.block w4.heap.size (by omega) fun h=>by have:=Fy.out _ h;omega
      exact(rZ.block _ (by have:=HI.out.but.size;omega)).trans q1
     have z0:=(E dA).trans Z5.out.1;have z1:=(E dA).trans Z5.out.2.1;have z2:=(E dA).trans Z5.out.2.2.1;have z3:=(E dA).trans Z5.out.2.2.2;have zf:∀o,w7.frozen? ⟨w.heap.size,o,Q⟩=A:=fun o=>(yK dA).trans (FT.out o);have m0:=(E dh).trans M5.out.1;have m1:=(E dh).trans M5.out.2.1;have m2:=(E dh).trans M5.out.2.2.1;have m3:=(E dh).trans M5.out.2.2.2;have fin:U _:=ycj HI.out rZ H.out wB.out CR.out mK G7 (J I mp) (J I ms) (J I mf) (J I mr) ⟨mp,ms,mf,mr⟩ 0;clear dA dh rZ wz wP
     go_wp2
     refine un (v:=yN #[yB #[J I mp,J I ms,J I mf,J I mr],ud ga Gi.length gc,J I 0]) ?_ rfl ?_
     ·simp[results,Tryz.results89,go_sem,z0,z1,z2,z3]
     ·rw[bQ.out,dw.out]
      exact fin.out
    ·rw[oh]at wP
     have iw:U (qV p T (m+1) (Si.store (T.getD m 0) (Pg.index p (3-(m:Int))) 0) (Gi++[T.getD (m+1) 0])=R):=by
      rw[U,<-HI.out.rest,<-yby]
      conv=>rhs;rw[qV,iN (by intro hh;rcases hh with h|h;(· omega);(· rw[show m+2-1=m+1 from rfl,oh]at h;cases h))]
      rfl
     go_wp2_with fail
     refine wz.mono ?_;rintro en w7 ⟨rfl,Ng⟩;subst w7
     go_wp2_with fail
     refine wP.mono ?_;rintro en w7 ⟨rfl,rZ⟩
     have Bi:(4-((m+2:Nat):Int))+1=4-((m+1:Nat):Int):=by omega
     have Mq:St wr w7 k b Hc Si (4-((m+2:Nat):Int)) ei (T.take m++[T.getD m 0]++[T.getD (m+1) 0]) (P.take m++[P.getD m 0]++[P.getD (m+1) 0]) p:=by rw[<-eT,<-eP];exact HI.out.st.grow rZ
     have eZ:=ygo Mq (by simp;omega) (by simp;omega) (by omega) (by omega);rw[Bi,Bz m (by omega)]at eZ;rw[<-xP T m (by omega)]at eZ
     have EC:P.take m++[Pg.index p (3-(m:Int))]=P.take (m+1):=by rw[xP P m (by omega),Bz m (by omega)]
     rw[EC]at eZ;have pO:U _:=rZ;have oK:U _:=HI.out
     have hgl:Gi.length+1<=4:=by omega
     generalize T.getD (m+1) 0=tg at*;generalize T.getD m 0=tm at*;clear rZ wz wP eT ED eP dD EC Bi Mq
     go_wp2_with fail
     refine eZ.mono ?_;rintro en w8 ⟨rfl,h8⟩;have WY:U _:=h8;have Tf:But Hc wr w8:=h8.but;have TE:w8.ownsRow W5.heap.size 3 1 (ud ga Gi.length gc) Gi.length (xn Gi):=zc HI.out.own Tf fun j hj=>HI.out.far j hj
     have hs58:W5.heap.size<=w8.heap.size:=by have:=HI.out.but.size;have:=Tf.size;omega
     have dQ:U _:=Tf;obtain⟨q0,hq,rW,tJ,rX⟩:=info_parts qE;clear h8 eZ Tf
     go_wp2_with (first
      | (at_builtin;refine wpList_append_lies _ rfl _ _ 45 rfl W5.heap.size 3 q0 (J I 0) 1 8 Tryz.underlying45 hq rW tJ rX rfl (by decide) _ _ _ rfl (TE.alloc _) ⟨w8.heap.size,0,Q⟩ 1 1 [J I tg] rfl rfl ?c1 ?c2 (by decide) ?c3 ?c4 ?c5 (w8.heap.size+1) (by simp) ?_))
     case c1=>
      intro j u hj
      match j,hj with
      | 0,hj=>simp at hj;subst hj;simp[Addr.add,go_sem]
     case c2=>intro u hu;simp at hu;subst hu;rfl
     case c3=>unfold maxLen;omega
     case c4=>omega
     case c5=>simp;omega
     intro g9 dx w9 gF dC uY iU;have WR:U (w9.ownsRow W5.heap.size 3 1 (ud (Z ⟨g9,0,Q⟩) (Gi.length+1) dx) (Gi.length+1) (xn Gi++[J I tg])):=gF;have SQ:But (fun j=>(yU ga Gi.length gc).ownBlock=Z j) w8 w9:=(But.yhJ (zA (zR w8) _)).grown dC fun k hk=> .inr hk;have ww:U _:=SQ;have Wm:U ((yU ga Gi.length gc).ownBlock=Z g9\/g9=w8.heap.size+1):=uY;clear gF dC uY iU TE SQ
     have fin:U (∃FR,ygl W5 w9 k b H0 FR (Si.store tm (Pg.index p (3-(m:Int))) 0) Pg.En.zero T P (m+1) p (ud (Z ⟨g9,0,Q⟩) (Gi.length+1) dx) (Gi++[tg]) R):=by
      have Hf:∀j,(yU ga Gi.length gc).ownBlock=Z j->W5.heap.size<=j/\j<wr.heap.size:=fun j hj=>oK.out.own.lt j hj;obtain⟨FR,q1,q2,q3⟩:=WY.out.other ww.out fun j hj=>⟨(Hf j hj).2,oK.out.far j hj⟩;refine⟨FR,q1,?_,fun j hj=> ?_,fun j hj=>kO (q3 j hj) ww.out.size,?_,fun j hj=> ?_,fun x hx=> ?_,iw.out⟩
      ·refine(oK.out.but.trans dQ.out fun i hi h=> ?_).trans ww.out fun i hi h=> ?_
       ·rcases oK.out.hc i h with h|h
        ·exact h
        ·omega
       ·have:=(Hf i h).1;omega
      ·rcases q2 j hj with h|h
       ·exact oK.out.hc j h
       ·have:=oK.out.but.size;exact .inr (by omega)
      ·rw[yC,yJ,jD]
       exact WR.out
      ·have e:g9=j:=by simpa[yW]using hj
       subst e;intro hh;rcases Wm.out with h|h
       ·rcases q2 g9 hh with h'|h'
        ·exact oK.out.far g9 h h'
        ·have:=(Hf g9 h).2;omega
       ·have:=q3 g9 hh;omega
      ·rw[Pg.yiu];exact oK.out.has x hx
     go_wp2_with fail
     obtain⟨FR,hI'⟩:=fin.out;exact⟨⟨m+1,_,_,Gi++[tg],FR,by omega,by simp;omega,hI'⟩,by simp[lenOf];omega⟩
 ·have e2:Pg.tFM S t p= .zz:=by rw[Pg.tFM,iN hc]
  have e3:Pg.rmR S t p=(S,[]):=by rw[Pg.rmR,iN hc]
  rw[e2,e3];clear h e2 e3 r4 kX sG;generalize Pg.tFC S t p=cc at*
  have bB:(cc !=0)=yV:=by simp[hc]
  clear hc
  go_enter Tryz.func89,Tryz.ntmps89
  go_wp2_with fail
  rw[<-rC];clear rC;refine HW.mono ?_;rintro en w3 ⟨k,rfl,_,He⟩;obtain⟨y0,y1,y2,y3⟩:=xG He ni.out;have yf:∀o,w3.frozen? ⟨w.heap.size,o,Q⟩=A:=fun o=>(He.frozen (p:=⟨w.heap.size,o,Q⟩) mK).trans (sU.out o);have rE:U (Lw w w3):=zT ry.out He;clear He HW
  go_wp2_with fail
  have wY:=zu rE.out w.heap.size (yT _) (J I 0) (J I 0) (J I 0) (J I 0);refine un (v:=yN #[yB #[J I 0,J I 0,J I 0,J I 0],ud Q 0 0,J I cc]) ?_ rfl ⟨Q,0,F,rfl,fun j hj=>absurd hj (by simp),zh.keep (G:=fun _=>False) H.out (But.yhJ wY) fun _ _=>id,But.yhJ wY,fun k hk=> .inl hk,fun g hg=>by cases hg⟩;simp[results,Tryz.results89,go_sem,y0,y1,y2,y3]
end
section
open Go.Sort
attribute [local go_sem] Loose.gent
theorem ybZ {b:Nat} {D:Dsd} {X:Pg.Spc} (m:Pg.Mp) (w:uc) (h:Dsk w b D X):
 yY M 88 #[uv (Z ⟨b,0,Q⟩),m.val] w fun e w'=>e=ur (Pg.Ev.val ⟨Pg.insC X.S 0 m,A,0,0,0,decide (Pg.insC X.S 0 m=0)⟩)/\zi w b D X {X with S:=Pg.insS X.S 0 m} w':=by
 obtain⟨p,s,f,r⟩:=m;obtain⟨W,hW⟩:=eY ((w.alloc (kh #[J I p,J I s,J I f,J I r] 39)).alloc (kh #[J I 0,kp A,J I 0,J I 0,J I 0,kp A] 36))
 have hB:Lw w W:=by rw[hW];exact zA (zA (zR _) _) _
 have rU:W.heap.size=w.heap.size+2:=by rw[hW];simp
 have RZ:U (W.heap[w.heap.size+1]?=Z (kh #[J I 0,kp A,J I 0,J I 0,J I 0,kp A] 36 (0,0))):=by
  rw[U,hW];exact(by simp:(w.alloc (kh #[J I p,J I s,J I f,J I r] 39)).heap.size=w.heap.size+1)▸yI _ _
 have LT:U (∀x,dsF D b X.C.length X.G x->x<w.heap.size):=h.owns;have HW:U _:=h.grow hB;have q0:=O (show W.cell? ⟨w.heap.size,0,Q⟩=Z (J I p) by rw[hW];simp[go_sem]);have q1:=O (show W.cell? ⟨w.heap.size,1,Q⟩=Z (J I s) by rw[hW];simp[go_sem]);have q2:=O (show W.cell? ⟨w.heap.size,2,Q⟩=Z (J I f) by rw[hW];simp[go_sem]);have q3:=O (show W.cell? ⟨w.heap.size,3,Q⟩=Z (J I r) by rw[hW];simp[go_sem]);have g0:=O HW.out.c0;have g1:=O HW.out.c1;have HI:=fun w' (hm:zh w' D.bm X.S D.FM)=>ydb 0 ⟨p,s,f,r⟩ w' hm;have HB:U _:=hB;clear h hB;simp only[Pg.Mp.val]at HI ⊢;generalize Pg.insC X.S 0 ⟨p,s,f,r⟩=c at*;generalize Pg.insS X.S 0 ⟨p,s,f,r⟩=S' at*
 go_enter Tryz.func88,Tryz.ntmps88
 go_upto_region 1 with fail
 rw[<-hW];clear hW;refine Loose.yhL 9 (by kernel_rfl) (by kernel_rfl) ?_;simp only[ua,yP,ue,yS]
 repeat (
  refine Loose.zS (fun k hk=> ?_)
  go_simp
  (refine hk _ ?_;clear hk k))
 refine Loose.yhM ?_;intro w3 He;have P3:U _:=HW.out.grow He;have rE:U _:=He;clear He q0 q1 q2 q3 g0 g1
 go_wp2_with fail
 refine(HI _ P3.out.mem).mono ?_;rintro e w4 ⟨rfl,FM,gD,Hl,fP⟩;have D4:U (zi W b D X {X with S:=S'} w4):=⟨_,P3.out.frames gD Hl fP,(But.yhJ rE.out).trans Hl (fun x _ e=>⟨1,e⟩),fun x hx=>(qy fP x hx).imp id (fun h=>by have:=rE.out.size;omega)⟩;clear gD Hl fP HI P3 rE;obtain⟨e4,Ck⟩:=D4.out.block (w:=w) (r:=w.heap.size+1) LT.out (by omega) (by omega);obtain⟨⟨z0,z1,z2,z3,z4,z5⟩,zf⟩:=zE (e4.trans RZ.out);have FIN:U (∀Wf,But (fun x=>x=w.heap.size+1) w4 Wf->zi w b D X {X with S:=S'} Wf):=fun Wf hb=>D4.out.behind HB.out LT.out (fun x e=>by omega) hb;clear e4 D4
 have ec:(c==0)=decide (c=0):=by by_cases e:c=0<;>simp[e]
 cases hc:decide (c=0)
 all_goals
  have PK:=hc;simp only[decide_eq_false_iff_not,decide_eq_true_eq]at PK;rw[hc]at ec;have Fe:U _:=PK;clear PK
  go_wp2
  refine un (v:=Pg.Ev.val ⟨c,A,0,0,0,_⟩) ?_ rfl ⟨rfl,FIN.out _ ?_⟩
  ·simp[results,Tryz.results88,go_sem,z0,z1,z2,z3,z4,z5,Ck,Pg.Ev.val,Fe.out]
   try exact Fe.out
  ·exact ybL _ _ _ _ _ _ _ _
theorem vI {b:Nat} {D:Dsd} {X:Pg.Spc} (m:Pg.Mp) (c:Int) (hc:c≠0) (ag:Option Addr) (n cg:Nat) (w:uc) (h:Dsk w b D X):
 yY M 90 #[uv (Z ⟨b,0,Q⟩),m.val,ud ag n cg,J I c] w fun e w'=>e=ur (Pg.Ev.code c).val/\Lw w w':=by
 obtain⟨p,s,f,r⟩:=m;obtain⟨W,hW⟩:=eY ((w.alloc (kh #[J I p,J I s,J I f,J I r] 39)).alloc (kh #[J I 0,kp A,J I 0,J I 0,J I 0,kp A] 36))
 have hB:Lw w W:=by rw[hW];exact zA (zA (zR _) _) _
 have rU:W.heap.size=w.heap.size+2:=by rw[hW];simp
 have RZ:U (W.heap[w.heap.size+1]?=Z (kh #[J I 0,kp A,J I 0,J I 0,J I 0,kp A] 36 (0,0))):=by
  rw[U,hW];exact(by simp:(w.alloc (kh #[J I p,J I s,J I f,J I r] 39)).heap.size=w.heap.size+1)▸yI _ _
 have HB:U _:=hB
 have lM:(c !=0)=yV:=by simpa using hc
 clear h hB hc;simp only[Pg.Mp.val]
 go_enter Tryz.func90,Tryz.ntmps90
 go_upto_region 1 with fail
 rw[<-hW];clear hW
 go_wp2_with fail
 refine(xz c _).mono ?_;rintro e w2 ⟨rfl,Hd⟩;obtain⟨⟨z0,z1,z2,z3,z4,z5⟩,zf⟩:=zE ((Hd.block _ (by omega)).trans RZ.out)
 have pJ:w.heap.size+1<w2.heap.size:=by have:=Hd.size;omega
 have Ht:U (Lw w w2):=zT HB.out Hd;clear Hd;simp only[Pg.Ev.val,Pg.Ev.code]
 go_wp2
 refine un (v:=(Pg.Ev.code c).val) ?_ rfl ⟨rfl,?_⟩
 ·simp[results,Tryz.results90,go_sem,z0,z1,z2,z3,z4,z5,pJ,Pg.Ev.val,Pg.Ev.code]
 ·exact vn Ht.out _ (by omega) _ _ _ _ _ _
theorem yaR {b:Nat} {D:Dsd} {X:Pg.Spc} (m:Pg.Mp) (hm:Pg.fits m.p) (Tm:X.busy=A) (ag:Option Addr) (cg:Nat) (G:List Int) (w:uc) (h:Dsk w b D X) (hG:zq w ag G) (hn:∀g,ag=Z ⟨g,0,Q⟩->¬dsF D b X.C.length [] g) (iJ:G.length<=4680):
 yY M 90 #[uv (Z ⟨b,0,Q⟩),m.val,ud ag G.length cg,J I 0] w fun e w'=>e=ur (Pg.Ev.code 0).val/\Dsk w' b {D with ag:=ag,cg:=cg} (X.post X.S m G)/\But (fun x=>x=b\/x=D.bs) w w':=by
 obtain⟨p,s,f,r⟩:=m;obtain⟨W,hW⟩:=eY ((w.alloc (kh #[J I p,J I s,J I f,J I r] 39)).alloc (kh #[J I 0,kp A,J I 0,J I 0,J I 0,kp A] 36))
 have hB:Lw w W:=by rw[hW];exact zA (zA (zR _) _) _
 have rU:W.heap.size=w.heap.size+2:=by rw[hW];simp
 have RZ:U (W.heap[w.heap.size+1]?=Z (kh #[J I 0,kp A,J I 0,J I 0,J I 0,kp A] 36 (0,0))):=by
  rw[U,hW];exact(by simp:(w.alloc (kh #[J I p,J I s,J I f,J I r] 39)).heap.size=w.heap.size+1)▸yI _ _
 have x0:W.cell? ⟨w.heap.size,0,Q⟩=Z (J I p):=by rw[hW];simp[go_sem]
 have x1:W.cell? ⟨w.heap.size,1,Q⟩=Z (J I s):=by rw[hW];simp[go_sem]
 have x2:W.cell? ⟨w.heap.size,2,Q⟩=Z (J I f):=by rw[hW];simp[go_sem]
 have x3:W.cell? ⟨w.heap.size,3,Q⟩=Z (J I r):=by rw[hW];simp[go_sem]
 have LT:U (∀x,dsF D b X.C.length X.G x->x<w.heap.size):=h.owns
 have LT2:U (∀x,dsF {D with ag:=ag,cg:=cg} b X.C.length G x->x<w.heap.size):=by
  rintro x ⟨i,hx⟩
  match i with
  | 0=>exact h.lt (i:=0) hx
  | 1=>exact h.lt (i:=1) hx
  | 2=>exact h.lt (i:=2) hx
  | 3=>exact h.lt (i:=3) hx
  | 4=>
    obtain⟨g,e,hl,_⟩:=hG 0 (List.length_pos_iff.2 hx.1);have e2:ag=Z ⟨x,0,Q⟩:=hx.2;rw[e2]at e;injection e with e;injection e with e;rw[e];exact hl
  | k+5=>exact h.lt (i:=k+5) hx
 have rY:=h.lb;have oQ:D.bs<w.heap.size:=LT.out _ ⟨3,rfl⟩;have Hg:=h.len;have Ut:=h.pos;have fK:=h.le;have HW:=h.grow hB
 obtain⟨P2,B2⟩:=HW.goes (ag:=ag) (cg:=cg) (G:=G) (fun j hj=>by
  obtain⟨g,e,hl,hc⟩:=hG j hj
  exact⟨g,e,kO hl hB.size,(hB.cell (p:=⟨g,j,Q⟩) hl).trans hc⟩) hn iJ
 have c4:=HW.c4;have fb:=HW.fb;generalize Hy:W.setCell ⟨b,4,Q⟩ (ud ag G.length cg)=W2 at*
 have pJ:W2.heap.size=w.heap.size+2:=by rw[<-Hy];simpa using rU
 have HM:U _:=hm;have HB:U _:=hB;have P2:U _:=P2;have B2:U _:=B2
 have Ho:∀y,w.heap.size<=y->¬y=b:=fun y h1 h2=>by omega
 have q0:=O ((B2.out.cell (a:=⟨w.heap.size,0,Q⟩) (show w.heap.size<_ by omega) (Ho _ (yT _))).trans x0);have q1:=O ((B2.out.cell (a:=⟨w.heap.size,1,Q⟩) (show w.heap.size<_ by omega) (Ho _ (yT _))).trans x1);have q2:=O ((B2.out.cell (a:=⟨w.heap.size,2,Q⟩) (show w.heap.size<_ by omega) (Ho _ (yT _))).trans x2);have q3:=O ((B2.out.cell (a:=⟨w.heap.size,3,Q⟩) (show w.heap.size<_ by omega) (Ho _ (yT _))).trans x3);have Z2:U (W2.heap[w.heap.size+1]?=_):=(B2.out.block _ (by omega) (Ho _ (by omega))).trans RZ.out;have g3:=O P2.out.c3;have g2:=O P2.out.c2;simp only at g3 g2;have oL:=fun w' (hs:jz w' D.bs X.T (fun k=>X.W.getD k A))=>yeg ⟨p,s,f,r⟩ X.C.length w' hs (by rw[Pg.ykI (by omega)];unfold Pg.Spc.busy at Tm;rw[Tm];rfl) Ut fK;rw[<-Hg,Pg.post_waits,Hg]at oL;clear h hG hn hm hB HW x0 x1 x2 x3 Ho Tm;simp only[Pg.Mp.val]at oL ⊢
 go_enter Tryz.func90,Tryz.ntmps90
 go_upto_region 1 with fail
 rw[<-hW];clear hW
 go_upto_region 4 with fail
 clear Hy c4 fb;refine Loose.yhL 10 (by kernel_rfl) (by kernel_rfl) ?_;simp only[ua,yP,ue,yS]
 repeat (
  refine Loose.zS (fun k hk=> ?_)
  go_simp
  (refine hk _ ?_;clear hk k))
 refine Loose.yhM ?_;intro w3 He;have P3:U _:=P2.out.grow He;have rE:U _:=He;have Z3:U (w3.heap[w.heap.size+1]?=_):=(He.block _ (by omega)).trans Z2.out;clear He q0 q1 q2 q3 g2 g3 Z2 P2
 go_wp2_with fail
 refine(oL _ P3.out.tl).mono ?_;rintro e w4 ⟨rfl,pz,Hl⟩;have P4:U (Dsk w4 b {D with ag:=ag,cg:=cg} (X.post X.S ⟨p,s,f,r⟩ G)):=P3.out.shot pz Hl (by rw[List.length_map];exact Hg) HM.out
 have Dy:w.heap.size+1<w3.heap.size:=by have:=rE.out.size;omega
 have Z4:w4.heap[w.heap.size+1]?=_:=(Hl.block _ Dy (fun e=>by have e:w.heap.size+1=D.bs:=e;omega)).trans Z3.out;have Ck:w.heap.size+1<w4.heap.size:=kO Dy Hl.size;obtain⟨⟨z0,z1,z2,z3,z4,z5⟩,zf⟩:=zE Z4;have B4:U (But (fun x=>x=b\/x=D.bs) w w4):=((((But.yhJ HB.out).trans B2.out (fun _ _ h=> .inl h)).trans (But.yhJ (F:=fun _=>False) rE.out) (fun _ _ h=>h.elim)).trans Hl (fun _ _ h=> .inr h))
 have FIN:U (∀Wf,But (fun x=>x=w.heap.size+1) w4 Wf->Dsk Wf b {D with ag:=ag,cg:=cg} (X.post X.S ⟨p,s,f,r⟩ G)/\But (fun x=>x=b\/x=D.bs) w Wf):=fun Wf hb=>by
  refine⟨P4.out.keep hb (fun x hx e=> ?_),B4.out.trans hb (fun x hx e=>by omega)⟩;have:=LT2.out x hx;omega
 clear pz Hl Z4 P4 B4 oL P3 rE Z3 B2
 go_wp2
 refine un (v:=(Pg.Ev.code 0).val) ?_ rfl ⟨rfl,FIN.out _ ?_⟩
 ·simp[results,Tryz.results90,go_sem,z0,z1,z2,z3,z4,z5,Ck,Pg.Ev.val,Pg.Ev.code]
 ·exact ybL _ _ _ _ _ _ _ _
theorem ybl {b:Nat} {D:Dsd} {X:Pg.Spc} (x:Pg.Sx) (hz:X.busy=yV) (w:uc) (h:Dsk w b D X):
 yY M 52 #[uv (Z ⟨b,0,Q⟩),x.val] w fun e w'=>e=ur (Pg.Ev.code 8).val/\Lw w w':=by
 obtain⟨W,hW⟩:=eY (chW w x)
 have CW:U (ChW w W x):=by rw[hW];exact xK w x
 have bO:=qg W (h.grow CW.out.bel);rw[hz]at bO;have rU:W.heap.size=w.heap.size+2:=CW.out.size;clear h hz;obtain⟨kd,co,⟨p,s,f,r⟩,q,k,u⟩:=x;simp only[chW,Pg.Sx.val]at hW ⊢
 go_enter Tryz.func52,Tryz.ntmps52
 go_upto_region 1 with fail
 rw[<-hW];clear hW
 go_wp2_with fail
 refine bO.mono ?_;rintro e w1 ⟨rfl,hw⟩;subst w1
 go_wp2_with fail
 refine(xz 8 _).mono ?_;rintro e w2 ⟨rfl,Hd⟩;obtain⟨⟨z0,z1,z2,z3,z4,z5⟩,zf⟩:=zE ((Hd.block _ (by omega)).trans CW.out.ev)
 have pJ:w.heap.size+1<w2.heap.size:=by have:=Hd.size;omega
 have Ht:U (Lw w w2):=zT CW.out.bel Hd;clear Hd;simp only[Pg.Ev.val,Pg.Ev.code]
 go_wp2
 refine un (v:=(Pg.Ev.code 8).val) ?_ rfl ⟨rfl,?_⟩
 ·simp[results,Tryz.results52,go_sem,z0,z1,z2,z3,z4,z5,pJ,Pg.Ev.val,Pg.Ev.code]
 ·exact vn Ht.out _ (by omega) _ _ _ _ _ _
theorem ybW {b:Nat} {D:Dsd} {X:Pg.Spc} (x:Pg.Sx) (hk:x.kind=1) (hz:X.busy=A) (w:uc) (h:Dsk w b D X):
 yY M 52 #[uv (Z ⟨b,0,Q⟩),x.val] w fun e w'=>e=ur (Pg.Ev.val ⟨Pg.insC X.S 0 x.m,A,0,0,0,decide (Pg.insC X.S 0 x.m=0)⟩)/\zi w b D X {X with S:=Pg.insS X.S 0 x.m} w':=by
 obtain⟨W,hW⟩:=eY (chW w x)
 have CW:U (ChW w W x):=by rw[hW];exact xK w x
 have PW:=h.grow CW.out.bel;have bO:=qg W PW;rw[hz]at bO;have HI:=ybZ x.m W PW;have rU:W.heap.size=w.heap.size+2:=CW.out.size;have LT:U (∀x,dsF D b X.C.length X.G x->x<w.heap.size):=h.owns;have x0:=CW.out.x0;have x2:=CW.out.x2;have x3:=CW.out.x3;have x4:=CW.out.x4;have x5:=CW.out.x5;clear h hz PW;obtain⟨kd,co,⟨p,s,f,r⟩,q,k,u⟩:=x;simp only at hk x0 x2 x3 x4 x5;subst hk;generalize Pg.insC X.S 0 _=c at*;generalize Pg.insS X.S 0 _=S' at*;generalize decide (c=0)=z at*;simp only[chW,Pg.Sx.val,Pg.Mp.val]at hW HI ⊢
 go_enter Tryz.func52,Tryz.ntmps52
 go_upto_region 1 with fail
 rw[<-hW];clear hW
 go_wp2_with fail
 refine bO.mono ?_;rintro e w1 ⟨rfl,hw⟩;subst w1
 go_wp2_with fail
 refine HI.mono ?_;rintro e w2 ⟨rfl,d2⟩;have D2:U _:=d2;obtain⟨e2,rX⟩:=d2.block (w:=w) (r:=w.heap.size+1) LT.out (by omega) (by omega);obtain⟨⟨z0,z1,z2,z3,z4,z5⟩,zf⟩:=zE (e2.trans CW.out.ev);have FIN:U (∀Wf,But (fun x=>x=w.heap.size+1) w2 Wf->zi w b D X {X with S:=S'} Wf):=fun Wf hb=>D2.out.behind CW.out.bel LT.out (fun x e=>by omega) hb;clear d2 D2 e2 x0 x2 x3 x4 x5 HI bO CW;simp only[Pg.Ev.val]
 go_wp2
 refine un (v:=Pg.Ev.val ⟨c,A,0,0,0,z⟩) ?_ rfl ⟨rfl,FIN.out _ ?_⟩
 ·simp[results,Tryz.results52,go_sem,z0,z1,z2,z3,z4,z5,rX,Pg.Ev.val]
 ·exact ybL _ _ _ _ _ _ _ _
structure ChD (w Wa:uc) (b mb:Nat) (D:Dsd) (X:Pg.Spc) (S':Pg.Fs) (FM:Nat->Prop) (m:Pg.Mp) (ad:Option Addr) (G:List Int):Prop where
 ds:Dsk Wa b {D with FM:=FM} {X with S:=S'}
 but:But (dsF D b X.C.length X.G) w Wa
 own:∀x,FM x->D.FM x\/w.heap.size+1<x
 ev:Wa.heap[w.heap.size+1]?=Z (kh #[J I 0,kp A,J I 0,J I 0,J I 0,kp A] 36 (0,0))
 m0:Wa.cell? ⟨mb,0,Q⟩=Z (J I m.p)
 m1:Wa.cell? ⟨mb,1,Q⟩=Z (J I m.s)
 m2:Wa.cell? ⟨mb,2,Q⟩=Z (J I m.f)
 m3:Wa.cell? ⟨mb,3,Q⟩=Z (J I m.r)
 gone:zq Wa ad G
 ng:∀g,ad=Z ⟨g,0,Q⟩->¬dsF {D with FM:=FM} b X.C.length [] g/\w.heap.size+1<g
 lt:∀x,dsF D b X.C.length X.G x->x<w.heap.size
section
variable {w W V w4 Wa w6:uc} {b mb:Nat} {D:Dsd} {X:Pg.Spc} {S':Pg.Fs} {FM:Nat->Prop} {m:Pg.Mp} {ad:Option Addr} {G:List Int} {x:Pg.Sx}
theorem ChD.size (h:ChD w Wa b mb D X S' FM m ad G):w.heap.size+1<Wa.heap.size:=(ki.1 h.ev).1
theorem ygM (hD:Dsk w b D X) {g:Nat} (hg:w.heap.size<=g) (hf:¬FM g):¬dsF {D with FM:=FM} b X.C.length [] g:=by
 rintro ⟨i,hx⟩
 match i with
 | 0=>have:=hD.lt (i:=0) hx;omega
 | 1=>exact hf hx
 | 2=>have:=hD.lt (i:=2) hx;omega
 | 3=>have:=hD.lt (i:=3) hx;omega
 | 4=>exact absurd rfl hx.1
 | k+5=>have:=hD.lt (i:=k+5) hx;omega
theorem ChD.made (hD:Dsk w b D X) (hB:Lw w W) (Tv:W.heap[w.heap.size+1]?=Z (kh #[J I 0,kp A,J I 0,J I 0,J I 0,kp A] 36 (0,0)))
 (hV:Lw W V) (hm:zh w4 D.bm S' FM) (hb:But D.FM V w4) (hF:∀x,FM x->D.FM x\/V.heap.size<=x) (hG:zq w4 ad G) (hn:∀g,ad=Z ⟨g,0,Q⟩->V.heap.size<=g/\¬FM g)
 {Y:Nat->Prop} (hW:But Y w4 Wa) (hY:∀j,Y j->W.heap.size<=j/\j<V.heap.size)
 (m0:Wa.cell? ⟨mb,0,Q⟩=Z (J I m.p)) (m1:Wa.cell? ⟨mb,1,Q⟩=Z (J I m.s)) (m2:Wa.cell? ⟨mb,2,Q⟩=Z (J I m.f)) (m3:Wa.cell? ⟨mb,3,Q⟩=Z (J I m.r)):
 ChD w Wa b mb D X S' FM m ad G:=by
 have KG:=(ki.1 Tv).1;have sV:=hV.size;have s4:=hb.size;have DV:=(hD.grow hB).grow hV;have lt:=hD.owns;have P4:=DV.frames hm hb hF;refine⟨P4.keep hW (fun x hx hy=> ?_),((But.yhJ (zT hB hV)).trans hb (fun x _ h=>⟨1,h⟩)).trans hW (fun x hx hy=>by have:=hY x hy;have:=hB.size;omega),fun x hx=>(hF x hx).imp id (fun h=>by omega),?_,m0,m1,m2,m3,hG.but hW (fun g e hy=>by have:=hY g hy;have:=(hn g e).1;omega),fun g e=>⟨ygM hD (by have:=(hn g e).1;have:=hB.size;omega) (hn g e).2,by have:=(hn g e).1;omega⟩,lt⟩
 ·have:=hY x hy
  have:=hB.size;rcases qy (D:=D) (N:=V.heap.size) hF x hx with h|h
  ·have:=lt x h
   omega
  ·omega
 ·refine(hW.block _ (by omega) (fun hy=>by have:=hY _ hy;omega)).trans ((hb.block _ (by omega) (fun hy=> ?_)).trans ((hV.block _ KG).trans Tv))
  have:=lt _ ⟨1,hy⟩;omega
theorem ChD.told {cg:Nat} (h:ChD w Wa b mb D X S' FM m ad G) (h6:Dsk w6 b {D with FM:=FM,ag:=ad,cg:=cg} (X.post S' m G)) (hb:But (fun x=>x=b\/x=D.bs) Wa w6):
 (∀Wf,But (fun x=>x=w.heap.size+1) w6 Wf->zi w b D X (X.post S' m G) Wf)/\w6.heap[w.heap.size+1]?=Z (kh #[J I 0,kp A,J I 0,J I 0,J I 0,kp A] 36 (0,0)):=by
 have l0:=h.lt b ⟨0,rfl⟩;have l3:=h.lt D.bs ⟨3,rfl⟩
 have own:∀x,dsF {D with FM:=FM,ag:=ad,cg:=cg} b X.C.length G x->dsF D b X.C.length X.G x\/w.heap.size+1<x:=by
  rintro x ⟨i,hx⟩
  match i with
  | 0=>exact .inl ⟨0,hx⟩
  | 1=>exact(h.own x hx).imp (fun h=>⟨1,h⟩) id
  | 2=>exact .inl ⟨2,hx⟩
  | 3=>exact .inl ⟨3,hx⟩
  | 4=>exact .inr (h.ng x hx.2).2
  | k+5=>exact .inl ⟨k+5,hx⟩
 refine⟨fun Wf hf=>⟨_,h6.keep hf (fun x hx e=> ?_),(h.but.trans hb (fun x _ e=>e.elim (fun e=>⟨0,e⟩) (fun e=>⟨3,e⟩))).trans hf (fun x hx e=>by omega),fun x hx=>(own x hx).imp id (fun h=>by omega)⟩,(hb.block _ h.size (fun e=>by omega)).trans h.ev⟩;rcases own x hx with h'|h'
 ·have:=h.lt x h'
  omega
 ·omega
end
theorem yaK {w3 w4:uc} {F:Nat->Prop} {ob:Obj} (hb:But F (w3.alloc ob).drew w4) (hn:¬F w3.heap.size):w4.heap[w3.heap.size]?=(w3.alloc ob).heap[w3.heap.size]?:=hb.block w3.heap.size (by simp) hn
theorem zo {w3 V w4:uc} {F:Nat->Prop} {a:Addr} {v:yG} (hb:But F V w4) (hV:Lw w3 V) (hl:a.block<w3.heap.size) (hn:¬F a.block) (h:w3.cell? a=Z v):w4.cell? a=Z v:=(hb.cell (kO hl hV.size) hn).trans ((hV.cell hl).trans h)
theorem yg1 (w:uc) (r:Nat) (x0 x1 x2 x3:yG):But (fun x=>x=r) w ((((w.setCell ⟨r,0,Q⟩ x0).setCell ⟨r,1,Q⟩ x1).setCell ⟨r,2,Q⟩ x2).setCell ⟨r,3,Q⟩ x3):=(But.refl (fun x=>x=r) w).set4 r (.inr rfl) _ _ _ _
theorem yao {b:Nat} {D:Dsd} {X X':Pg.Spc} (x:Pg.Sx) (hk:x.kind=2) (hz:X.busy=A) (w:uc) (h:Dsk w b D X) (h1:Pg.tFC X.S 0 x.m.p=0->X'=X.post (Pg.rmR X.S 0 x.m.p).1 (Pg.tFM X.S 0 x.m.p) (Pg.rmR X.S 0 x.m.p).2) (h2:Pg.tFC X.S 0 x.m.p≠0->X'=X):
 yY M 52 #[uv (Z ⟨b,0,Q⟩),x.val] w fun e w'=>e=ur (Pg.Ev.code (Pg.tFC X.S 0 x.m.p)).val/\zi w b D X X' w':=by
 obtain⟨kd,co,⟨p,s,f,r⟩,q,k,u⟩:=x;simp only at hk h1 h2;subst hk;obtain⟨W,hW⟩:=eY (chW w ⟨2,co,⟨p,s,f,r⟩,q,k,u⟩)
 have CW:U (ChW w W ⟨2,co,⟨p,s,f,r⟩,q,k,u⟩):=by rw[hW];exact xK w _
 have PW:U _:=h.grow CW.out.bel;have bO:=qg W PW.out;rw[hz]at bO;have LT:U (∀x,dsF D b X.C.length X.G x->x<w.heap.size):=h.owns;have rU:W.heap.size=w.heap.size+2:=CW.out.size
 have mV:w.heap.size<W.heap.size:=by omega
 have x0:=CW.out.x0;have y2:=CW.out.x2;have g0:=PW.out.c0;have g1:=PW.out.c1;simp only at x0 y2;have HI:=fun w3 (hm:zh w3 D.bm X.S D.FM)=>ydc 0 p w3 hm;have Pb:U (Pg.fits (Pg.tFM X.S 0 p).p):=Pg.ykS X.S p;have OP:U ((Pg.rmR X.S 0 p).2.length<=4680):=ye7 X.S 0 p
 have mD:U (Pg.tFC X.S 0 p≠0->(Pg.rmR X.S 0 p).1=X.S):=fun e=>by unfold Pg.rmR;rw[iN e]
 have H1:U _:=h1;have H2:U _:=h2;have HZ:U (X.busy=A):=hz;have HX:U _:=h;clear h hz h1 h2;simp only[chW,Pg.Sx.val]at hW ⊢;generalize rT:Pg.tFC X.S 0 p=c at*;clear rT;generalize Pg.tFM X.S 0 p=m at*;obtain⟨S',Rf⟩:∃S',S'=(Pg.rmR X.S 0 p).1:=⟨_,rfl⟩;obtain⟨G,L9⟩:∃G,G=(Pg.rmR X.S 0 p).2:=⟨_,rfl⟩;rw[<-Rf,<-L9]at HI H1;rw[<-Rf]at mD;rw[<-L9]at OP;clear Rf L9;obtain⟨mp,ms,fM,mr⟩:=m;have rY:b<w.heap.size:=LT.out b ⟨0,rfl⟩
 have ky:b<W.heap.size:=by omega
 have n1:b≠W.heap.size:=by omega
 have n2:w.heap.size≠W.heap.size:=by omega
 have n3:W.heap.size≠b:=by omega
 have n4:W.heap.size≠w.heap.size:=by omega
 have NF:∀j,w.heap.size<=j->¬D.FM j:=fun j hj e=>by have:=LT.out _ ⟨1,e⟩;omega
 have nb:¬D.FM b:=fun e=>by have:=HX.out.part 0 1 b rfl e;omega
 have LC:U (W.heap.size=w.heap.size+2):=rU;clear rU
 go_enter Tryz.func52,Tryz.ntmps52
 go_upto_region 1 with fail
 rw[<-hW];clear hW
 go_wp2_with fail
 refine bO.mono ?_;rintro e w1 ⟨rfl,hw⟩;subst w1
 go_upto_region 7 with fail
 clear x0 bO
 go_region_held3 (fun w'=>w'.cell? ⟨b,0,Q⟩=Z (uv (Z ⟨D.bm,0,Q⟩))/\w'.cell? ⟨b,1,Q⟩=Z (J I 0)/\w'.cell? ⟨w.heap.size,2,Q⟩=Z (J I p)) (go_keep) (
  (go_at_call 89;refine(HI _ (PW.out.grow (by first|exact(zA (zR W) _).drew|exact zA (zR W) _|exact(zR W).drew|exact zR W)).mem).mono ?_;rintro en w4 Na
   obtain⟨ad,cap,FM,rfl,Tg,gD,Hl,fP,lT⟩:=Na.body;simp only[Pg.Mp.val];have CO:U (zq w4 ad G):=Tg;have bP:U _:=gD;have rR:U _:=Hl;have sU:U _:=fP;have CV:U _:=lT;have u0:=zo Hl (by first|exact(zA (zR W) _).drew|exact zA (zR W) _|exact(zR W).drew|exact zR W) ky nb g0;have u1:=zo Hl (by first|exact(zA (zR W) _).drew|exact zA (zR W) _|exact(zR W).drew|exact zR W) ky nb g1;have u2:=zo Hl (by first|exact(zA (zR W) _).drew|exact zA (zR W) _|exact(zR W).drew|exact zR W) mV (NF _ (yT _)) y2;have s4:W.heap.size<=w4.heap.size:=yO (by first|exact yT _|simp) Hl.size
   have TL:b<w4.heap.size:=by omega
   have Cm:w.heap.size<w4.heap.size:=by omega
   have ub:b≠w4.heap.size:=by omega
   have ux:w.heap.size≠w4.heap.size:=by omega
   have eF:w4.heap.size≠b:=by omega
   have RN:w4.heap.size≠w.heap.size:=by omega
   first
    | (have hA:But D.FM W.drew w4:=Hl;clear hA)
    | (have tN:w4.heap[W.heap.size]?=Z (kh #[J I 0,J I 0,J I 0,J I 0] 39 (0,0)):=(yaK Hl (NF _ (by omega))).trans (yI W (kh #[J I 0,J I 0,J I 0,J I 0] 39))
       have pz:W.heap.size<w4.heap.size:=(ki.1 tN).1
       obtain⟨⟨a0,a1,a2,a3⟩,af⟩:=ygy tN)
   clear Na Tg gD Hl fP lT))
 focus
  obtain⟨Wa,rM⟩:=eY (w4.alloc (kh #[J I mp,J I ms,J I fM,J I mr] 39));rw[<-rM];have C:U (ChD w Wa b w4.heap.size D X S' FM ⟨mp,ms,fM,mr⟩ ad G):=ChD.made (Y:=fun _=>False) HX.out CW.out.bel CW.out.ev (xH W) bP.out rR.out sU.out CO.out CV.out (by rw[rM];exact But.yhJ (zA (zR w4) _)) (fun _ h=>h.elim) (by rw[rM];simp[go_sem]) (by rw[rM];simp[go_sem]) (by rw[rM];simp[go_sem]) (by rw[rM];simp[go_sem]);clear rM bP rR sU CO CV u0 u1 u2 TL Cm ub ux eF RN s4;generalize w4.heap.size=mb at*
 rotate_left
 focus
  obtain⟨Wa,rM⟩:=eY ((((w4.setCell ⟨W.heap.size,0,Q⟩ (J I mp)).setCell ⟨W.heap.size,1,Q⟩ (J I ms)).setCell ⟨W.heap.size,2,Q⟩ (J I fM)).setCell ⟨W.heap.size,3,Q⟩ (J I mr));rw[<-rM];have C:U (ChD w Wa b W.heap.size D X S' FM ⟨mp,ms,fM,mr⟩ ad G):=ChD.made (Y:=fun j=>j=W.heap.size) HX.out CW.out.bel CW.out.ev ((zA (zR W) (kh #[J I 0,J I 0,J I 0,J I 0] 39)).drew) bP.out rR.out sU.out CO.out CV.out (by rw[rM];exact yg1 _ _ _ _ _ _) (fun j h=>⟨by omega,by simp;omega⟩) (by rw[rM];simp[go_sem,a0,a1,a2,a3]) (by rw[rM];simp[go_sem,a0,a1,a2,a3]) (by rw[rM];simp[go_sem,a0,a1,a2,a3]) (by rw[rM];simp[go_sem,a0,a1,a2,a3]);clear rM bP rR sU CO CV u0 u1 u2 TL Cm ub ux eF RN s4 a0 a1 a2 a3 af pz tN;generalize W.heap.size=mb at*
 rotate_left
 all_goals
  clear HI g0 g1 y2 n1 n2 n3 n4 nb NF ky mV CW PW HX rY;have m0:=C.out.m0;have m1:=C.out.m1;have m2:=C.out.m2;have m3:=C.out.m3;have bU:=C.out.size;simp only at m0 m1 m2 m3
  by_cases hc:c=0
  ·subst hc
   have uV:U _:=H1.out rfl;have fe:=yaR (X:={X with S:=S'}) ⟨mp,ms,fM,mr⟩ Pb.out HZ.out ad cap G Wa C.out.ds C.out.gone (fun g e=>(C.out.ng g e).1) OP.out;simp only[Pg.Mp.val]at fe
   go_wp2_with fail
   refine fe.mono ?_;rintro e w6 ⟨rfl,h6,ru⟩;obtain⟨fin,uW⟩:=C.out.told h6 ru
   have FIN:U (∀Wf,But (fun x=>x=w.heap.size+1) w6 Wf->zi w b D X X' Wf):=fun Wf hf=>by rw[uV.out];exact fin Wf hf
   obtain⟨⟨z0,z1,z2,z3,z4,z5⟩,zf⟩:=zE uW;have RI:w.heap.size+1<w6.heap.size:=(ki.1 uW).1;clear h6 ru fin uW fe C m0 m1 m2 m3 H1 H2 uV;simp only[Pg.Ev.val,Pg.Ev.code]
   go_wp2
   refine un (v:=(Pg.Ev.code 0).val) ?_ rfl ⟨rfl,FIN.out _ ?_⟩
   ·simp[results,Tryz.results52,go_sem,z0,z1,z2,z3,z4,z5,RI,Pg.Ev.val,Pg.Ev.code]
   ·exact ybL _ _ _ _ _ _ _ _
  ·have uV:U _:=H2.out hc
   have HS:U _:=mD.out hc;have fe:=vI ⟨mp,ms,fM,mr⟩ c hc ad G.length cap Wa C.out.ds;simp only[Pg.Mp.val]at fe
   go_wp2_with fail
   refine fe.mono ?_;rintro e w6 ⟨rfl,ru⟩;have uW:=(ru.block _ bU).trans C.out.ev
   have FIN:U (∀Wf,But (fun x=>x=w.heap.size+1) w6 Wf->zi w b D X X' Wf):=fun Wf hf=>by
    rw[uV.out];have P6:=C.out.ds.grow ru;rw[HS.out]at P6;have own:∀x,dsF {D with FM:=FM} b X.C.length X.G x->dsF D b X.C.length X.G x\/w.heap.size+2<=x:=qy (fun x hx=>(C.out.own x hx).imp id (fun h=>by omega));refine⟨_,P6.keep hf (fun x hx e=> ?_),(C.out.but.trans (But.yhJ (F:=fun _=>False) ru) (fun _ _ h=>h.elim)).trans hf (fun x hx e=>by omega),fun x hx=>(own x hx).imp id (fun h=>by omega)⟩;rcases own x hx with h|h
    ·have:=C.out.lt x h
     omega
    ·omega
   obtain⟨⟨z0,z1,z2,z3,z4,z5⟩,zf⟩:=zE uW;have RI:w.heap.size+1<w6.heap.size:=kO bU ru.size;clear ru uW fe C m0 m1 m2 m3 H1 H2 uV HS;simp only[Pg.Ev.val,Pg.Ev.code]
   go_wp2
   refine un (v:=(Pg.Ev.code c).val) ?_ rfl ⟨rfl,FIN.out _ ?_⟩
   ·simp[results,Tryz.results52,go_sem,z0,z1,z2,z3,z4,z5,RI,Pg.Ev.val,Pg.Ev.code]
   ·exact ybL _ _ _ _ _ _ _ _
theorem vo {b:Nat} {D:Dsd} {X X':Pg.Spc} (x:Pg.Sx) (hk:x.kind=3) (hz:X.busy=A) (w:uc) (h:Dsk w b D X) (h1:Pg.prC X.S 0 x.m.p x.m.r=0->X'=X.post (Pg.prS X.S 0 x.m.p x.m.r) (Pg.prM X.S 0 x.m.p x.m.r) []) (h2:Pg.prC X.S 0 x.m.p x.m.r≠0->X'=X):
 yY M 52 #[uv (Z ⟨b,0,Q⟩),x.val] w fun e w'=>e=ur (Pg.Ev.code (Pg.prC X.S 0 x.m.p x.m.r)).val/\zi w b D X X' w':=by
 obtain⟨kd,co,⟨p,s,f,r⟩,q,k,u⟩:=x;simp only at hk h1 h2;subst hk;obtain⟨W,hW⟩:=eY (chW w ⟨3,co,⟨p,s,f,r⟩,q,k,u⟩)
 have CW:U (ChW w W ⟨3,co,⟨p,s,f,r⟩,q,k,u⟩):=by rw[hW];exact xK w _
 have PW:U _:=h.grow CW.out.bel;have bO:=qg W PW.out;rw[hz]at bO;have LT:U (∀x,dsF D b X.C.length X.G x->x<w.heap.size):=h.owns;have rU:W.heap.size=w.heap.size+2:=CW.out.size
 have mV:w.heap.size<W.heap.size:=by omega
 have x0:=CW.out.x0;have y2:=CW.out.x2;have y5:=CW.out.x5;have g0:=PW.out.c0;have g1:=PW.out.c1;simp only at x0 y2 y5;have HI:=fun w3 (hm:zh w3 D.bm X.S D.FM)=>yco 0 p r w3 hm;have Pb:U (Pg.fits (Pg.prM X.S 0 p r).p):=Pg.ylO X.S p r
 have mD:U (Pg.prC X.S 0 p r≠0->Pg.prS X.S 0 p r=X.S):=fun e=>by unfold Pg.prS;rw[iN e]
 have H1:U _:=h1;have H2:U _:=h2;have HZ:U (X.busy=A):=hz;have HX:U _:=h;clear h hz h1 h2;simp only[chW,Pg.Sx.val]at hW ⊢;generalize rT:Pg.prC X.S 0 p r=c at*;clear rT;generalize Pg.prM X.S 0 p r=m at*;generalize Pg.prS X.S 0 p r=S' at*;obtain⟨mp,ms,fM,mr⟩:=m;have rY:b<w.heap.size:=LT.out b ⟨0,rfl⟩
 have ky:b<W.heap.size:=by omega
 have n1:b≠W.heap.size:=by omega
 have n2:w.heap.size≠W.heap.size:=by omega
 have n3:W.heap.size≠b:=by omega
 have n4:W.heap.size≠w.heap.size:=by omega
 have NF:∀j,w.heap.size<=j->¬D.FM j:=fun j hj e=>by have:=LT.out _ ⟨1,e⟩;omega
 have nb:¬D.FM b:=fun e=>by have:=HX.out.part 0 1 b rfl e;omega
 have LC:U (W.heap.size=w.heap.size+2):=rU;clear rU
 go_enter Tryz.func52,Tryz.ntmps52
 go_upto_region 1 with fail
 rw[<-hW];clear hW
 go_wp2_with fail
 refine bO.mono ?_;rintro e w1 ⟨rfl,hw⟩;subst w1
 go_upto_region 9 with fail
 clear x0 bO
 go_region_held3 (fun w'=>w'.cell? ⟨b,0,Q⟩=Z (uv (Z ⟨D.bm,0,Q⟩))/\w'.cell? ⟨b,1,Q⟩=Z (J I 0)/\w'.cell? ⟨w.heap.size,2,Q⟩=Z (J I p)/\w'.cell? ⟨w.heap.size,5,Q⟩=Z (J I r)) (go_keep) (
  (go_at_call 91;refine(HI _ (PW.out.grow (by first|exact(zA (zR W) _).drew|exact zA (zR W) _|exact(zR W).drew|exact zR W)).mem).mono ?_;rintro en w4 ⟨rfl,FM,gD,Hl,fP⟩
   simp only[Pg.Mp.val];have bP:U _:=gD;have rR:U _:=Hl;have sU:U _:=fP;have u0:=zo Hl (by first|exact(zA (zR W) _).drew|exact zA (zR W) _|exact(zR W).drew|exact zR W) ky nb g0;have u1:=zo Hl (by first|exact(zA (zR W) _).drew|exact zA (zR W) _|exact(zR W).drew|exact zR W) ky nb g1;have u2:=zo Hl (by first|exact(zA (zR W) _).drew|exact zA (zR W) _|exact(zR W).drew|exact zR W) mV (NF _ (yT _)) y2;have u5:=zo Hl (by first|exact(zA (zR W) _).drew|exact zA (zR W) _|exact(zR W).drew|exact zR W) mV (NF _ (yT _)) y5;have s4:W.heap.size<=w4.heap.size:=yO (by first|exact yT _|simp) Hl.size
   have TL:b<w4.heap.size:=by omega
   have Cm:w.heap.size<w4.heap.size:=by omega
   have ub:b≠w4.heap.size:=by omega
   have ux:w.heap.size≠w4.heap.size:=by omega
   have eF:w4.heap.size≠b:=by omega
   have RN:w4.heap.size≠w.heap.size:=by omega
   first
    | (have hA:But D.FM W.drew w4:=Hl;clear hA)
    | (have tN:w4.heap[W.heap.size]?=Z (kh #[J I 0,J I 0,J I 0,J I 0] 39 (0,0)):=(yaK Hl (NF _ (by omega))).trans (yI W (kh #[J I 0,J I 0,J I 0,J I 0] 39))
       have pz:W.heap.size<w4.heap.size:=(ki.1 tN).1
       obtain⟨⟨a0,a1,a2,a3⟩,af⟩:=ygy tN)
   clear gD Hl fP))
 focus
  obtain⟨Wa,rM⟩:=eY (w4.alloc (kh #[J I mp,J I ms,J I fM,J I mr] 39));rw[<-rM];have C:U (ChD w Wa b w4.heap.size D X S' FM ⟨mp,ms,fM,mr⟩ Q []):=ChD.made (Y:=fun _=>False) HX.out CW.out.bel CW.out.ev (xH W) bP.out rR.out sU.out (fun j hj=>by simp at hj) (fun g e=>by cases e) (by rw[rM];exact But.yhJ (zA (zR w4) _)) (fun _ h=>h.elim) (by rw[rM];simp[go_sem]) (by rw[rM];simp[go_sem]) (by rw[rM];simp[go_sem]) (by rw[rM];simp[go_sem]);clear rM bP rR sU u0 u1 u2 u5 TL Cm ub ux eF RN s4;generalize w4.heap.size=mb at*
 rotate_left
 focus
  obtain⟨Wa,rM⟩:=eY ((((w4.setCell ⟨W.heap.size,0,Q⟩ (J I mp)).setCell ⟨W.heap.size,1,Q⟩ (J I ms)).setCell ⟨W.heap.size,2,Q⟩ (J I fM)).setCell ⟨W.heap.size,3,Q⟩ (J I mr));rw[<-rM];have C:U (ChD w Wa b W.heap.size D X S' FM ⟨mp,ms,fM,mr⟩ Q []):=ChD.made (Y:=fun j=>j=W.heap.size) HX.out CW.out.bel CW.out.ev ((zA (zR W) (kh #[J I 0,J I 0,J I 0,J I 0] 39)).drew) bP.out rR.out sU.out (fun j hj=>by simp at hj) (fun g e=>by cases e) (by rw[rM];exact yg1 _ _ _ _ _ _) (fun j h=>⟨by omega,by simp;omega⟩) (by rw[rM];simp[go_sem,a0,a1,a2,a3]) (by rw[rM];simp[go_sem,a0,a1,a2,a3]) (by rw[rM];simp[go_sem,a0,a1,a2,a3]) (by rw[rM];simp[go_sem,a0,a1,a2,a3]);clear rM bP rR sU u0 u1 u2 u5 TL Cm ub ux eF RN s4 a0 a1 a2 a3 af pz tN;generalize W.heap.size=mb at*
 rotate_left
 all_goals
  clear HI g0 g1 y2 y5 n1 n2 n3 n4 nb NF ky mV CW PW HX rY;have m0:=C.out.m0;have m1:=C.out.m1;have m2:=C.out.m2;have m3:=C.out.m3;have bU:=C.out.size;simp only at m0 m1 m2 m3
  by_cases hc:c=0
  ·subst hc
   have uV:U _:=H1.out rfl;have fe:=yaR (X:={X with S:=S'}) ⟨mp,ms,fM,mr⟩ Pb.out HZ.out Q 0 [] Wa C.out.ds C.out.gone (fun g e=>(C.out.ng g e).1) (by simp);simp only[Pg.Mp.val,List.length_nil]at fe
   go_wp2_with fail
   refine fe.mono ?_;rintro e w6 ⟨rfl,h6,ru⟩;obtain⟨fin,uW⟩:=C.out.told h6 ru
   have FIN:U (∀Wf,But (fun x=>x=w.heap.size+1) w6 Wf->zi w b D X X' Wf):=fun Wf hf=>by rw[uV.out];exact fin Wf hf
   obtain⟨⟨z0,z1,z2,z3,z4,z5⟩,zf⟩:=zE uW;have RI:w.heap.size+1<w6.heap.size:=(ki.1 uW).1;clear h6 ru fin uW fe C m0 m1 m2 m3 H1 H2 uV;simp only[Pg.Ev.val,Pg.Ev.code]
   go_wp2
   refine un (v:=(Pg.Ev.code 0).val) ?_ rfl ⟨rfl,FIN.out _ ?_⟩
   ·simp[results,Tryz.results52,go_sem,z0,z1,z2,z3,z4,z5,RI,Pg.Ev.val,Pg.Ev.code]
   ·exact ybL _ _ _ _ _ _ _ _
  ·have uV:U _:=H2.out hc
   have HS:U _:=mD.out hc;have fe:=vI ⟨mp,ms,fM,mr⟩ c hc Q 0 0 Wa C.out.ds;simp only[Pg.Mp.val]at fe
   go_wp2_with fail
   refine fe.mono ?_;rintro e w6 ⟨rfl,ru⟩;have uW:=(ru.block _ bU).trans C.out.ev
   have FIN:U (∀Wf,But (fun x=>x=w.heap.size+1) w6 Wf->zi w b D X X' Wf):=fun Wf hf=>by
    rw[uV.out];have P6:=C.out.ds.grow ru;rw[HS.out]at P6;have own:∀x,dsF {D with FM:=FM} b X.C.length X.G x->dsF D b X.C.length X.G x\/w.heap.size+2<=x:=qy (fun x hx=>(C.out.own x hx).imp id (fun h=>by omega));refine⟨_,P6.keep hf (fun x hx e=> ?_),(C.out.but.trans (But.yhJ (F:=fun _=>False) ru) (fun _ _ h=>h.elim)).trans hf (fun x hx e=>by omega),fun x hx=>(own x hx).imp id (fun h=>by omega)⟩;rcases own x hx with h|h
    ·have:=C.out.lt x h
     omega
    ·omega
   obtain⟨⟨z0,z1,z2,z3,z4,z5⟩,zf⟩:=zE uW;have RI:w.heap.size+1<w6.heap.size:=kO bU ru.size;clear ru uW fe C m0 m1 m2 m3 H1 H2 uV HS;simp only[Pg.Ev.val,Pg.Ev.code]
   go_wp2
   refine un (v:=(Pg.Ev.code c).val) ?_ rfl ⟨rfl,FIN.out _ ?_⟩
   ·simp[results,Tryz.results52,go_sem,z0,z1,z2,z3,z4,z5,RI,Pg.Ev.val,Pg.Ev.code]
   ·exact ybL _ _ _ _ _ _ _ _
section
variable {b:Nat} {root:Int} {C:Pg.Cr} {F:Nat->Prop}
theorem ydy {bf:Nat} {S:Pg.Fs} {Ff:Nat->Prop} (w:uc) (h:qq w b root C F) (hf:zh w bf S Ff) (Ho:∀j,F j->¬Ff j):
 yY M 94 #[uv (Z ⟨b,0,Q⟩),uv (Z ⟨bf,0,Q⟩)] w fun e w'=>e=ur (C.stT S root).val/\∃F' Ff',qq w' b root (C.stN S root) F'/\zh w' bf (C.stS S root) Ff'/\But (fun j=>F j\/Ff j) w w'/\(∀j,F' j->F j\/w.heap.size<=j)/\(∀j,Ff' j->Ff j\/w.heap.size<=j)/\∀j,F' j->¬Ff' j:=by
 obtain⟨bt,bk,Ft,h,rfl⟩:=h;obtain⟨W,hW⟩:=eY (w.alloc (kh #[J I 0,J I 0,J I 0] 34))
 have hB:Lw w W:=by rw[hW];exact zA (zR _) _
 have R3:U (W.heap[w.heap.size]?=Z (kh #[J I 0,J I 0,J I 0] 34 (0,0))):=by rw[U,hW];exact yI _ _
 have rU:w.heap.size<W.heap.size:=by rw[hW];simp
 have hl:=h.lb;have HW:U _:=h.grow hB;have nO:U (zh W bf S Ff):=hf.keep (G:=fun _=>False) (But.yhJ hB) (fun _ _=>id);have HB:U _:=hB;have RY:U _:=Ho;have gK:U (∀j,crF b bk Ft j->j<w.heap.size):=fun j hj=>h.lt hj;have WL:U (¬(w.heap.size=bk\/Ff w.heap.size)):=fun e=>e.elim (fun e=>by have:=h.wk.lb;omega) (fun e=>by have:=hf.lt e;omega);have HS:=ye0 h.ok W HW.out.wk nO.out (Ho bk (.inr (.inl rfl)));have lK:U _:=Pg.ykW hf.ok h.ok root;have ib:U _:=Pg.ylq C.K (Pg.kOut S root C.K);have c1:=h.c1;clear h hf hB Ho;simp only[Pg.Cr.stT,Pg.Cr.stN,Pg.Cr.stS,Pg.Wo.tl,Pg.Tl.val];generalize Pg.kOut S root C.K=o at*;generalize o.res C.K=R at*;generalize o.next C.K=K' at*;generalize o.fs S C.K=S' at*;generalize o.cd=cd at*;obtain⟨en,ra,rf,rr,⟨mp,ms,mf,mr⟩,rd⟩:=R;simp only[Pg.Rs.val]at HS ib ⊢;have tO:¬(w.heap.size=bk\/Ff w.heap.size):=fun e=>WL.out e;cases kJ:(en&&ra==0)
 ·have eP:Pg.rPut C.L ⟨en,ra,rf,rr,⟨mp,ms,mf,mr⟩,rd⟩=C.L:=by unfold Pg.rPut;rw[iN (by simp only;rw[kJ];decide)]
  rw[eP];clear eP
  go_enter Tryz.func94,Tryz.ntmps94
  go_wp2_with fail
  rw[<-hW];clear hW;refine HS.mono ?_;rintro e w1 ⟨rfl,dL,oI,si,rO,tH⟩;have P1:U _:=HW.out.ymk dL lK.out rO.but RY.out;have Q1:U (zh w1 bf S' oI):=si;have B1:U (But (fun j=>crF b bk Ft j\/Ff j) w w1):=(But.yhJ HB.out).trans rO.but (fun _ _ h=>h.elim (fun e=> .inl (.inr (.inl e))) .inr);have F1:U (∀j,oI j->Ff j\/w.heap.size<j):=fun j hj=>(tH j hj).imp id (fun h=>by omega);have N1:U (∀j,crF b bk Ft j->¬oI j):=fun j hj hf=>(tH j hf).elim (RY.out j hj) (fun h=>by have:=HW.out.lt hj;omega);have R1:w1.heap[w.heap.size]?=Z (kh #[J I 0,J I 0,J I 0] 34 (0,0)):=(rO.but.block _ rU tO).trans R3.out;have sO:w.heap.size<w1.heap.size:=kO rU rO.but.size;obtain⟨⟨z0,z1,z2⟩,zf⟩:=ybz R1
  have fin:U (∀Wf,But (fun j=>j=w.heap.size) w1 Wf->∃F' Ff',qq Wf b root ⟨C.L,K'⟩ F'/\zh Wf bf S' Ff'/\But (fun j=>crF b bk Ft j\/Ff j) w Wf/\(∀j,F' j->crF b bk Ft j\/w.heap.size<=j)/\(∀j,Ff' j->Ff j\/w.heap.size<=j)/\∀j,F' j->¬Ff' j):=fun Wf hb=>
   ⟨_,oI,⟨_,_,_,P1.out.keep hb fun k hk e=>by have:=gK.out k hk;omega,rfl⟩,Q1.out.keep hb fun k hk e=>(F1.out k hk).elim (fun h=>tO (.inr (e▸h))) (fun h=>by omega),B1.out.trans hb (fun i hi e=>by omega),fun j hj=> .inl hj,fun j hj=>(F1.out j hj).imp id (fun h=>by omega),N1.out⟩
  clear dL si rO tH HS HW nO R1 R3 HB RY c1 P1 Q1 B1 F1 N1
  have Um:w.heap.size≠w1.heap.size:=by omega
  cases en
  ·go_wp2_with fail
   go_region
   go_wp2
   refine un (v:=yN #[yB #[J I ra,J I rf,J I rr],kp A,J I cd]) ?_ rfl ⟨rfl,fin.out _ (((qP (But.refl (fun j=>j=w.heap.size) w1) _ (.inr rfl) _ _ _).alloc _).drew)⟩;simp[results,Tryz.results94,go_sem,z0,z1,z2,sO]
  ·simp only[Bool.true_and]at kJ
   go_wp2_with fail
   go_region
   go_wp2
   refine un (v:=yN #[yB #[J I ra,J I rf,J I rr],kp yV,J I cd]) ?_ rfl ⟨rfl,fin.out _ (((qP (But.refl (fun j=>j=w.heap.size) w1) _ (.inr rfl) _ _ _).alloc _).drew)⟩;simp[results,Tryz.results94,go_sem,z0,z1,z2,sO]
 ·have eP:Pg.rPut C.L ⟨en,ra,rf,rr,⟨mp,ms,mf,mr⟩,rd⟩=Pg.kPut C.L ⟨⟨mp,ms,mf,mr⟩,rd⟩:=by unfold Pg.rPut;rw[iP kJ]
  rw[eP];simp only[Bool.and_eq_true,beq_iff_eq]at kJ;obtain⟨Df,BB⟩:=kJ;subst Df BB;have HP:=fun w' (ht:jM w' bt 0 C.L Ft)=>yfl ⟨⟨mp,ms,mf,mr⟩,rd⟩ ib.out w' ht;simp only[Pg.Ln.val]at HP;generalize Pg.kPut C.L ⟨⟨mp,ms,mf,mr⟩,rd⟩=L' at*;clear eP
  go_enter Tryz.func94,Tryz.ntmps94
  go_wp2_with fail
  rw[<-hW];clear hW;refine HS.mono ?_;rintro e w1 ⟨rfl,dL,oI,si,rO,tH⟩;obtain⟨W2,Hy⟩:=eY (w1.alloc (kh #[kp yV,J I 0,J I rf,J I rr,J I mp,J I ms,J I mf,J I mr,kp rd] 232))
  have Hd:Lw w1 W2:=by rw[Hy];exact zA (zR _) _
  have oD:w1.heap.size<W2.heap.size:=by rw[Hy];simp
  have X2:U (W2.heap[w1.heap.size]?=Z (kh #[kp yV,J I 0,J I rf,J I rr,J I mp,J I ms,J I mf,J I mr,kp rd] 232 (0,0))):=by rw[U,Hy];exact yI _ _
  have P1:U _:=(HW.out.ymk dL lK.out rO.but RY.out).grow Hd;have Q1:U (zh W2 bf S' oI):=si.keep (G:=fun _=>False) (But.yhJ Hd) (fun _ _=>id);have B1:U (But (fun j=>crF b bk Ft j\/Ff j) w W2):=((But.yhJ HB.out).trans rO.but (fun _ _ h=>h.elim (fun e=> .inl (.inr (.inl e))) .inr)).trans (But.yhJ (F:=fun _=>False) Hd) (fun _ _ h=>h.elim);have F1:U (∀j,oI j->Ff j\/w.heap.size<j):=fun j hj=>(tH j hj).imp id (fun h=>by omega);have N1:U (∀j,crF b bk Ft j->¬oI j):=fun j hj hf=>(tH j hf).elim (RY.out j hj) (fun h=>by have:=HW.out.lt hj;omega);have rG:W.heap.size<=w1.heap.size:=rO.but.size;have L1:U (∀j,oI j->j<w1.heap.size):=fun j hj=>si.lt hj;have R1:U (W2.heap[w.heap.size]?=Z (kh #[J I 0,J I 0,J I 0] 34 (0,0))):=(Hd.block _ (by omega)).trans ((rO.but.block _ rU tO).trans R3.out)
  have sO:w.heap.size<w1.heap.size:=by omega
  clear dL si rO tH HS HW nO R3 HB RY c1 Hd
  go_wp2_with fail
  rw[<-Hy];clear Hy;obtain⟨⟨x0,x1,x2,x3,x4,x5,x6,x7,x8⟩,xf⟩:=yck X2.out;have g0:=O P1.out.c0;have g4:=O x4;have g5:=O x5;have g6:=O x6;have g7:=O x7;have g8:=O x8;clear x0 x1 x2 x3 x4 x5 x6 x7 x8 xf;refine Loose.yhL 6 (by kernel_rfl) (by kernel_rfl) ?_;simp only[ua,yP,ue,yS]
  repeat (
   refine Loose.zS (fun k hk=> ?_)
   go_simp
   (refine hk _ ?_;clear hk k))
  refine Loose.yhM ?_;intro w3 He;have P3:U _:=P1.out.grow He;have Q3:U (zh w3 bf S' oI):=Q1.out.keep (G:=fun _=>False) (But.yhJ He) (fun _ _=>id);have B3:U (But (fun j=>crF b bk Ft j\/Ff j) w w3):=B1.out.trans (But.yhJ (F:=fun _=>False) He) (fun _ _ h=>h.elim);have X3:U (w3.heap[w1.heap.size]?=_):=(He.block _ oD).trans X2.out;have R3:U (w3.heap[w.heap.size]?=_):=(He.block _ (by omega)).trans R1.out;have dn:=He.size;clear He g0 g4 g5 g6 g7 g8 P1 Q1 B1 X2 R1
  go_wp2_with fail
  refine(HP _ P3.out.tb).mono ?_;rintro e w4 ⟨rfl,nN,ht,hc,hF⟩;have P4:U _:=P3.out.stepT ht hc.but hF;have Q4:U (zh w4 bf S' oI):=Q3.out.keep hc.but (fun k hk hf=>N1.out k (.inr (.inr hf)) hk);have B4:U (But (fun j=>crF b bk Ft j\/Ff j) w w4):=B3.out.trans hc.but (fun _ _ h=> .inl (.inr (.inr h)))
  have F4:U (∀k,crF b bk nN k->crF b bk Ft k\/w1.heap.size<k):=fun k hk=>by
   rcases hk with hk|hk|hk
   ·exact .inl (.inl hk)
   ·exact .inl (.inr (.inl hk))
   ·exact(hF k hk).imp (fun h=> .inr (.inr h)) (fun h=>by omega)
  have n1:¬Ft w1.heap.size:=fun hf=>by have:=gK.out _ (.inr (.inr hf));omega
  have n2:¬Ft w.heap.size:=fun hf=>by have:=gK.out _ (.inr (.inr hf));omega
  obtain⟨⟨z0,z1,z2⟩,zf⟩:=ybz ((hc.but.block _ (by omega) n2).trans R3.out);obtain⟨⟨x0,x1,x2,x3,x4,x5,x6,x7,x8⟩,xf⟩:=yck ((hc.but.block _ (by omega) n1).trans X3.out)
  have gH:w.heap.size<w4.heap.size:=by have:=hc.but.size;omega
  have hx4:w1.heap.size<w4.heap.size:=by have:=hc.but.size;omega
  have fin:U (∀Wf,But (fun j=>j=w.heap.size) w4 Wf->∃F' Ff',qq Wf b root ⟨L',K'⟩ F'/\zh Wf bf S' Ff'/\But (fun j=>crF b bk Ft j\/Ff j) w Wf/\(∀j,F' j->crF b bk Ft j\/w.heap.size<=j)/\(∀j,Ff' j->Ff j\/w.heap.size<=j)/\∀j,F' j->¬Ff' j):=fun Wf hb=>
   ⟨_,oI,⟨_,_,_,P4.out.keep hb fun k hk e=>(F4.out k hk).elim (fun h=>by have:=gK.out k h;omega) (fun h=>by omega),rfl⟩,Q4.out.keep hb fun k hk e=>(F1.out k hk).elim (fun h=>tO (.inr (e▸h))) (fun h=>by omega),B4.out.trans hb (fun i hi e=>by omega),fun j hj=>(F4.out j hj).imp id (fun h=>by omega),fun j hj=>(F1.out j hj).imp id (fun h=>by omega),fun j hj hf=>(F4.out j hj).elim (fun h=>N1.out j h hf) (fun h=>by have:=L1.out j hf;omega)⟩
  clear ht hc hF P3 Q3 B3 X3 R3 P4 Q4 B4 F1 N1 L1 F4 HP n1 n2
  have Um:w.heap.size≠w1.heap.size:=by omega
  go_wp2_with fail
  go_region
  go_wp2
  refine un (v:=yN #[yB #[J I 0,J I rf,J I rr],kp yV,J I cd]) ?_ rfl ⟨rfl,fin.out _ ((qP (But.refl (fun j=>j=w.heap.size) w4) _ (.inr rfl) _ _ _).drew)⟩;simp[results,Tryz.results94,go_sem,z0,z1,z2,gH]
end
section
variable {b:Nat} {root:Int} {C:Pg.Cr} {F:Nat->Prop}
theorem ycJ (q k:Int) (u:Bool) (hc:Pg.zK q k≠0) (w:uc) (h:qq w b root C F):
 yY M 93 #[uv (Z ⟨b,0,Q⟩),yB #[J I q,J I k,kp u]] w fun e w'=>e=ur (Pg.Tl.code (Pg.zK q k)).val/\Lw w w':=by
 have HC:=fun w=>zN q k u w
 have Tt:(Pg.zK q k !=0)=yV:=by simpa using hc
 clear hc h;generalize Pg.zK q k=c at*;simp only[Pg.Tl.code,Pg.Tl.val]
 go_enter Tryz.func93,Tryz.ntmps93
 go_wp2_with fail
 refine(HC _).mono ?_;rintro e w1 ⟨rfl,Ha⟩;have hr:∀p,w1.cell? ⟨w.heap.size+1,p,Q⟩=_:=fun p=>Ha.cell (p:=⟨w.heap.size+1,p,Q⟩) (by simp);have hf:∀p,w1.frozen? ⟨w.heap.size+1,p,Q⟩=_:=fun p=>Ha.frozen (p:=⟨w.heap.size+1,p,Q⟩) (by simp);have ry:U (Lw w w1):=zT (zA (zA (zR w) _) _) Ha;clear Ha HC
 go_wp2
 refine un (v:=yN #[yB #[J I 0,J I 0,J I 0],kp A,J I c]) ?_ rfl ⟨rfl,qh ry.out _ (yH _) _ _ _⟩;simp[results,Tryz.results93,go_sem,hr]
theorem ybQ (q k:Int) (u:Bool) (hc:Pg.zK q k=0) (w:uc) (h:qq w b root C F) (ho:C.K.on=yV):
 yY M 93 #[uv (Z ⟨b,0,Q⟩),yB #[J I q,J I k,kp u]] w fun e w'=>e=ur (Pg.Tl.code 8).val/\Lw w w':=by
 have HC:=fun w=>zN q k u w;rw[hc]at HC;have HO:=fun w' (hb:Lw w w')=>qx w' (h.grow hb);rw[ho]at HO;clear hc h ho;simp only[Pg.Tl.code,Pg.Tl.val]
 go_enter Tryz.func93,Tryz.ntmps93
 go_wp2_with fail
 refine(HC _).mono ?_;rintro e w1 ⟨rfl,Ha⟩;have hr:∀p,w1.cell? ⟨w.heap.size+1,p,Q⟩=_:=fun p=>Ha.cell (p:=⟨w.heap.size+1,p,Q⟩) (by simp);have hf:∀p,w1.frozen? ⟨w.heap.size+1,p,Q⟩=_:=fun p=>Ha.frozen (p:=⟨w.heap.size+1,p,Q⟩) (by simp);have ry:U (Lw w w1):=zT (zA (zA (zR w) _) _) Ha;clear Ha HC
 go_wp2_with fail
 refine(HO _ ry.out).mono ?_;rintro e w2 ⟨rfl,Ca⟩;subst w2;clear HO
 go_wp2
 refine un (v:=yN #[yB #[J I 0,J I 0,J I 0],kp A,J I 8]) ?_ rfl ⟨rfl,qh ry.out _ (yH _) _ _ _⟩;simp[results,Tryz.results93,go_sem,hr]
theorem ybR (q k:Int) (u:Bool) (hc:Pg.zK q k=0) (w:uc) (h:qq w b root C F) (ho:C.K.on=A) (hn:Pg.kFnd C.L q=Q):
 yY M 93 #[uv (Z ⟨b,0,Q⟩),yB #[J I q,J I k,kp u]] w fun e w'=>e=ur (Pg.Tl.code 0).val/\qq w' b root ⟨C.L,Pg.Wk.start root q k u⟩ F/\But F w w':=by
 have HC:=fun w=>zN q k u w;rw[hc]at HC;have HO:=fun w' (hb:Lw w w')=>qx w' (h.grow hb);rw[ho]at HO;obtain⟨bt,bk,Ft,h,rfl⟩:=h;have bW:=fun w' (ht:jM w' bt 0 C.L Ft)=>j6 q (Pg.yim hc) w' ht
 have e1:Pg.kAt C.L q= .zz:=by simp only[Pg.kAt,hn]
 rw[e1,hn,show(.zz:Pg.Ln).val=yB #[J I 0,J I 0,J I 0,J I 0,kp A]from rfl,show(none:Option Nat).isSome=A from rfl]at bW
 have e2:yeq C.K q k=0:=by simp[yeq,hc,ho]
 have e3:yew root C.K q k u=Pg.Wk.start root q k u:=by simp[yew,e2]
 have TQ:=fun w' (hk:xi w' bk 0 root C.K)=>ya0 h.ok q k u w' hk;rw[e2,e3]at TQ;have lK:U _:=Pg.Wk.yjc (root:=root) (k:=k) (u:=u) (Pg.yh8 hc);clear hc ho e1 e2 e3 hn;simp only[Pg.Tl.code,Pg.Tl.val];have hl:=h.lb;have HX:U _:=h;have gK:U (∀j,crF b bk Ft j->j<w.heap.size):=fun j hj=>h.lt hj
 go_enter Tryz.func93,Tryz.ntmps93
 go_wp2_with fail
 refine(HC _).mono ?_;rintro e w1 ⟨rfl,Ha⟩;have ha:∀p,w1.cell? ⟨w.heap.size,p,Q⟩=_:=fun p=>Ha.cell (p:=⟨w.heap.size,p,Q⟩) (by simp;omega);have HR:U (w1.heap[w.heap.size+1]?=Z (kh #[J I 0,J I 0,J I 0] 34 (0,0))):=(Ha.block _ (by simp)).trans ((by simp:(w.alloc (kh #[J I q,J I k,kp u] 41)).heap.size=w.heap.size+1)▸yI _ _);have ry:U (Lw w w1):=zT (zA (zA (zR w) _) _) Ha
 have rG:w.heap.size+1<w1.heap.size:=by have:=Ha.size;simp at this;omega
 clear Ha HC h
 go_wp2_with fail
 refine(HO _ ry.out).mono ?_;rintro e w2 ⟨rfl,Ca⟩;subst w2;clear HO;have P1:U _:=HX.out.grow ry.out;have A1:U (w1.cell? ⟨w.heap.size,0,Q⟩=Z (J I q)/\w1.cell? ⟨w.heap.size,1,Q⟩=Z (J I k)/\w1.cell? ⟨w.heap.size,2,Q⟩=Z (kp u)):=⟨(ha 0).trans (by simp[go_sem]),(ha 1).trans (by simp[go_sem]),(ha 2).trans (by simp[go_sem])⟩;have g0:=O P1.out.c0;have g1:=O A1.out.1;have RS:=fun d os=>bW _ (P1.out.grow (below_regrown w1 d os)).tb;clear HX ha bW
 go_wp2_with fail
 refine Loose.yhW 10 [9] 8 (kh #[J I 0,J I 0,J I 0,J I 0,kp A] 139) _ (by kernel_rfl) (by kernel_rfl) (by intro i o hi ho;simp only[yR]at hi;subst hi;cases ho;exact Loose.yiW rfl) rfl rfl rfl (by intro a w;simp[go_sem]) (by intro d v c a w h;cases d<;>exact h) ?_
 simp only[ua,yP,ue,yS]
 repeat (
  refine Loose.zS (fun k hk=> ?_)
  go_simp
  first
   | (refine hk _ ?_;clear hk k)
   | (apply Exists.intro
      refine⟨fun _=> ?_,hk _ ?_⟩
      (go_at_call 141;exact Loose.calls (RS _ _))
      clear hk k))
 refine Loose.yhM ?_;intro bl w3 He rV hX;have pM:bl<w3.heap.size:=(ki.1 hX).1
 have cb:w3.cell? ⟨bl,0,Q⟩=Z (J I 0)/\w3.cell? ⟨bl,1,Q⟩=Z (J I 0)/\w3.cell? ⟨bl,2,Q⟩=Z (J I 0)/\w3.cell? ⟨bl,3,Q⟩=Z (J I 0)/\w3.cell? ⟨bl,4,Q⟩=Z (kp A):=by
  simp[yL,hX]
 obtain⟨mE,mF,bi,l7,Te⟩:=cb
 have fb:∀i,w3.frozen? ⟨bl,i,Q⟩=A:=fun i=>by simp[yE,hX]
 obtain⟨W4,rJ⟩:=eY (((((w3.setCell ⟨bl,0,Q⟩ (J I 0)).setCell ⟨bl,1,Q⟩ (J I 0)).setCell ⟨bl,2,Q⟩ (J I 0)).setCell ⟨bl,3,Q⟩ (J I 0)).setCell ⟨bl,4,Q⟩ (kp A))
 have pI:Lw w1 W4:=by rw[rJ];exact qw He _ rV _ _ _ _ _
 have L4:U (W4.cell? ⟨bl,0,Q⟩=Z (J I 0)/\W4.cell? ⟨bl,1,Q⟩=Z (J I 0)/\W4.cell? ⟨bl,2,Q⟩=Z (J I 0)/\W4.cell? ⟨bl,3,Q⟩=Z (J I 0)/\W4.cell? ⟨bl,4,Q⟩=Z (kp A)):=by
  rw[U,rJ];simp[go_sem,mE,mF,bi,l7,Te]
 have P4:U _:=P1.out.grow pI;have rR:U (Lw w W4):=zT ry.out pI;have A4:U _:=qc pI A1.out;have R4:U (W4.heap[w.heap.size+1]?=Z (kh #[J I 0,J I 0,J I 0] 34 (0,0))):=(pI.block _ rG).trans HR.out;have pz:w.heap.size+1<W4.heap.size:=kO rG pI.size;clear g0 g1 RS P1 A1 ry HR pI hX He
 go_wp2_with fail
 rw[<-rJ];clear rJ mE mF bi l7 Te fb;have A5:U _:=A4.out;have g0:=O P4.out.c1;have g1:=O A4.out.1;have g2:=O A4.out.2.1;have g3:=O A4.out.2.2
 refine Loose.yi5 6 [0] (by kernel_rfl) (by kernel_rfl) (by intro i o hi ho;simp only[yR]at hi;subst hi;cases ho;exact fun e w=> .inl ⟨yB #[J I 0,J I 0,J I 0],fun w'=>by simp[execOp,go_sem]⟩) (by intro d v c a w h;cases d<;>exact h) ?_
 simp only[ua,yP,ue,yS]
 repeat (
  refine Loose.zS (fun k hk=> ?_)
  go_simp
  (refine hk _ ?_;clear hk k))
 refine Loose.yhM ?_;intro w5 rD;have P5:U _:=P4.out.grow rD;have tT:U (Lw w w5):=zT rR.out rD;have R5:U (w5.heap[w.heap.size+1]?=_):=(rD.block _ pz).trans R4.out;have uD:w.heap.size+1<w5.heap.size:=kO pz rD.size;clear rD g0 g1 g2 g3 P4 rR R4 A4 A5
 go_wp2_with fail
 refine(TQ _ P5.out.wk).mono ?_;rintro e w6 ⟨rfl,sS,ui⟩
 have U5:¬w.heap.size+1=bk:=fun e=>by have:=gK.out bk (.inr (.inl rfl));omega
 have P6:U _:=P5.out.ykL sS lK.out ui.but;have bN:U (But (crF b bk Ft) w w6):=(But.yhJ tT.out).trans ui.but (fun _ _ h=> .inr (.inl h));have R6:=(ui.but.block _ uD U5).trans R5.out;obtain⟨⟨z0,z1,z2⟩,zf⟩:=ybz R6;have bU:w.heap.size+1<w6.heap.size:=kO uD ui.but.size
 have fin:U (∀Wf,But (fun j=>j=w.heap.size+1) w6 Wf->qq Wf b root ⟨C.L,Pg.Wk.start root q k u⟩ (crF b bk Ft)/\But (crF b bk Ft) w Wf):=fun Wf hb=>
  ⟨⟨_,_,_,P6.out.keep hb fun k hk e=>by have:=gK.out k hk;omega,rfl⟩,bN.out.trans hb (fun i hi e=>by omega)⟩
 clear sS ui R5 R6 P5 tT P6 bN TQ
 go_wp2
 refine un (v:=yN #[yB #[J I 0,J I 0,J I 0],kp A,J I 0]) ?_ rfl ⟨rfl,fin.out _ (qP (But.refl (fun j=>j=w.heap.size+1) w6) _ (.inr rfl) _ _ _)⟩;simp[results,Tryz.results93,go_sem,z0,z1,z2,bU]
theorem ybj (q k:Int) (u:Bool) (hc:Pg.zK q k=0) (w:uc) (h:qq w b root C F) (ho:C.K.on=A) (hn:(Pg.kFnd C.L q).isSome=yV) (bK:(Pg.kAt C.L q).wants k u=yV):
 yY M 93 #[uv (Z ⟨b,0,Q⟩),yB #[J I q,J I k,kp u]] w fun e w'=>e=ur (Pg.Tl.code 0).val/\qq w' b root ⟨C.L,Pg.Wk.start root q k u⟩ F/\But F w w':=by
 have HC:=fun w=>zN q k u w;rw[hc]at HC;have HO:=fun w' (hb:Lw w w')=>qx w' (h.grow hb);rw[ho]at HO;obtain⟨bt,bk,Ft,h,rfl⟩:=h;have bW:=fun w' (ht:jM w' bt 0 C.L Ft)=>j6 q (Pg.yim hc) w' ht;have wT:=fun w=>jJ (Pg.kAt C.L q) q k u w;rw[bK]at wT;rw[hn]at bW
 have e2:yeq C.K q k=0:=by simp[yeq,hc,ho]
 have e3:yew root C.K q k u=Pg.Wk.start root q k u:=by simp[yew,e2]
 have TQ:=fun w' (hk:xi w' bk 0 root C.K)=>ya0 h.ok q k u w' hk;rw[e2,e3]at TQ;have lK:U _:=Pg.Wk.yjc (root:=root) (k:=k) (u:=u) (Pg.yh8 hc);clear hc ho e2 e3 hn bK;generalize Pg.kAt C.L q=l at*;obtain⟨⟨mp,ms,mf,mr⟩,ld⟩:=l;simp only[Pg.Ln.val]at bW wT;simp only[Pg.Tl.code,Pg.Tl.val];have hl:=h.lb;have HX:U _:=h;have gK:U (∀j,crF b bk Ft j->j<w.heap.size):=fun j hj=>h.lt hj
 go_enter Tryz.func93,Tryz.ntmps93
 go_wp2_with fail
 refine(HC _).mono ?_;rintro e w1 ⟨rfl,Ha⟩;have ha:∀p,w1.cell? ⟨w.heap.size,p,Q⟩=_:=fun p=>Ha.cell (p:=⟨w.heap.size,p,Q⟩) (by simp;omega);have HR:U (w1.heap[w.heap.size+1]?=Z (kh #[J I 0,J I 0,J I 0] 34 (0,0))):=(Ha.block _ (by simp)).trans ((by simp:(w.alloc (kh #[J I q,J I k,kp u] 41)).heap.size=w.heap.size+1)▸yI _ _);have ry:U (Lw w w1):=zT (zA (zA (zR w) _) _) Ha
 have rG:w.heap.size+1<w1.heap.size:=by have:=Ha.size;simp at this;omega
 clear Ha HC h
 go_wp2_with fail
 refine(HO _ ry.out).mono ?_;rintro e w2 ⟨rfl,Ca⟩;subst w2;clear HO;have P1:U _:=HX.out.grow ry.out;have A1:U (w1.cell? ⟨w.heap.size,0,Q⟩=Z (J I q)/\w1.cell? ⟨w.heap.size,1,Q⟩=Z (J I k)/\w1.cell? ⟨w.heap.size,2,Q⟩=Z (kp u)):=⟨(ha 0).trans (by simp[go_sem]),(ha 1).trans (by simp[go_sem]),(ha 2).trans (by simp[go_sem])⟩;have g0:=O P1.out.c0;have g1:=O A1.out.1;have RS:=fun d os=>bW _ (P1.out.grow (below_regrown w1 d os)).tb;clear HX ha bW
 go_wp2_with fail
 refine Loose.yhW 10 [9] 8 (kh #[J I 0,J I 0,J I 0,J I 0,kp A] 139) _ (by kernel_rfl) (by kernel_rfl) (by intro i o hi ho;simp only[yR]at hi;subst hi;cases ho;exact Loose.yiW rfl) rfl rfl rfl (by intro a w;simp[go_sem]) (by intro d v c a w h;cases d<;>exact h) ?_
 simp only[ua,yP,ue,yS]
 repeat (
  refine Loose.zS (fun k hk=> ?_)
  go_simp
  first
   | (refine hk _ ?_;clear hk k)
   | (apply Exists.intro
      refine⟨fun _=> ?_,hk _ ?_⟩
      (go_at_call 141;exact Loose.calls (RS _ _))
      clear hk k))
 refine Loose.yhM ?_;intro bl w3 He rV hX;have pM:bl<w3.heap.size:=(ki.1 hX).1
 have cb:w3.cell? ⟨bl,0,Q⟩=Z (J I 0)/\w3.cell? ⟨bl,1,Q⟩=Z (J I 0)/\w3.cell? ⟨bl,2,Q⟩=Z (J I 0)/\w3.cell? ⟨bl,3,Q⟩=Z (J I 0)/\w3.cell? ⟨bl,4,Q⟩=Z (kp A):=by
  simp[yL,hX]
 obtain⟨mE,mF,bi,l7,Te⟩:=cb
 have fb:∀i,w3.frozen? ⟨bl,i,Q⟩=A:=fun i=>by simp[yE,hX]
 obtain⟨W4,rJ⟩:=eY (((((w3.setCell ⟨bl,0,Q⟩ (J I mp)).setCell ⟨bl,1,Q⟩ (J I ms)).setCell ⟨bl,2,Q⟩ (J I mf)).setCell ⟨bl,3,Q⟩ (J I mr)).setCell ⟨bl,4,Q⟩ (kp ld))
 have pI:Lw w1 W4:=by rw[rJ];exact qw He _ rV _ _ _ _ _
 have L4:U (W4.cell? ⟨bl,0,Q⟩=Z (J I mp)/\W4.cell? ⟨bl,1,Q⟩=Z (J I ms)/\W4.cell? ⟨bl,2,Q⟩=Z (J I mf)/\W4.cell? ⟨bl,3,Q⟩=Z (J I mr)/\W4.cell? ⟨bl,4,Q⟩=Z (kp ld)):=by
  rw[U,rJ];simp[go_sem,mE,mF,bi,l7,Te]
 have P4:U _:=P1.out.grow pI;have rR:U (Lw w W4):=zT ry.out pI;have A4:U _:=qc pI A1.out;have R4:U (W4.heap[w.heap.size+1]?=Z (kh #[J I 0,J I 0,J I 0] 34 (0,0))):=(pI.block _ rG).trans HR.out;have pz:w.heap.size+1<W4.heap.size:=kO rG pI.size;clear g0 g1 RS P1 A1 ry HR pI hX He
 go_upto_region 7 with fail
 rw[<-rJ];clear rJ mE mF bi l7 Te fb;obtain⟨a0,a1,a2⟩:=A4.out;obtain⟨l0,l1,l2,l3,l4⟩:=L4.out
 go_wp2_with fail
 refine(wT _).mono ?_;rintro e W6 ⟨rfl,ru⟩;have P7:U _:=P4.out.grow ru;have pO:U (Lw w W6):=zT rR.out ru;have A7:U _:=qc ru A4.out;have R7:U (W6.heap[w.heap.size+1]?=_):=(ru.block _ pz).trans R4.out;have Sr:w.heap.size+1<W6.heap.size:=kO pz ru.size;have L7:U (qs W6 bl 0 ⟨⟨mp,ms,mf,mr⟩,ld⟩):=qs.below (w:=W4) ⟨l0,l1,l2,l3,l4⟩ ru (yF _ _ l0);clear P4 rR A4 R4 pz L4 ru a0 a1 a2 l0 l1 l2 l3 l4 wT
 go_wp2_with fail
 have A5:U _:=A7.out;have g0:=O P7.out.c1;have g1:=O A7.out.1;have g2:=O A7.out.2.1;have g3:=O A7.out.2.2
 refine Loose.yi5 6 [0] (by kernel_rfl) (by kernel_rfl) (by intro i o hi ho;simp only[yR]at hi;subst hi;cases ho;exact fun e w=> .inl ⟨yB #[J I 0,J I 0,J I 0],fun w'=>by simp[execOp,go_sem]⟩) (by intro d v c a w h;cases d<;>exact h) ?_
 simp only[ua,yP,ue,yS]
 repeat (
  refine Loose.zS (fun k hk=> ?_)
  go_simp
  (refine hk _ ?_;clear hk k))
 refine Loose.yhM ?_;intro w5 rD;have P5:U _:=P7.out.grow rD;have tT:U (Lw w w5):=zT pO.out rD;have R5:U (w5.heap[w.heap.size+1]?=_):=(rD.block _ Sr).trans R7.out;have uD:w.heap.size+1<w5.heap.size:=kO Sr rD.size;clear rD g0 g1 g2 g3 P7 pO R7 A7 A5
 go_wp2_with fail
 refine(TQ _ P5.out.wk).mono ?_;rintro e w6 ⟨rfl,sS,ui⟩
 have U5:¬w.heap.size+1=bk:=fun e=>by have:=gK.out bk (.inr (.inl rfl));omega
 have P6:U _:=P5.out.ykL sS lK.out ui.but;have bN:U (But (crF b bk Ft) w w6):=(But.yhJ tT.out).trans ui.but (fun _ _ h=> .inr (.inl h));have R6:=(ui.but.block _ uD U5).trans R5.out;obtain⟨⟨z0,z1,z2⟩,zf⟩:=ybz R6;have bU:w.heap.size+1<w6.heap.size:=kO uD ui.but.size
 have fin:U (∀Wf,But (fun j=>j=w.heap.size+1) w6 Wf->qq Wf b root ⟨C.L,Pg.Wk.start root q k u⟩ (crF b bk Ft)/\But (crF b bk Ft) w Wf):=fun Wf hb=>
  ⟨⟨_,_,_,P6.out.keep hb fun k hk e=>by have:=gK.out k hk;omega,rfl⟩,bN.out.trans hb (fun i hi e=>by omega)⟩
 clear sS ui R5 R6 P5 tT P6 bN TQ
 go_wp2
 refine un (v:=yN #[yB #[J I 0,J I 0,J I 0],kp A,J I 0]) ?_ rfl ⟨rfl,fin.out _ (qP (But.refl (fun j=>j=w.heap.size+1) w6) _ (.inr rfl) _ _ _)⟩;simp[results,Tryz.results93,go_sem,z0,z1,z2,bU]
theorem ycK (q k:Int) (u:Bool) (hc:Pg.zK q k=0) (w:uc) (h:qq w b root C F) (ho:C.K.on=A) (hn:(Pg.kFnd C.L q).isSome=yV) (bK:(Pg.kAt C.L q).wants k u=A):
 yY M 93 #[uv (Z ⟨b,0,Q⟩),yB #[J I q,J I k,kp u]] w fun e w'=>e=ur ((Pg.kAt C.L q).ans q k u).val/\Lw w w':=by
 have HC:=fun w=>zN q k u w;rw[hc]at HC;have HO:=fun w' (hb:Lw w w')=>qx w' (h.grow hb);rw[ho]at HO;obtain⟨bt,bk,Ft,h,rfl⟩:=h;have bW:=fun w' (ht:jM w' bt 0 C.L Ft)=>j6 q (Pg.yim hc) w' ht;have wT:=fun w=>jJ (Pg.kAt C.L q) q k u w;rw[bK]at wT;rw[hn]at bW;have lI:=fun w=>jO (Pg.kAt C.L q).m.p (Pg.kAt C.L q).m.s (Pg.kAt C.L q).m.f (Pg.kAt C.L q).m.r q k u w;clear hc ho hn bK;generalize Pg.kAt C.L q=l at*;obtain⟨⟨mp,ms,mf,mr⟩,ld⟩:=l;simp only[Pg.Ln.val]at bW wT;simp only[Pg.Ln.ans,Pg.Tl.val];simp only at lI;generalize Pg.aEnd mr k u=ra at*;generalize Pg.yie mp mf mr q k u=rf at*;generalize Pg.yh1 mr k u=rr at*;have hl:=h.lb;have HX:U _:=h;have gK:U (∀j,crF b bk Ft j->j<w.heap.size):=fun j hj=>h.lt hj
 go_enter Tryz.func93,Tryz.ntmps93
 go_wp2_with fail
 refine(HC _).mono ?_;rintro e w1 ⟨rfl,Ha⟩;have ha:∀p,w1.cell? ⟨w.heap.size,p,Q⟩=_:=fun p=>Ha.cell (p:=⟨w.heap.size,p,Q⟩) (by simp;omega);have HR:U (w1.heap[w.heap.size+1]?=Z (kh #[J I 0,J I 0,J I 0] 34 (0,0))):=(Ha.block _ (by simp)).trans ((by simp:(w.alloc (kh #[J I q,J I k,kp u] 41)).heap.size=w.heap.size+1)▸yI _ _);have ry:U (Lw w w1):=zT (zA (zA (zR w) _) _) Ha
 have rG:w.heap.size+1<w1.heap.size:=by have:=Ha.size;simp at this;omega
 clear Ha HC h
 go_wp2_with fail
 refine(HO _ ry.out).mono ?_;rintro e w2 ⟨rfl,Ca⟩;subst w2;clear HO;have P1:U _:=HX.out.grow ry.out;have A1:U (w1.cell? ⟨w.heap.size,0,Q⟩=Z (J I q)/\w1.cell? ⟨w.heap.size,1,Q⟩=Z (J I k)/\w1.cell? ⟨w.heap.size,2,Q⟩=Z (kp u)):=⟨(ha 0).trans (by simp[go_sem]),(ha 1).trans (by simp[go_sem]),(ha 2).trans (by simp[go_sem])⟩;have g0:=O P1.out.c0;have g1:=O A1.out.1;have RS:=fun d os=>bW _ (P1.out.grow (below_regrown w1 d os)).tb;clear HX ha bW
 go_wp2_with fail
 refine Loose.yhW 10 [9] 8 (kh #[J I 0,J I 0,J I 0,J I 0,kp A] 139) _ (by kernel_rfl) (by kernel_rfl) (by intro i o hi ho;simp only[yR]at hi;subst hi;cases ho;exact Loose.yiW rfl) rfl rfl rfl (by intro a w;simp[go_sem]) (by intro d v c a w h;cases d<;>exact h) ?_
 simp only[ua,yP,ue,yS]
 repeat (
  refine Loose.zS (fun k hk=> ?_)
  go_simp
  first
   | (refine hk _ ?_;clear hk k)
   | (apply Exists.intro
      refine⟨fun _=> ?_,hk _ ?_⟩
      (go_at_call 141;exact Loose.calls (RS _ _))
      clear hk k))
 refine Loose.yhM ?_;intro bl w3 He rV hX;have pM:bl<w3.heap.size:=(ki.1 hX).1
 have cb:w3.cell? ⟨bl,0,Q⟩=Z (J I 0)/\w3.cell? ⟨bl,1,Q⟩=Z (J I 0)/\w3.cell? ⟨bl,2,Q⟩=Z (J I 0)/\w3.cell? ⟨bl,3,Q⟩=Z (J I 0)/\w3.cell? ⟨bl,4,Q⟩=Z (kp A):=by
  simp[yL,hX]
 obtain⟨mE,mF,bi,l7,Te⟩:=cb
 have fb:∀i,w3.frozen? ⟨bl,i,Q⟩=A:=fun i=>by simp[yE,hX]
 obtain⟨W4,rJ⟩:=eY (((((w3.setCell ⟨bl,0,Q⟩ (J I mp)).setCell ⟨bl,1,Q⟩ (J I ms)).setCell ⟨bl,2,Q⟩ (J I mf)).setCell ⟨bl,3,Q⟩ (J I mr)).setCell ⟨bl,4,Q⟩ (kp ld))
 have pI:Lw w1 W4:=by rw[rJ];exact qw He _ rV _ _ _ _ _
 have L4:U (W4.cell? ⟨bl,0,Q⟩=Z (J I mp)/\W4.cell? ⟨bl,1,Q⟩=Z (J I ms)/\W4.cell? ⟨bl,2,Q⟩=Z (J I mf)/\W4.cell? ⟨bl,3,Q⟩=Z (J I mr)/\W4.cell? ⟨bl,4,Q⟩=Z (kp ld)):=by
  rw[U,rJ];simp[go_sem,mE,mF,bi,l7,Te]
 have P4:U _:=P1.out.grow pI;have rR:U (Lw w W4):=zT ry.out pI;have A4:U _:=qc pI A1.out;have R4:U (W4.heap[w.heap.size+1]?=Z (kh #[J I 0,J I 0,J I 0] 34 (0,0))):=(pI.block _ rG).trans HR.out;have pz:w.heap.size+1<W4.heap.size:=kO rG pI.size;clear g0 g1 RS P1 A1 ry HR pI hX He
 go_upto_region 7 with fail
 rw[<-rJ];clear rJ mE mF bi l7 Te fb;obtain⟨a0,a1,a2⟩:=A4.out;obtain⟨l0,l1,l2,l3,l4⟩:=L4.out
 go_wp2_with fail
 refine(wT _).mono ?_;rintro e W6 ⟨rfl,ru⟩;have P7:U _:=P4.out.grow ru;have pO:U (Lw w W6):=zT rR.out ru;have A7:U _:=qc ru A4.out;have R7:U (W6.heap[w.heap.size+1]?=_):=(ru.block _ pz).trans R4.out;have Sr:w.heap.size+1<W6.heap.size:=kO pz ru.size;have L7:U (qs W6 bl 0 ⟨⟨mp,ms,mf,mr⟩,ld⟩):=qs.below (w:=W4) ⟨l0,l1,l2,l3,l4⟩ ru (yF _ _ l0);clear P4 rR A4 R4 pz L4 ru a0 a1 a2 l0 l1 l2 l3 l4 wT;obtain⟨a0,a1,a2⟩:=A7.out;obtain⟨l0,l1,l2,l3,l4⟩:=L7.out;simp only[yy]at l0 l1 l2 l3 l4
 go_wp2_with fail
 refine(lI _).mono ?_;rintro e w8 ⟨rfl,sH⟩;obtain⟨⟨z0,z1,z2⟩,zf⟩:=ybz ((sH.block _ Sr).trans R7.out);have Nb:w.heap.size+1<w8.heap.size:=kO Sr sH.size;have dQ:U (Lw w w8):=zT pO.out sH;clear sH lI P7 A7 R7 L7 a0 a1 a2 l0 l1 l2 l3 l4 pO
 go_wp2
 refine un (v:=yN #[yB #[J I ra,J I rf,J I rr],kp yV,J I 0]) ?_ rfl ⟨rfl,qh dQ.out _ (yH _) _ _ _⟩;simp[results,Tryz.results93,go_sem,z0,z1,z2,Nb]
theorem ycI (q k:Int) (u:Bool) (w:uc) (h:qq w b root C F):
 yY M 93 #[uv (Z ⟨b,0,Q⟩),yB #[J I q,J I k,kp u]] w fun e w'=>e=ur (C.bgT q k u).val/\qq w' b root (C.bgN root q k u) F/\But F w w':=by
 unfold Pg.Cr.bgT Pg.Cr.bgN
 by_cases hc:Pg.zK q k=0
 ·rw[iN (by simp[hc])]
  cases ho:C.K.on
  ·rw[iN (by simp)]
   unfold Pg.Cr.hit
   cases hn:Pg.kFnd C.L q with
   | none=>
     rw[iN (by simp),iP ⟨hc,rfl,by simp⟩];exact ybR q k u hc w h ho hn
   | some j=>
     cases bK:(Pg.kAt C.L q).wants k u
     ·rw[iP (by simp),iN (by simp)]
      exact(ycK q k u hc w h ho (by simp[hn]) bK).mono fun e w' ⟨he,hb⟩=>⟨he,h.grow hb,But.yhJ hb⟩
     ·rw[iN (by simp),iP ⟨hc,rfl,by simp⟩]
      exact ybj q k u hc w h ho (by simp[hn]) bK
  ·rw[iP rfl,iN (by simp)]
   exact(ybQ q k u hc w h ho).mono fun e w' ⟨he,hb⟩=>⟨he,h.grow hb,But.yhJ hb⟩
 ·rw[iP (by simpa using hc),iN (by simp[hc])]
  exact(ycJ q k u hc w h).mono fun e w' ⟨he,hb⟩=>⟨he,h.grow hb,But.yhJ hb⟩
end
end
section
def anV (a f r:Int):yG:=yB #[J I a,J I f,J I r]
def vr (w:uc) (b:Nat) (l:List (Int×Int×Int)):Prop:=
 ∃es aM,w.heap[b]?=Z (.map es aM)/\(∀e ∈ es.toList,e.val=yB #[]/\∃a f r,e.key=anV a f r)/\∀x ∈ l,∃e ∈ es.toList,e.key=anV x.1 x.2.1 x.2.2
section
variable {w w':uc} {b:Nat} {l:List (Int×Int×Int)}
theorem vr.lt (h:vr w b l):b<w.heap.size:=by
 obtain⟨es,aM,hb,_⟩:=h;exact(ki.1 hb).1
theorem vr.of_block (h:vr w b l) (hk:w'.heap[b]?=w.heap[b]?):vr w' b l:=by
 obtain⟨es,aM,hb,h⟩:=h;exact⟨es,aM,hk.trans hb,h⟩
theorem yeu (w:uc):vr (w.alloc (.map #[] 0)) w.heap.size []:=⟨#[],0,yI _ _,by simp,by simp⟩
theorem ybd (em:Bool) (a f r:Int) (w:uc):(Instr.checkKey em 10000 34 (anV a f r)).run M w= .ok () w:=by
 unfold anV
 kernel_rfl
theorem yfx (a f r a' f' r':Int) (w:uc):∃x:Bool,(Op.equal 34 (anV a f r) (anV a' f' r')).run M w= .ok x w/\(x=yV ↔ anV a f r=anV a' f' r'):=by
 have hd:Op.maxDepth=9999+1:=rfl;refine⟨a==a'&&(f==f'&&r==r'),?_,?_⟩
 ·unfold Op.equal anV
  rw[hd,run_equalIn_agg w 9999 _ _ _ (by kernel_rfl) (by kernel_rfl)]
  have hf : (Tryz.prog.fieldsOf 34).toList.map (fun x => (x.name, x.type, x.offset)) = [("End", 3, 0), ("Frame", 3, 1), ("Rights", 3, 2)] := by kernel_rfl
  have hi:∀(a b:Int) (w:uc),(Op.equalIn 9999 3 (J I a) (J I b)).run M w= .ok (a==b) w:=fun a b w=>run_equalIn_int w 9998 _ I I _ _ (by kernel_rfl)
  have hp:Tryz.prog.plainKey 3=yV:=by kernel_rfl
  have step : ∀ (xs ys : Array yG) (g : Field) (o : Nat) (a b : Int) (gs : List Field) (w : uc), g.name ≠ "_" → g.type = 3 → g.offset = o → xs[o]? = Z (J I a) → ys[o]? = Z (J I b) →
   (Op.eqFields 9999 xs ys (g::gs)).run M w=bif a==b then(Op.eqFields 9999 xs ys gs).run M w else .ok A w:=by
   intro xs ys g o a b gs w h0 h1 h2 h3 h4;subst h2;simp only[Op.eqFields,ne_eq,h0,not_false_eq_true,if_true,Sem.run_bind,Sem.run_ite,h1,run_part_plain w hp h3,run_part_plain w hp h4,hi,Result.andThen_ok]
   cases a==b<;>rfl
  generalize (Tryz.prog.fieldsOf 34).toList=fs at hf ⊢
  obtain⟨g0,fs,rfl⟩:∃g gs,fs=g::gs:=by
   cases fs
   ·simp at hf
   ·exact⟨_,_,rfl⟩
  obtain⟨g1,fs,rfl⟩:∃g gs,fs=g::gs:=by
   cases fs
   ·simp at hf
   ·exact⟨_,_,rfl⟩
  obtain⟨g2,fs,rfl⟩:∃g gs,fs=g::gs:=by
   cases fs
   ·simp at hf
   ·exact⟨_,_,rfl⟩
  obtain rfl:fs=[]:=by
   cases fs
   ·rfl
   ·simp at hf
  ·simp only[List.map_cons,List.map_nil,List.cons.injEq,Prod.mk.injEq,and_true]at hf
   obtain⟨⟨a0,a1,a2⟩,⟨b0,b1,b2⟩,⟨c0,c1,c2⟩⟩:=hf;rw[step _ _ g0 0 a a' _ w (by rw[a0];decide) a1 a2 rfl rfl,step _ _ g1 1 f f' _ w (by rw[b0];decide) b1 b2 rfl rfl,step _ _ g2 2 r r' _ w (by rw[c0];decide) c1 c2 rfl rfl];generalize (a==a')=x0;generalize (f==f')=x1;generalize (r==r')=x2;cases x0
   ·rfl
   cases x1
   ·rfl
   cases x2<;>rfl
 ·simp[anV]
theorem ygm {es:List MapEntry} (fJ:∀e ∈ es,e.val=yB #[]/\∃a f r,e.key=anV a f r) (a f r:Int) (w:uc):∀i:Nat,
 ((Instr.findAsking 34 (anV a f r) es i).run M w= .ok Q w/\∀e ∈ es,e.key≠anV a f r)\/∃j e,(Instr.findAsking 34 (anV a f r) es i).run M w= .ok (Z (i+j,yB #[])) w/\es[j]?=Z e/\e.key=anV a f r:=by
 induction es with
 | nil=>exact fun i=> .inl ⟨by simp[Instr.findAsking],by simp⟩
 | cons e es ih=>
   intro i;obtain⟨hv,a',f',r',hk⟩:=fJ e (by simp);obtain⟨x,hx,Ao⟩:=yfx a f r a' f' r' w
   have hs:(Instr.findAsking 34 (anV a f r) (e::es) i).run M w=bif x then .ok (Z (i,yB #[])) w else(Instr.findAsking 34 (anV a f r) es (i+1)).run M w:=by
    simp only[Instr.findAsking,Sem.run_bind,hk,hx,Result.andThen_ok,hv]
    cases x<;>rfl
   cases x
   ·rcases ih (fun e he=>fJ e (by simp[he])) (i+1)with ⟨h1,h2⟩|⟨j,e',h1,h2,h3⟩
    ·refine .inl ⟨by rw[hs];exact h1,fun e' he'=> ?_⟩
     rcases yD.1 he' with rfl|he'
     ·rw[hk]
      intro h;exact Bool.noConfusion (Ao.2 h.symm)
     ·exact h2 e' he'
    ·exact .inr ⟨j+1,e',by rw[hs];show(Instr.findAsking _ _ es (i+1)).run _ _=_;rw[h1,show i+1+j=i+(j+1) by omega],by simpa using h2,h3⟩
   ·exact .inr ⟨0,e,by rw[hs];rfl,rfl,by rw[hk];exact(Ao.1 rfl).symm⟩
theorem yaJ {es:List MapEntry} (fJ:∀e ∈ es,e.val=yB #[]/\∃a f r,e.key=anV a f r) (a f r:Int) (w:uc):
 ((Instr.findKey 34 (anV a f r) es).run M w= .ok Q w/\∀e ∈ es,e.key≠anV a f r)\/∃j e,(Instr.findKey 34 (anV a f r) es).run M w= .ok (Z (j,yB #[])) w/\es[j]?=Z e/\e.key=anV a f r:=by
 rw[run_findKey_eq w (by kernel_rfl)];have:=ygm fJ a f r w 0
 simpa only[yy]using this
theorem yfy (a f r:Int) (w:uc):(Instr.keyThatStays (anV a f r) (anV a f r)).run M w= .ok (anV a f r) w:=by
 have:Instr.sameBits 10000 (anV a f r) (anV a f r)=yV:=by
  show Instr.sameBits (9999+1) _ _=yV
  simp[anV,Instr.sameBits]
 unfold Instr.keyThatStays;rw[this];simp
theorem vr.put (h:vr w b l) (a f r:Int):∃w',(Instr.mapUpdate 88 (.map (Z b)) (anV a f r) (yB #[])).run M w= .ok () w'/\vr w' b ((a,f,r)::l)/\But (fun j=>j=b) w w':=by
 obtain⟨es,aM,hb,fJ,hl⟩:=h;have Hf:b<w.heap.size:=(ki.1 hb).1
 have hu:Tryz.prog.underlying 88=Z (.map 34 243):=by kernel_rfl
 have mi:∀o:Obj,But (fun j=>j=b) w {w with heap:=w.heap.setIfInBounds b o}:=fun o=>⟨rfl,rfl,rfl,by simp,fun k _ hk=>Array.getElem?_setIfInBounds_ne (fun e=>hk e.symm)⟩;have hat:∀o:Obj,({w with heap:=w.heap.setIfInBounds b o}:uc).heap[b]?=Z o:=fun o=>Array.getElem?_setIfInBounds_self_of_lt Hf;rcases yaJ fJ a f r w with ⟨h1,h2⟩|⟨j,e,h1,h2,h3⟩
 ·refine⟨{w with heap:=w.heap.setIfInBounds b (.map (es.push {key:=anV a f r,val:=yB #[],born:=aM}) (aM+1))},?_,⟨_,_,hat _,fun e he=> ?_,fun x hx=> ?_⟩,mi _⟩
  ·simp[Instr.mapUpdate,run_underlying hu,MapKept.run_getObj_map hb,ybd,h1,MapKept.run_setObj_map _ hb,Result.andThen]
  ·simp only[Array.toList_push,List.mem_append,yR]at he
   rcases he with he|rfl
   ·exact fJ e he
   ·exact⟨rfl,_,_,_,rfl⟩
  ·rcases yD.1 hx with rfl|hx
   ·exact⟨{key:=anV a f r,val:=yB #[],born:=aM},by simp,rfl⟩
   ·obtain⟨e,he,hk⟩:=hl x hx
    exact⟨e,by simp[he],hk⟩
 ·have hj:j<es.size:=by
   obtain⟨hj,_⟩:=List.getElem?_eq_some_iff.1 h2
   simpa using hj
  have SN:es[j]?=Z e:=by rw[<-Array.getElem?_toList];exact h2
  refine⟨{w with heap:=w.heap.setIfInBounds b (.map (es.modify j fun e=>{e with key:=anV a f r,val:=yB #[]}) aM)},?_,⟨_,_,hat _,fun e' he=> ?_,fun x hx=> ?_⟩,mi _⟩
  ·simp[Instr.mapUpdate,run_underlying hu,MapKept.run_getObj_map hb,ybd,h1,SN,h3,yfy,MapKept.run_setObj_map _ hb,Result.andThen]
  ·rw[yA]at he
   obtain⟨i,hi⟩:=yM.1 he;rw[yX]at hi
   cases hl':es.toList[i]? with
   | none=>rw[hl']at hi;simp at hi
   | some y=>
     rw[hl']at hi
     have hi:(if j=i then({y with key:=anV a f r,val:=yB #[]}:MapEntry)else y)=e':=by
      split at hi
      ·next e0=>rw[iP e0];exact Option.some.inj hi
      ·next e0=>rw[iN e0];exact Option.some.inj hi
     have hy:=fJ y (yZ hl');split at hi
     ·rw[<-hi];exact⟨rfl,_,_,_,rfl⟩
     ·rw[<-hi];exact hy
  ·obtain⟨e1,he1,dL⟩:∃e ∈ es.toList,e.key=anV x.1 x.2.1 x.2.2:=by
    rcases yD.1 hx with rfl|hx
    ·exact⟨e,yZ h2,h3⟩
    ·exact hl x hx
   obtain⟨i,hi⟩:=yM.1 he1;refine⟨if j=i then{e1 with key:=anV a f r,val:=yB #[]}else e1,?_,?_⟩
   ·rw[yA]
    refine yZ (i:=i) ?_;rw[yX,hi]
    split<;>rfl
   ·split
    ·next e0=>
     subst e0;rw[hi]at h2;injection h2 with h2;rw[<-h2]at h3;rw[<-dL,h3]
    ·exact dL
theorem vr.look (h:vr w b l) {a f r:Int} (hm:(a,f,r) ∈ l):(Instr.lookup 88 (.map (Z b)) (anV a f r) yV).run M w= .ok (yN #[yB #[],kp yV]) w:=by
 obtain⟨es,aM,hb,fJ,hl⟩:=h
 have hu:Tryz.prog.underlying 88=Z (.map 34 243):=by kernel_rfl
 obtain⟨e0,Iu,MI⟩:=hl _ hm;rcases yaJ fJ a f r w with ⟨h1,h2⟩|⟨j,e,h1,h2,h3⟩
 ·exact absurd MI (h2 e0 Iu)
 ·simp[Instr.lookup,run_underlying hu,MapKept.run_getObj_map hb,ybd,h1,Result.andThen]
end
open Go.RowKit Go.Sort
theorem vE {m:Nat} {l:List (Int×Int×Int)} (a f r:Int) (w:uc) (h:vr w m l):
 yY M 163 #[.map (Z m),yB #[J I a,J I f,J I r]] w fun e w'=>e=ur (yN #[])/\vr w' m ((a,f,r)::l)/\But (fun k=>k=m) w w':=by
 obtain⟨W,hW⟩:=eY (w.alloc (kh #[J I a,J I f,J I r] 34))
 have hB:Lw w W:=by rw[hW];exact zA (zR _) _
 have x0:W.cell? ⟨w.heap.size,0,Q⟩=Z (J I a):=by rw[hW];simp[go_sem]
 have x1:W.cell? ⟨w.heap.size,1,Q⟩=Z (J I f):=by rw[hW];simp[go_sem]
 have x2:W.cell? ⟨w.heap.size,2,Q⟩=Z (J I r):=by rw[hW];simp[go_sem]
 obtain⟨w',hr,ha,hb⟩:=(h.of_block (hB.block _ h.lt)).put a f r;unfold anV at hr;have HA:U _:=ha;have HB:U (But (fun k=>k=m) w w'):=(But.yhJ (F:=fun k=>k=m) hB).trans hb fun _ _ e=>e;clear h ha hb hB
 go_enter Tryz.func163,Tryz.ntmps163
 go_upto_region 1 with fail
 rw[<-hW];clear hW
 go_wp2
 go_end0
 exact⟨rfl,HA.out,HB.out⟩
theorem ycz {b c:Nat} {L:List Pg.Mp} {F:Nat->Prop} (x:Pg.Sx) (hx:Pg.fits x.m.p) (w:uc) (h:qJ w b L F) (hc:ybJ w c 2 x.m):
 yY M 156 #[uv (Z ⟨b,0,Q⟩),uv (Z ⟨c,0,Q⟩)] w fun e w'=>e=ur (yN #[])/\∃F',qJ w' b (Pg.addL L x.m) F'/\But F w w'/\∀k,F' k->F k\/w.heap.size<=k:=by
 have HA:U _:=yeB x.m hx w h;obtain⟨c0,c1,c2,c3⟩:=hc;obtain⟨kd,co,⟨p,s,f,r⟩,q,k,u⟩:=x;simp only[Pg.Mp.val]at HA c0 c1 c2 c3;clear h
 go_enter Tryz.func156,Tryz.ntmps156
 go_wp2_with fail
 refine Calls.mono HA.out ?_;rintro e w1 ⟨rfl,F',h1,Ha,tH⟩;have H1:U _:=(⟨h1,Ha,tH⟩:_/\_/\_);clear h1 Ha tH HA
 go_wp2
 go_end0
 exact⟨rfl,F',H1.out⟩
theorem ycA {b c:Nat} {L:List Pg.Mp} {F:Nat->Prop} (x:Pg.Sx) (hx:Pg.fits x.m.p) (w:uc) (h:qJ w b L F) (hc:ybJ w c 2 x.m):
 yY M 158 #[uv (Z ⟨b,0,Q⟩),uv (Z ⟨c,0,Q⟩)] w fun e w'=>e=ur (yN #[])/\∃F',qJ w' b (Pg.yiL L x.m.p) F'/\But F w w'/\∀k,F' k->F k\/w.heap.size<=k:=by
 have HA:U _:=ydB x.m.p hx w h;obtain⟨c0,c1,c2,c3⟩:=hc;obtain⟨kd,co,⟨p,s,f,r⟩,q,k,u⟩:=x;simp only at HA c0 c1 c2 c3;clear h
 go_enter Tryz.func158,Tryz.ntmps158
 go_wp2_with fail
 refine Calls.mono HA.out ?_;rintro e w1 ⟨rfl,F',h1,Ha,tH⟩;have H1:U _:=(⟨h1,Ha,tH⟩:_/\_/\_);clear h1 Ha tH HA
 go_wp2
 go_end0
 exact⟨rfl,F',H1.out⟩
theorem ycB {b c:Nat} {L:List Pg.Mp} {F:Nat->Prop} (x:Pg.Sx) (hx:Pg.fits x.m.p) (w:uc) (h:qJ w b L F) (hc:ybJ w c 2 x.m):
 yY M 160 #[uv (Z ⟨b,0,Q⟩),uv (Z ⟨c,0,Q⟩)] w fun e w'=>e=ur (yN #[])/\∃F',qJ w' b (Pg.yjm L x.m.p x.m.r) F'/\But F w w'/\∀k,F' k->F k\/w.heap.size<=k:=by
 have HA:U _:=ybk x.m.p x.m.r hx w h;obtain⟨c0,c1,c2,c3⟩:=hc;obtain⟨kd,co,⟨p,s,f,r⟩,q,k,u⟩:=x;simp only at HA c0 c1 c2 c3;clear h
 go_enter Tryz.func160,Tryz.ntmps160
 go_wp2_with fail
 refine Calls.mono HA.out ?_;rintro e w1 ⟨rfl,F',h1,Ha,tH⟩;have H1:U _:=(⟨h1,Ha,tH⟩:_/\_/\_);clear h1 Ha tH HA
 go_wp2
 go_end0
 exact⟨rfl,F',H1.out⟩
theorem yc9 {ad Pj:Option Addr} {cap cap':Nat} {L:List Pg.Mp} (w:uc) (h:zm w ad L) (h':zm w Pj L) (hl:L.length<=5000):
 yY M 165 #[ud ad L.length cap,ud Pj L.length cap'] w fun e w'=>e=ur (kp yV)/\Lw w w':=by
 have HA:U (zm w ad L):=h;have HB:U (zm w Pj L):=h';clear h h'
 go_enter Tryz.func165,Tryz.ntmps165
 go_wp2
 go_loopw [13] (fun i wr=>∃j:Nat,j<=L.length/\i=J I j/\U (Lw w wr)) (fun i _=>L.length-(intOf i).toNat)
 case atStart=>exact⟨0,by omega,rfl,zR _⟩
 case round=>
  obtain⟨j,hj,rfl,HR⟩:=hrel
  have i0:(0:Int)<=(j:Int):=by omega
  by_cases Hf:j<L.length
  ·obtain⟨g,rfl,hg,hm⟩:=zm.below HA.out HR.out j Hf
   obtain⟨g',rfl,hg',kQ⟩:=zm.below HB.out HR.out j Hf;obtain⟨k0,k1,k2,k3⟩:=hm;obtain⟨m0,m1,m2,m3⟩:=kQ
   have i1:(j:Int)<(L.length:Int):=by omega
   have fin:U (∀nq,Lw w (wr.drewN nq)):=fun nq=>zT HR.out (below_drewN (zR _) nq);generalize L.getD j .zz=x at*;obtain⟨p,s,f,r⟩:=x;simp only at k0 k1 k2 k3 m0 m1 m2 m3
   go_wp2
   go_quiet (fail)
   go_wp2_with fail
   exact⟨⟨j+1,by omega,by go_num,fin.out _⟩,by simp[intOf];omega⟩
  ·have i1:¬(j:Int)<(L.length:Int):=by omega
   go_wp2
   go_ret
   exact⟨rfl,HR.out⟩
end
section
open Go.Sort
namespace Tk
variable {w0 wc wd:uc} {bf:Nat} {F F':Nat->Prop} {S S':Pg.Fs}
end Tk
theorem ygS (S:Pg.Fs):S.take.n=S.n:=by
 unfold Pg.Fs.take;split
 ·rfl
 ·split<;>rfl
theorem yle (p s:Int):∀(lv:Nat) (S:Pg.Fs) (t:Int),(Pg.insW p s lv S t).1.n=S.n
 | 0,S,t=>rfl
 | lv+1,S,t=>by
   rw[Pg.insW];split
   ·rfl
   ·rw[yle p s lv,(Pg.yix _ _ _ _).1,ygS]
theorem yaZ:∀(G:List Int) (x:Int) (S:Pg.Fs),Pg.gives (G++[x]) S=(Pg.gives G S).give x
 | [],x,S=>rfl
 | y::r,x,S=>by
   show Pg.gives (r++[x]) (S.give y)=_
   rw[yaZ r x (S.give y)];rfl
namespace Pg
end Pg
end
end Go.Proofs.YtdphiompijbelaaGreat
