import Derived.Test.YtdphiompijbelaaGreatTabI
import Derived.BigRegion
set_option linter.all false
set_option maxRecDepth 100000
open Go renaming World->L,bodyPost_ret->kP,Calls->kR
open Go.Proofs.Tryz renaming prog->A
open Go.Ending renaming returned->E
open Bool renaming false->M,true->kS
open Go.RowKit renaming Hid->O
open List renaming length_singleton->U,length_append->K,take_length->X
open Go.IntKind renaming i64->V
open Go.Value renaming int->C,slice->Q,slice->D,pointer->f,bool->kI,tuple->kJ,ownBlock->kC,agg->kN
open Option renaming none->J,some->Z
open Go.World renaming cell?_of_block->I,block_lt_of_cell?->z,frozen?_of_block->d
set_option maxHeartbeats 4000000
namespace Go.Proofs.YtdphiompijbelaaGreat
open Go.RowKit Go.Sort
theorem ydy {S:Pg.Fs} {t:Int} (ht:S.has t=kS):(Pg.yg1 S t=kS ↔ ∀j:Nat,j<8->S.load t (j:Int)=0):=by
 unfold Pg.yg1;simp only[List.all_eq_true,List.mem_range,beq_iff_eq];refine forall_congr' fun j=>forall_congr' fun hj=> ?_
 have:S.at' t (j:Int)=kS:=by simp[Pg.Fs.at',ht];omega
 simp[Pg.Fs.load,this]
theorem jX {w0 w:L} {k b:Nat} {F0:Nat->Prop} {S:Pg.Fs} {lv:Int} {e:Pg.En} {ts ps:List Int} {p t:Int} (h:St w0 w k b F0 S lv e (ts++[t]) ps p) (hl:ts.length<4000) (ht:S.has t=kS):
 kR A 136 #[f (Z ⟨k,0,J⟩)] w fun en w'=>en=E (kI (Pg.yg1 S t))/\Below w.heap.size w w':=by
 have HS:O _:=h;have HE:O _:=ydy ht
 have hlen:(ts++[t]).length=ts.length+1:=by simp
 clear h ht;generalize Pg.yg1 S t=em at*
 go_enter Tryz.func136,Tryz.ntmps136
 go_wp2_with fail
 go_loopw [6] (fun i wr=>∃j:Nat,j<=8/\i=C V j/\O (Below w.heap.size w wr/\∀m:Nat,m<j->S.load t (m:Int)=0)) (fun i _=>8-(intOf i).toNat)
 case atStart=>exact⟨0,by omega,rfl,zR _,fun m hm=>by omega⟩
 case round=>
  obtain⟨j,hj,rfl,HR⟩:=hrel
  have i0:(0:Int)<=(j:Int):=by omega
  have hS:=HS.out.grow HR.out.1;obtain⟨B,v1,v2,F,hM,hF,hB,h1,h2,hBB,hm⟩:=hS.body;obtain⟨g1,cap1,rfl,hc,_⟩:=jq hM.o1;have k0:=hM.c0;have k8:=hM.c8;have HEnd:=fun m=>yaK (hS.grow (below_drewN (zR wr) m)) (by rw[hlen];omega)
  have e1:(((ts++[t]).length:Nat):Int)-1=(ts.length:Int):=by rw[hlen];omega
  rw[e1]at HEnd;have HLo:=fun m=>ja t (j:Int) (wr.drewN m) (hF.keep (G:=fun _=>False) (But.ygr (below_drewN (zR wr) m)) fun _ _=>id);clear hM hB h1 h2 hS hF e1 hBB hm
  have i2:(0:Int)<=(ts.length:Int):=by omega
  have i3:(ts.length:Int)<(ts.length:Int)+1:=by omega
  have HX:O (S.load t (j:Int)=0->∀m:Nat,m<j+1->S.load t (m:Int)=0):=fun hz m hm=>by
   by_cases e:m=j
   ·rw[e];exact hz
   ·exact HR.out.2 m (by omega)
  by_cases hlt:j<8
  ·have i1:(j:Int)<8:=by omega
   have HJ:O _:=hlt;have fin:O (∀nq,Below w.heap.size w (wr.drewN nq)):=fun nq=>zT HR.out.1 (below_drewN (zR _) nq);generalize hx:S.load t (j:Int)=x at*;have HXX:O _:=hx;clear hx;generalize S.at' t (j:Int)=at' at*;generalize ts.length=n at*
   by_cases hz:x=0
   ·have HZ:O _:=HX.out hz
    have hzb:(x !=0)=M:=by simp[hz]
    clear hz HX
    go_wp2_with fail
    go_quiet (first
     | (go_at_call 170;exact Calls.quiet_of_same (HEnd _))
     | (go_at_call 171;exact Calls.quiet_of_same (HLo _)))
    go_wp2_with fail
    exact⟨⟨j+1,by omega,by go_num,fin.out _,HZ.out⟩,by simp[intOf];omega⟩
   ·have HZ:O _:=hz
    have hzb:(x !=0)=kS:=by simp[hz]
    clear hz HX
    go_wp2_with fail
    go_quiet (first
     | (go_at_call 170;exact Calls.quiet_of_same (HEnd _))
     | (go_at_call 171;exact Calls.quiet_of_same (HLo _)))
    go_wp2_with fail
    go_ret
    refine⟨xi ?_,fin.out _⟩;cases em
    ·rfl
    ·exact absurd (HXX.out▸(HE.out.1 rfl j HJ.out)) HZ.out
  ·have i1:¬(j:Int)<8:=by omega
   have e8:j=8:=by omega
   subst e8;clear HEnd HLo k0 k8
   go_wp2_with fail
   go_ret
   exact⟨xi (HE.out.2 fun m hm=>HR.out.2 m hm).symm,HR.out.1⟩
theorem jm (ts:List Int) (t:Int):zr (ts++[t])=zr ts++[C V t]:=by simp[zr]
theorem Mk.pop {w:L} {B k b:Nat} {lv:Int} {e:Pg.En} {g1 g2 n c1 c2:Nat} {T P:List Int} {p t q:Int} (h:Mk w B k b lv e (Q (Z ⟨g1,0,J⟩) (n+1) c1) (Q (Z ⟨g2,0,J⟩) (n+1) c2) (T++[t]) (P++[q]) p) (hT:T.length=n) (hP:P.length=n):
 Mk ((w.setCell ⟨k,8,J⟩ (Q (Z ⟨g1,0,J⟩) n c1)).setCell ⟨k,9,J⟩ (Q (Z ⟨g2,0,J⟩) n c2)) B k b lv e (Q (Z ⟨g1,0,J⟩) n c1) (Q (Z ⟨g2,0,J⟩) n c2) T P p:=by
 have hb:But (fun j=>j=k) w ((w.setCell ⟨k,8,J⟩ (Q (Z ⟨g1,0,J⟩) n c1)).setCell ⟨k,9,J⟩ (Q (Z ⟨g2,0,J⟩) n c2)):=
  ((But.refl (fun j=>j=k) w).setCell (a:=⟨k,8,J⟩) (.inr rfl) _).setCell (a:=⟨k,9,J⟩) (.inr rfl) _
 have o1:=h.o1;have o2:=h.o2;rw[K,U,hT,jm]at o1;rw[K,U,hP,jm]at o2;have p1:w.ownsRow B 3 1 (Q (Z ⟨g1,0,J⟩) n c1) n (zr T):=ownsRow_pop (by simp[zr,hT]) o1;have p2:w.ownsRow B 3 1 (Q (Z ⟨g2,0,J⟩) n c2) n (zr P):=ownsRow_pop (by simp[zr,hP]) o2;have n1:(D (Z ⟨g1,0,J⟩) n c1).ownBlock≠Z k:=h.n1;have n2:(D (Z ⟨g2,0,J⟩) n c2).ownBlock≠Z k:=h.n2;refine⟨?_,?_,?_,?_,?_,?_,?_,?_,?_,?_,?_,fun o=> ?_,?_,?_,h.ne,n1,n2,h.hi⟩
 iterate 12 (focus (simp[go_sem,h.c0,h.c1,h.c2,h.c3,h.c4,h.c5,h.c6,h.c7,h.c8,h.c9,h.c10,h.fz]))
 ·rw[hT]
  exact zb p1 hb fun j hj e=>n1 (e▸hj)
 ·rw[hP]
  exact zb p2 hb fun j hj e=>n2 (e▸hj)
theorem ycv (lv:Int):Pg.enc M M 0 M M 0 lv=0:=by
 unfold Pg.enc;split
 ·simp[Pg.yg2]
 ·rfl
theorem ye7 {w0 w:L} {k b:Nat} {F0:Nat->Prop} {S:Pg.Fs} {lv:Int} {e:Pg.En} {ts ps:List Int} {p t q t' q':Int} (h:St w0 w k b F0 S lv e (ts++[t']++[t]) (ps++[q']++[q]) p) (hlen:ts.length=ps.length) (hl:ts.length<4000) (hv0:0<=lv) (hv1:lv<100):
 kR A 137 #[f (Z ⟨k,0,J⟩)] w fun en w'=>en=E (C V t)/\St w0 w' k b F0 (S.store t' q' 0) (lv+1) Pg.En.zero (ts++[t']) (ps++[q']) p:=by
 have hT:(ts++[t']).length=ts.length+1:=by simp
 have hP:(ps++[q']).length=ts.length+1:=by simp[hlen]
 have HP:∀w1 e1,St w0 w1 k b F0 S (lv+1) e1 (ts++[t']) (ps++[q']) p->kR A 134 #[f (Z ⟨k,0,J⟩),kN #[kI M,kI M,C V 0,kI M,kI M,C V 0]] w1 fun en w'=>en=E (kJ #[])/\St w0 w' k b F0 (S.store t' q' 0) (lv+1) Pg.En.zero (ts++[t']) (ps++[q']) p:=fun w1 e1 h1=>by
  have:=vF Pg.En.zero h1 hlen (by omega);simp only[Pg.En.zero,Pg.En.val,ycv]at this;exact this
 have HEnd:=yaK h (by rw[K,U,hT];omega)
 have e1:(((ts++[t']++[t]).length:Nat):Int)-1=((ts.length+1:Nat):Int):=by rw[K,U,hT];omega
 rw[e1]at HEnd;obtain⟨B,v1,v2,F,hM,hF,hB,h1,h2,hBB,hm⟩:=h.body;obtain⟨g1,cap1,rfl,hc1,hcap1⟩:=jq hM.o1;obtain⟨g2,cap2,rfl,hc2,hcap2⟩:=jq hM.o2;rw[hT]at hc1 hcap1;rw[hP]at hc2 hcap2
 have hM2:Mk w B k b lv e (Q (Z ⟨g1,0,J⟩) (ts.length+1+1) cap1) (Q (Z ⟨g2,0,J⟩) (ts.length+1+1) cap2) (ts++[t']++[t]) (ps++[q']++[q]) p:=by have:=hM;rw[hT,hP]at this;exact this
 have h2':∀j,F j->¬mkF k (Q (Z ⟨g1,0,J⟩) (ts.length+1+1) cap1) (Q (Z ⟨g2,0,J⟩) (ts.length+1+1) cap2) j:=by have:=h2;rw[hT,hP]at this;exact this
 have k1:=hM2.c1;have k8:=hM2.c8;have k9:=hM2.c9;have kf:=hM2.fz;have HM:O _:=hM2;have HF:O (zd w b S F):=hF;have HBt:O _:=hB;have H1:O _:=h1;have H2:O _:=h2'
 have hm':∀j,mkF k (Q (Z ⟨g1,0,J⟩) (ts.length+1+1) cap1) (Q (Z ⟨g2,0,J⟩) (ts.length+1+1) cap2) j->F0 j\/w0.heap.size<=j:=by have:=hm;rw[hT,hP]at this;exact this
 have Hm:O _:=hm';have HBB:O _:=hBB;clear hM hF hB h1 h2 h hM2 h2' e1 hlen hm hm' hBB;generalize ts++[t']=T at*;generalize ps++[q']=P at*;generalize S.store t' q' 0=S' at*;generalize ts.length=m at*
 have i0:(0:Int)<=((m+1:Nat):Int):=by omega
 have i1:((m+1:Nat):Int)<((m+1+1:Nat):Int):=by omega
 have i2:((m+1:Nat):Int)<=(cap1:Int):=by omega
 have i3:((m+1:Nat):Int)<=(cap2:Int):=by omega
 generalize hn:m+1=n at*;have HN:O _:=hn;clear hn
 go_enter Tryz.func137,Tryz.ntmps137
 go_wp2_with fail
 refine HEnd.mono ?_;rintro en w1 ⟨rfl,rfl⟩
 go_wp2_with fail
 go_region
 have M2:O _:=(HM.out.yiL (lv+1)).pop hT hP
 have bt:O (But (fun j=>j=k) w1 (((w1.setCell ⟨k,1,J⟩ (C V (lv+1))).setCell ⟨k,8,J⟩ (Q (Z ⟨g1,0,J⟩) n cap1)).setCell ⟨k,9,J⟩ (Q (Z ⟨g2,0,J⟩) n cap2))):=
  (((But.refl (fun j=>j=k) w1).setCell (a:=⟨k,1,J⟩) (.inr rfl) _).setCell (a:=⟨k,8,J⟩) (.inr rfl) _).setCell (a:=⟨k,9,J⟩) (.inr rfl) _
 have S2:O (St w0 (((w1.setCell ⟨k,1,J⟩ (C V (lv+1))).setCell ⟨k,8,J⟩ (Q (Z ⟨g1,0,J⟩) n cap1)).setCell ⟨k,9,J⟩ (Q (Z ⟨g2,0,J⟩) n cap2)) k b F0 S (lv+1) e T P p):=
  St.step HM.out HF.out HBt.out H1.out H2.out HBB.out Hm.out M2.out bt.out (fun j hj=> .inl hj) (fun j hj=> .inl hj)
 have S3:O (St w0 ((((w1.setCell ⟨k,1,J⟩ (C V (lv+1))).setCell ⟨k,8,J⟩ (Q (Z ⟨g1,0,J⟩) n cap1)).setCell ⟨k,9,J⟩ (Q (Z ⟨g2,0,J⟩) n cap2)).drew) k b F0 S (lv+1) e T P p):=S2.out.grow (zR _).drew;have HP3:=HP _ e S3.out;have HP3b:=HP _ e S2.out;clear HP HEnd k1 k8 k9 kf hc1 hc2
 go_wp2_with fail
 first
  | refine HP3.mono ?_
  | refine HP3b.mono ?_
 rintro en w2 ⟨rfl,hS⟩;have HS:O _:=hS;clear hS HP3 HP3b
 go_wp2_with fail
 go_ret
 exact⟨rfl,HS.out⟩
theorem St.rebase {w0 w:L} {k b:Nat} {F0:Nat->Prop} {S:Pg.Fs} {lv:Int} {e:Pg.En} {ts ps:List Int} {p:Int} (h:St w0 w k b F0 S lv e ts ps p):
 ∃H:Nat->Prop,St w w k b H S lv e ts ps p/\(∀j,H j->F0 j\/w0.heap.size<=j)/\∀j,H j->j<w.heap.size:=by
 obtain⟨B,v1,v2,F,hM,hF,hB,h1,h2,hBB,hm⟩:=h.body;refine⟨fun j=>F j\/mkF k v1 v2 j,⟨B,v1,v2,F,hM,hF,But.refl _ _,fun j hj=> .inl (.inl hj),h2,hBB,fun j hj=> .inl (.inr hj)⟩,fun j hj=>hj.elim (h1 j) (hm j),fun j hj=>hj.elim (fun h=>hF.lt h) fun h=>(hM.lt h).2⟩
theorem St.other {w0 w w':L} {k b:Nat} {H:Nat->Prop} {S:Pg.Fs} {lv:Int} {e:Pg.En} {ts ps:List Int} {p:Int} (h:St w0 w k b H S lv e ts ps p) {G:Nat->Prop} (hb:But G w w') (hG:∀j,G j->j<w0.heap.size/\¬H j):
 ∃H':Nat->Prop,St w' w' k b H' S lv e ts ps p/\(∀j,H' j->H j\/w0.heap.size<=j)/\∀j,H' j->j<w.heap.size:=by
 obtain⟨B,v1,v2,F,hM,hF,hB,h1,h2,hBB,hm⟩:=h.body
 have n1:∀j,F j->¬G j:=fun j hj hg=>by
  obtain⟨g1,g2⟩:=hG j hg;rcases h1 j hj with h|h
  ·exact g2 h
  ·omega
 have n2:∀j,mkF k v1 v2 j->¬G j:=fun j hj hg=>by
  obtain⟨g1,g2⟩:=hG j hg;rcases hm j hj with h|h
  ·exact g2 h
  ·omega
 exact⟨fun j=>F j\/mkF k v1 v2 j,⟨B,v1,v2,F,hM.keep hb n2,hF.keep hb n1,But.refl _ _,fun j hj=> .inl (.inl hj),h2,Nat.le_trans hBB hb.size,fun j hj=> .inl (.inr hj)⟩,fun j hj=>hj.elim (h1 j) (hm j),fun j hj=>hj.elim (fun h=>hF.lt h) fun h=>(hM.lt h).2⟩
def qJ (p:Int) (ts:List Int) (n:Nat) (S:Pg.Fs) (G:List Int):Pg.Fs×List Int:=
 if n<=1\/Pg.yg1 S (ts.getD (n-1) 0)=M then(S,G)else Pg.rmW p ts (n-1) S (G++[ts.getD (n-1) 0])
theorem yaS (p:Int) (ts:List Int) (m:Nat) (S:Pg.Fs) (G:List Int):Pg.rmW p ts (m+1) S G=qJ p ts (m+1) (S.store (ts.getD m 0) (Pg.index p (3-(m:Int))) 0) G:=by
 unfold qJ;rw[Pg.rmW]
 by_cases h:m=0\/Pg.yg1 (S.store (ts.getD m 0) (Pg.index p (3-(m:Int))) 0) (ts.getD m 0)=M
 ·rw[if_pos h,if_pos (by simpa using h.imp (fun e=>by omega) id)]
 ·rw[if_neg h,if_neg (by intro hh;exact h (by simpa using hh.imp (fun e=>by omega) id))]
  simp
theorem xA (l:List Int) (m:Nat) (h:m<l.length):l.take (m+1)=l.take m++[l.getD m 0]:=by
 rw[List.take_succ_eq_append_getElem h];simp[List.getD,h]
structure ye0 (w:L) (b:Nat) (F:Nat->Prop) (S S':Pg.Fs) (m:Pg.Mp) (G:List Int) (c:Int) (en:Ending) (w':L):Prop where
 body:∃ad cap F',en=E (kJ #[m.val,Q ad G.length cap,C V c])/\zh w' ad G/\zd w' b S' F'/\But F w w'/\(∀k,F' k->F k\/w.heap.size<=k)/\∀g,ad=Z ⟨g,0,J⟩->w.heap.size<=g/\¬F' g
def lenOf:Value->Nat
 | Q _ n _=>n
 | _=>0
structure ye4 (W5 wr:L) (k b:Nat) (H0 Hc:Nat->Prop) (Si:Pg.Fs) (ei:Pg.En) (T P:List Int) (n:Nat) (p:Int) (vg:Value) (Gi:List Int) (R:Pg.Fs×List Int):Prop where
 st:St wr wr k b Hc Si (4-(n:Int)) ei (T.take n) (P.take n) p
 but:But H0 W5 wr
 hc:∀j,Hc j->H0 j\/W5.heap.size<=j
 lt:∀j,Hc j->j<wr.heap.size
 own:wr.ownsRow W5.heap.size 3 1 vg Gi.length (zr Gi)
 far:∀j,vg.ownBlock=Z j->¬Hc j
 has:∀x,x ∈ T->Si.has x=kS
 rest:qJ p T n Si Gi=R
theorem ybw {w W1 W5 wr w7:L} {k b n:Nat} {F H0 Hc:Nat->Prop} {S Si:Pg.Fs} {ei:Pg.En} {T P Gi:List Int} {p:Int} {ga:Option Addr} {gc:Nat} {R:Pg.Fs×List Int} (HI:ye4 W5 wr k b H0 Hc Si ei T P n p (Q ga Gi.length gc) Gi R) (hb:Below wr.heap.size wr w7) (H:zd w b S F) (hB5:But F w W5) (hH0:∀j,H0 j->F j\/W1.heap.size<=j) (hlw:w.heap.size<W1.heap.size) (h15:W1.heap.size<=W5.heap.size) (a0 a1 a2 a3:Value) (m:Pg.Mp) (c:Int):
 ye0 w b F S Si m Gi c (E (kJ #[m.val,Q ga Gi.length gc,C V c])) ((((w7.setCell ⟨w.heap.size,0,J⟩ a0).setCell ⟨w.heap.size,1,J⟩ a1).setCell ⟨w.heap.size,2,J⟩ a2).setCell ⟨w.heap.size,3,J⟩ a3):=by
 obtain⟨F2,hF,hB,h1⟩:=HI.st.leaves
 have hFc:∀j,F2 j->Hc j:=fun j hj=>by
  rcases h1 j hj with h|h
  ·exact h
  ·have:=hF.lt hj;omega
 have hFf:∀j,F2 j->F j\/W1.heap.size<=j:=fun j hj=>by
  rcases HI.hc j (hFc j hj)with h|h
  ·exact hH0 j h
  ·exact .inr (by omega)
 have hbt:But (fun j=>j=w.heap.size) wr ((((w7.setCell ⟨w.heap.size,0,J⟩ a0).setCell ⟨w.heap.size,1,J⟩ a1).setCell ⟨w.heap.size,2,J⟩ a2).setCell ⟨w.heap.size,3,J⟩ a3):=by
  iterate 4 refine But.setCell ?_ (by exact .inr rfl) _
  exact But.ygr hb
 refine⟨ga,gc,F2,rfl,?_,hF.keep hbt fun j hj e=> ?_,?_,fun j hj=>(hFf j hj).imp id fun h=>by omega,fun g hg=> ?_⟩
 ·exact qb (cap:=gc) (n:=Gi.length) (zb HI.own hbt fun j hj e=>by have:=(HI.own.lt j hj).1;omega)
 ·rcases hFf j hj with h|h
  ·have:=H.lt h;omega
  ·omega
 ·refine(hB5.trans HI.but fun i hi h=> ?_).trans hbt fun i hi e=>by omega
  rcases hH0 i h with h|h
  ·exact h
  ·omega
 ·subst hg
  have:=(HI.own.lt g rfl).1;exact⟨by omega,fun h=>HI.far g rfl (hFc g h)⟩
theorem ycl {b:Nat} {S:Pg.Fs} {F:Nat->Prop} (t p:Int) (w:L) (h:zd w b S F):
 kR A 89 #[f (Z ⟨b,0,J⟩),C V t,C V p] w fun en w'=>ye0 w b F S (Pg.rmR S t p).1 (Pg.tFM S t p) (Pg.rmR S t p).2 (Pg.tFC S t p) en w':=by
 have H:O (zd w b S F):=h;obtain⟨W1,hW1⟩:∃W1,W1=w.alloc (.cells #[C V 0,C V 0,C V 0,C V 0] 39):=⟨_,rfl⟩
 have hB1:Below w.heap.size w W1:=by rw[hW1];exact zA (zR w) _
 have r4:W1.cell? ⟨w.heap.size,0,J⟩=Z (C V 0)/\W1.cell? ⟨w.heap.size,1,J⟩=Z (C V 0)/\W1.cell? ⟨w.heap.size,2,J⟩=Z (C V 0)/\W1.cell? ⟨w.heap.size,3,J⟩=Z (C V 0):=by rw[hW1];simp[go_sem]
 have rf4:∀o,W1.frozen? ⟨w.heap.size,o,J⟩=M:=fun o=>by rw[hW1];simp[go_sem]
 have HR4:O _:=r4;have HF4:O _:=rf4;have HB1:O _:=hB1;have hlw:w.heap.size<W1.heap.size:=z _ _ r4.1;have HW:=xQ t p W1 (h.keep (G:=fun _=>False) (But.ygr hB1) fun _ _=>id)
 by_cases hc:Pg.tFC S t p=0
 ·have hz:qq S t p=0:=by
   by_cases hz:qq S t p=0
   ·exact hz
   ·rw[Pg.tFC,if_pos hz]at hc
    exact absurd hc hz
  obtain⟨Y,s,lv,hY,W,hsl,hl3,hY3,hpl,hix⟩:=qK hz;have hhas:=W.has;have hlenX:=W.len
  have e5:Pg.tFM S t p=s.e.map (lv:Int) p:=by rw[Pg.tFM,if_pos hc,hY,W.ygv,W.ygw]
  have eR:Pg.rmR S t p=Pg.rmW p (tabs (Y++[s])) (Y.length+1) S []:=by rw[Pg.rmR,if_pos hc,hY];simp
  have hps:∀i,i<Y.length+1->(qz (Y++[s])).getD i 0=Pg.index p (3-(i:Int)):=fun i hi=>by
   have:=(yam S t p (i:=i) (by rw[hY];simpa using hi)).2.2;rw[hY]at this;exact this
  rw[hc,e5,eR];rw[hc,hY,W.ygw,W.ygv]at HW
  have hlT:(tabs (Y++[s])).length=Y.length+1:=by rw[xM];simp
  have hlP:(qz (Y++[s])).length=Y.length+1:=by rw[j9];simp
  rw[K,U]at hlenX;clear hc hz W hY hsl hpl hix h e5 eR r4 rf4 hB1;generalize tabs (Y++[s])=T at*;generalize qz (Y++[s])=P at*;generalize Y.length=N at*;generalize hee:s.e=e at*;clear hee;generalize hmm:e.map (lv:Int) p=mm at*;have HMM:O _:=hmm;clear hmm;obtain⟨mp,ms,mf,mr⟩:=mm;rw[yaS]
  go_enter Tryz.func89,Tryz.ntmps89
  go_wp2_with fail
  rw[<-hW1];clear hW1;refine HW.mono ?_;rintro en w3 ⟨k,rfl,hS,hb3⟩;have HMap:=qv hS;rw[HMM.out]at HMap;simp only[Pg.Mp.val]at HMap;have HS3:O _:=hS;have HB3:O (Below W1.heap.size W1 w3):=hb3;clear hS hb3 HW
  go_wp2_with fail
  refine HMap.mono ?_;rintro en w4 ⟨rfl,hb4⟩;have HB4:O (Below w3.heap.size w3 w4):=hb4;clear hb4 HMap;obtain⟨W5,hW5⟩:∃W5,W5=w4.alloc (.cells #[C V mp,C V ms,C V mf,C V mr] 39):=⟨_,rfl⟩
  have hB5:Below w3.heap.size w3 W5:=by rw[hW5];exact zA HB4.out _
  have m4:W5.cell? ⟨w4.heap.size,0,J⟩=Z (C V mp)/\W5.cell? ⟨w4.heap.size,1,J⟩=Z (C V ms)/\W5.cell? ⟨w4.heap.size,2,J⟩=Z (C V mf)/\W5.cell? ⟨w4.heap.size,3,J⟩=Z (C V mr):=by rw[hW5];simp[go_sem]
  have hl45:w4.heap.size<W5.heap.size:=z _ _ m4.1;have Z5:O _:=xc (zT HB3.out hB5) HR4.out;have ZF5:O (∀o,W5.frozen? ⟨w.heap.size,o,J⟩=M):=fun o=>((zT HB3.out hB5).frozen (p:=⟨w.heap.size,o,J⟩) hlw).trans (HF4.out o)
  have hS6:∃H0':Nat->Prop,St W5 W5 k b H0' S (lv:Int) e T P p/\(∀j,H0' j->F j\/W1.heap.size<=j)/\∀j,H0' j->j<w4.heap.size:=by
   obtain⟨H',q1,q2,q3⟩:=(HS3.out.grow HB4.out).other (w':=W5) (G:=fun _=>False) (by rw[hW5];exact But.ygr (zA (zR _) _)) fun _ h=>h.elim;exact⟨H',q1,q2,q3⟩
  obtain⟨H0,hS5,hH0,hH0'⟩:=hS6
  have HP2:kR A 134 #[f (Z ⟨k,0,J⟩),kN #[kI M,kI M,C V 0,kI M,kI M,C V 0]] W5 fun en w'=>en=E (kJ #[])/\St W5 w' k b H0 (S.store (T.getD N 0) (Pg.index p (3-(N:Int))) 0) (lv:Int) Pg.En.zero (T.take (N+1)) (P.take (N+1)) p:=by
   have eT:T=T.take N++[T.getD N 0]:=by rw[<-xA T N (by omega),<-hlT,X]
   have eP:P=P.take N++[Pg.index p (3-(N:Int))]:=by rw[<-hps N (by omega),<-xA P N (by omega),<-hlP,X]
   have hS7:St W5 W5 k b H0 S (lv:Int) e (T.take N++[T.getD N 0]) (P.take N++[Pg.index p (3-(N:Int))]) p:=by rw[<-eT,<-eP];exact hS5
   have:=vF Pg.En.zero hS7 (by simp;omega) (by simp;omega);simp only[Pg.En.zero,Pg.En.val,ycv]at this;rw[<-eT,<-eP]at this
   have t1:T.take (N+1)=T:=by rw[<-hlT,X]
   have t2:P.take (N+1)=P:=by rw[<-hlP,X]
   rw[t1,t2];exact this
  have M5:O _:=m4;have HBt5:O (But F w W5):=(But.ygr HB1.out).trans ((HS3.out.but).trans (But.ygr (F:=fun _=>False) hB5) fun _ _ h=>h.elim) fun _ _ h=>h;have HH0:O _:=hH0;have HH0':O _:=hH0';have hl15:W1.heap.size<=W5.heap.size:=Nat.le_trans HB3.out.size hB5.size;clear hS5 hH0 hH0' m4 hB5 HS3
  have hlv:(lv:Int)=4-((N+1:Nat):Int):=by omega
  rw[hlv]at HP2;generalize hR:qJ p T (N+1) (S.store (T.getD N 0) (Pg.index p (3-(N:Int))) 0) []=R at*;have HRR:O _:=hR;clear hR
  have hhas':∀x,x ∈ T->(S.store (T.getD N 0) (Pg.index p (3-(N:Int))) 0).has x=kS:=fun x hx=>by rw[Pg.yhi];exact hhas x hx
  have HHS:O _:=hhas';clear hhas hhas'
  go_wp2_with fail
  rw[<-hW5];clear hW5;refine HP2.mono ?_;rintro en w6 ⟨rfl,h6⟩;have HS6:O _:=h6;clear h6 HP2
  go_wp2_with fail
  go_loopw [12] (fun vg wr=>∃(n:Nat) (Si:Pg.Fs) (ei:Pg.En) (Gi:List Int) (Hc:Nat->Prop),1<=n/\Gi.length+n=N+1/\O (ye4 W5 wr k b H0 Hc Si ei T P n p vg Gi R)) (fun vg _=>10-lenOf vg)
  case atStart=>
   obtain⟨Hc,q1,q2,q3⟩:=HS6.out.rebase;exact⟨N+1,_,_,[],Hc,by omega,by simp,q1,HS6.out.but,q2,q3,World.ownsRow_nil _ _ _ _,fun j hj=>by simp[kC]at hj,HHS.out,HRR.out⟩
  case round=>
   obtain⟨n,Si,ei,Gi,Hc,hn1,hgn,HI⟩:=hrel
   have hTn:(T.take n).length=n:=by simp;omega
   have HBR:=vu HI.out.st (by omega);rw[hTn]at HBR;obtain⟨ga,gc,hvg⟩:=zF HI.out.own;subst hvg
   by_cases h1:n=1
   ·subst h1
    have hb1:decide (1<1)=M:=by decide
    rw[hb1]at HBR
    have HFin:O (R=(Si,Gi)):=by rw[O,<-HI.out.rest,qJ,if_pos (by left;omega)]
    go_wp2_with fail
    refine HBR.mono ?_;rintro en w7 ⟨rfl,hw7⟩;have hb7:Below wr.heap.size wr w7:=hw7▸zR wr;clear hw7
    have hbw:w7.heap[w.heap.size]?=W5.heap[w.heap.size]?:=by
     have q1:=HI.out.but.block w.heap.size (by omega) fun h=>by
      rcases HH0.out _ h with h|h
      ·have:=zd.lt H.out h;omega
      ·omega
     exact(hb7.block _ (by have:=HI.out.but.size;omega)).trans q1
    have hbm:w7.heap[w4.heap.size]?=W5.heap[w4.heap.size]?:=by
     have q1:=HI.out.but.block w4.heap.size (by omega) fun h=>by have:=HH0'.out _ h;omega
     exact(hb7.block _ (by have:=HI.out.but.size;omega)).trans q1
    have z0:=(I hbw).trans Z5.out.1;have z1:=(I hbw).trans Z5.out.2.1;have z2:=(I hbw).trans Z5.out.2.2.1;have z3:=(I hbw).trans Z5.out.2.2.2;have zf:∀o,w7.frozen? ⟨w.heap.size,o,J⟩=M:=fun o=>(d hbw).trans (ZF5.out o);have m0:=(I hbm).trans M5.out.1;have m1:=(I hbm).trans M5.out.2.1;have m2:=(I hbm).trans M5.out.2.2.1;have m3:=(I hbm).trans M5.out.2.2.2;have fin:O _:=ybw HI.out hb7 H.out HBt5.out HH0.out hlw hl15 (C V mp) (C V ms) (C V mf) (C V mr) ⟨mp,ms,mf,mr⟩ 0;clear hbw hbm hb7 HBR
    go_wp2_with fail
    refine kP (v:=kJ #[kN #[C V mp,C V ms,C V mf,C V mr],Q ga Gi.length gc,C V 0]) ?_ rfl ?_
    ·simp[results,Tryz.results89,go_sem,z0,z1,z2,z3]
    ·rw[HRR.out,HFin.out]
     exact fin.out
   ·obtain⟨m,rfl⟩:∃m,n=m+2:=⟨n-2,by omega⟩
    have hb1:decide (1<m+2)=kS:=by simp
    rw[hb1]at HBR
    have eT:T.take (m+2)=T.take m++[T.getD m 0]++[T.getD (m+1) 0]:=by rw[xA T (m+1) (by omega),xA T m (by omega)]
    have eT1:T.take (m+2)=T.take (m+1)++[T.getD (m+1) 0]:=xA T (m+1) (by omega)
    have eP:P.take (m+2)=P.take m++[P.getD m 0]++[P.getD (m+1) 0]:=by rw[xA P (m+1) (by omega),xA P m (by omega)]
    have hin:T.getD (m+1) 0 ∈ T:=by
     have:m+1<T.length:=by omega
     simp[List.getD,this]
    have HTE:kR A 136 #[f (Z ⟨k,0,J⟩)] wr fun en w'=>en=E (kI (Pg.yg1 Si (T.getD (m+1) 0)))/\Below wr.heap.size wr w':=jX (by rw[<-eT1];exact HI.out.st) (by simp;omega) (HI.out.has _ hin);cases hem:Pg.yg1 Si (T.getD (m+1) 0)
    ·rw[hem]at HTE
     have HFin:O (R=(Si,Gi)):=by rw[O,<-HI.out.rest,qJ,if_pos (by right;exact hem)]
     go_wp2_with fail
     refine HBR.mono ?_;rintro en w7 ⟨rfl,hw7⟩;subst w7
     go_wp2_with fail
     refine HTE.mono ?_;rintro en w7 ⟨rfl,hb7⟩
     have hbw:w7.heap[w.heap.size]?=W5.heap[w.heap.size]?:=by
      have q1:=HI.out.but.block w.heap.size (by omega) fun h=>by
       rcases HH0.out _ h with h|h
       ·have:=zd.lt H.out h;omega
       ·omega
      exact(hb7.block _ (by have:=HI.out.but.size;omega)).trans q1
     have hbm:w7.heap[w4.heap.size]?=W5.heap[w4.heap.size]?:=by
      have q1:=HI.out.but.block w4.heap.size (by omega) fun h=>by have:=HH0'.out _ h;omega
      exact(hb7.block _ (by have:=HI.out.but.size;omega)).trans q1
     have z0:=(I hbw).trans Z5.out.1;have z1:=(I hbw).trans Z5.out.2.1;have z2:=(I hbw).trans Z5.out.2.2.1;have z3:=(I hbw).trans Z5.out.2.2.2;have zf:∀o,w7.frozen? ⟨w.heap.size,o,J⟩=M:=fun o=>(d hbw).trans (ZF5.out o);have m0:=(I hbm).trans M5.out.1;have m1:=(I hbm).trans M5.out.2.1;have m2:=(I hbm).trans M5.out.2.2.1;have m3:=(I hbm).trans M5.out.2.2.2;have fin:O _:=ybw HI.out hb7 H.out HBt5.out HH0.out hlw hl15 (C V mp) (C V ms) (C V mf) (C V mr) ⟨mp,ms,mf,mr⟩ 0;clear hbw hbm hb7 HBR HTE
     go_wp2_with fail
     refine kP (v:=kJ #[kN #[C V mp,C V ms,C V mf,C V mr],Q ga Gi.length gc,C V 0]) ?_ rfl ?_
     ·simp[results,Tryz.results89,go_sem,z0,z1,z2,z3]
     ·rw[HRR.out,HFin.out]
      exact fin.out
    ·rw[hem]at HTE
     have HNext:O (qJ p T (m+1) (Si.store (T.getD m 0) (Pg.index p (3-(m:Int))) 0) (Gi++[T.getD (m+1) 0])=R):=by
      rw[O,<-HI.out.rest,<-yaS]
      conv=>rhs;rw[qJ,if_neg (by intro hh;rcases hh with h|h;(· omega);(· rw[show m+2-1=m+1 from rfl,hem]at h;cases h))]
      rfl
     go_wp2_with fail
     refine HBR.mono ?_;rintro en w7 ⟨rfl,hw7⟩;subst w7
     go_wp2_with fail
     refine HTE.mono ?_;rintro en w7 ⟨rfl,hb7⟩
     have hlvl:(4-((m+2:Nat):Int))+1=4-((m+1:Nat):Int):=by omega
     have hS7:St wr w7 k b Hc Si (4-((m+2:Nat):Int)) ei (T.take m++[T.getD m 0]++[T.getD (m+1) 0]) (P.take m++[P.getD m 0]++[P.getD (m+1) 0]) p:=by rw[<-eT,<-eP];exact HI.out.st.grow hb7
     have HCut:=ye7 hS7 (by simp;omega) (by simp;omega) (by omega) (by omega);rw[hlvl,hps m (by omega)]at HCut;rw[<-xA T m (by omega)]at HCut
     have eP1:P.take m++[Pg.index p (3-(m:Int))]=P.take (m+1):=by rw[xA P m (by omega),hps m (by omega)]
     rw[eP1]at HCut;have HB7:O _:=hb7;have HIN:O _:=HI.out
     have hgl:Gi.length+1<=4:=by omega
     generalize T.getD (m+1) 0=tg at*;generalize T.getD m 0=tm at*;clear hb7 HBR HTE eT eT1 eP hin eP1 hlvl hS7
     go_wp2_with fail
     refine HCut.mono ?_;rintro en w8 ⟨rfl,h8⟩;have HS8:O _:=h8;have hB8:But Hc wr w8:=h8.but;have hown8:w8.ownsRow W5.heap.size 3 1 (Q ga Gi.length gc) Gi.length (zr Gi):=zb HI.out.own hB8 fun j hj=>HI.out.far j hj
     have hs58:W5.heap.size<=w8.heap.size:=by have:=HI.out.but.size;have:=hB8.size;omega
     have HB8:O _:=hB8;obtain⟨q0,hq,hz0,hz1,hz2⟩:=info_parts qu;clear h8 HCut hB8
     go_wp2_with (first
      | (at_builtin;refine wpList_append_lies _ rfl _ _ 45 rfl W5.heap.size 3 q0 (C V 0) 1 8 Tryz.underlying45 hq hz0 hz1 hz2 rfl (by decide) _ _ _ rfl (hown8.alloc _) ⟨w8.heap.size,0,J⟩ 1 1 [C V tg] rfl rfl ?c1 ?c2 (by decide) ?c3 ?c4 ?c5 (w8.heap.size+1) (by simp) ?_))
     case c1=>
      intro j u hj
      match j,hj with
      | 0,hj=>simp at hj;subst hj;simp[Addr.add,go_sem]
     case c2=>intro u hu;simp at hu;subst hu;rfl
     case c3=>unfold maxLen;omega
     case c4=>omega
     case c5=>simp;omega
     intro g9 cap9 w9 hown9 hgrow9 hat9 hlt9;have HO9:O (w9.ownsRow W5.heap.size 3 1 (Q (Z ⟨g9,0,J⟩) (Gi.length+1) cap9) (Gi.length+1) (zr Gi++[C V tg])):=hown9;have hB9:But (fun j=>(D ga Gi.length gc).ownBlock=Z j) w8 w9:=(But.ygr (zA (zR w8) _)).grown hgrow9 fun k hk=> .inr hk;have HB9:O _:=hB9;have HA9:O ((D ga Gi.length gc).ownBlock=Z g9\/g9=w8.heap.size+1):=hat9;clear hown9 hgrow9 hat9 hlt9 hown8 hB9
     have fin:O (∃Hc',ye4 W5 w9 k b H0 Hc' (Si.store tm (Pg.index p (3-(m:Int))) 0) Pg.En.zero T P (m+1) p (Q (Z ⟨g9,0,J⟩) (Gi.length+1) cap9) (Gi++[tg]) R):=by
      have hlt:∀j,(D ga Gi.length gc).ownBlock=Z j->W5.heap.size<=j/\j<wr.heap.size:=fun j hj=>HIN.out.own.lt j hj;obtain⟨Hc',q1,q2,q3⟩:=HS8.out.other HB9.out fun j hj=>⟨(hlt j hj).2,HIN.out.far j hj⟩;refine⟨Hc',q1,?_,fun j hj=> ?_,fun j hj=>Nat.lt_of_lt_of_le (q3 j hj) HB9.out.size,?_,fun j hj=> ?_,fun x hx=> ?_,HNext.out⟩
      ·refine(HIN.out.but.trans HB8.out fun i hi h=> ?_).trans HB9.out fun i hi h=> ?_
       ·rcases HIN.out.hc i h with h|h
        ·exact h
        ·omega
       ·have:=(hlt i h).1;omega
      ·rcases q2 j hj with h|h
       ·exact HIN.out.hc j h
       ·have:=HIN.out.but.size;exact .inr (by omega)
      ·rw[K,U,jm]
       exact HO9.out
      ·have e:g9=j:=by simpa[kC]using hj
       subst e;intro hh;rcases HA9.out with h|h
       ·rcases q2 g9 hh with h'|h'
        ·exact HIN.out.far g9 h h'
        ·have:=(hlt g9 h).2;omega
       ·have:=q3 g9 hh;omega
      ·rw[Pg.yhi];exact HIN.out.has x hx
     go_wp2_with fail
     obtain⟨Hc',hI'⟩:=fin.out;exact⟨⟨m+1,_,_,Gi++[tg],Hc',by omega,by simp;omega,hI'⟩,by simp[lenOf];omega⟩
 ·have e2:Pg.tFM S t p= .zz:=by rw[Pg.tFM,if_neg hc]
  have e3:Pg.rmR S t p=(S,[]):=by rw[Pg.rmR,if_neg hc]
  rw[e2,e3];clear h e2 e3 r4 rf4 hB1;generalize Pg.tFC S t p=cc at*
  have hcb:(cc !=0)=kS:=by simp[hc]
  clear hc
  go_enter Tryz.func89,Tryz.ntmps89
  go_wp2_with fail
  rw[<-hW1];clear hW1;refine HW.mono ?_;rintro en w3 ⟨k,rfl,_,hb3⟩;obtain⟨y0,y1,y2,y3⟩:=xc hb3 HR4.out;have yf:∀o,w3.frozen? ⟨w.heap.size,o,J⟩=M:=fun o=>(hb3.frozen (p:=⟨w.heap.size,o,J⟩) hlw).trans (HF4.out o);have HB3:O (Below w.heap.size w w3):=zT HB1.out hb3;clear hb3 HW
  go_wp2_with fail
  have hBf:=zq HB3.out w.heap.size (Nat.le_refl _) (C V 0) (C V 0) (C V 0) (C V 0);refine kP (v:=kJ #[kN #[C V 0,C V 0,C V 0,C V 0],Q J 0 0,C V cc]) ?_ rfl ⟨J,0,F,rfl,fun j hj=>absurd hj (by simp),zd.keep (G:=fun _=>False) H.out (But.ygr hBf) fun _ _=>id,But.ygr hBf,fun k hk=> .inl hk,fun g hg=>by cases hg⟩;simp[results,Tryz.results89,go_sem,y0,y1,y2,y3]
namespace Tk
variable {w0 wc wd:L} {bf:Nat} {F F':Nat->Prop} {S S':Pg.Fs}
end Tk
theorem yaq:∀(G:List Int) (x:Int) (S:Pg.Fs),Pg.gives (G++[x]) S=(Pg.gives G S).give x
 | [],x,S=>rfl
 | y::r,x,S=>by
   show Pg.gives (r++[x]) (S.give y)=_
   rw[yaq r x (S.give y)];rfl
namespace Pg
end Pg
end Go.Proofs.YtdphiompijbelaaGreat
