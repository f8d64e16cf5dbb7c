import Derived.Test.YtdphiompijbelaaGreatTabF
import Derived.Test.YtdphiompijbelaaGreatPageRef
set_option linter.all false
set_option maxRecDepth 100000
open Go renaming World->kP
open Go.Ending renaming returned->kJ
open Go.Proofs.Tryz renaming prog->A
open Nat renaming lt_of_lt_of_le->X,le_trans->kQ
open List renaming length_append->K,take_length->z,length_singleton->kN,length_drop->kV
open Bool renaming false->O,true->kY
open Option renaming none->V,some->Z
open Go.Value renaming int->C,slice->Q,bool->E,slice->kI,ownBlock->kC,pointer->kR,tuple->kF,int->kZ,agg->kU
open Go.IntKind renaming i64->J
open Go.World renaming cell?_of_block->I,frozen?_of_block->U,block_lt_of_cell?->D,news_of_block->kS,ownsRow_nil->kT
set_option maxHeartbeats 4000000
namespace Go.Proofs.YtdphiompijbelaaGreat
open Go.RowKit Go.Sort
theorem St.rebase {w0 w:kP} {k b:Nat} {F0:Nat->Prop} {S:Pg.Fs} {lv:Int} {e:Pg.En} {ts ps:List Int} {p:Int} (h:St w0 w k b F0 S lv e ts ps p):
 ∃H:Nat->Prop,St w w k b H S lv e ts ps p/\(∀j,H j->F0 j\/w0.heap.size<=j)/\∀j,H j->j<w.heap.size:=by
 obtain⟨B,v1,v2,F,hM,hF,hB,h1,h2,hBB,hm⟩:=h.body;refine⟨fun j=>F j\/mkF k v1 v2 j,⟨B,v1,v2,F,hM,hF,But.refl _ _,fun j hj=> .inl (.inl hj),h2,hBB,fun j hj=> .inl (.inr hj)⟩,fun j hj=>hj.elim (h1 j) (hm j),fun j hj=>hj.elim (fun h=>hF.lt h) fun h=>(hM.lt h).2⟩
theorem St.other {w0 w w':kP} {k b:Nat} {H:Nat->Prop} {S:Pg.Fs} {lv:Int} {e:Pg.En} {ts ps:List Int} {p:Int} (h:St w0 w k b H S lv e ts ps p) {G:Nat->Prop} (hb:But G w w') (hG:∀j,G j->j<w0.heap.size/\¬H j):
 ∃H':Nat->Prop,St w' w' k b H' S lv e ts ps p/\(∀j,H' j->H j\/w0.heap.size<=j)/\∀j,H' j->j<w.heap.size:=by
 obtain⟨B,v1,v2,F,hM,hF,hB,h1,h2,hBB,hm⟩:=h.body
 have n1:∀j,F j->¬G j:=fun j hj hg=>by
  obtain⟨g1,g2⟩:=hG j hg;rcases h1 j hj with h|h
  ·exact g2 h
  ·omega
 have n2:∀j,mkF k v1 v2 j->¬G j:=fun j hj hg=>by
  obtain⟨g1,g2⟩:=hG j hg;rcases hm j hj with h|h
  ·exact g2 h
  ·omega
 exact⟨fun j=>F j\/mkF k v1 v2 j,⟨B,v1,v2,F,hM.keep hb n2,hF.keep hb n1,But.refl _ _,fun j hj=> .inl (.inl hj),h2,kQ hBB hb.size,fun j hj=> .inl (.inr hj)⟩,fun j hj=>hj.elim (h1 j) (hm j),fun j hj=>hj.elim (fun h=>hF.lt h) fun h=>(hM.lt h).2⟩
def qR (p:Int) (ts:List Int) (n:Nat) (S:Pg.Fs) (G:List Int):Pg.Fs×List Int:=
 if n<=1\/Pg.yho S (ts.getD (n-1) 0)=O then(S,G)else Pg.rmW p ts (n-1) S (G++[ts.getD (n-1) 0])
theorem ybl (p:Int) (ts:List Int) (m:Nat) (S:Pg.Fs) (G:List Int):Pg.rmW p ts (m+1) S G=qR p ts (m+1) (S.store (ts.getD m 0) (Pg.index p (3-(m:Int))) 0) G:=by
 unfold qR;rw[Pg.rmW]
 by_cases h:m=0\/Pg.yho (S.store (ts.getD m 0) (Pg.index p (3-(m:Int))) 0) (ts.getD m 0)=O
 ·rw[if_pos h,if_pos (by simpa using h.imp (fun e=>by omega) id)]
 ·rw[if_neg h,if_neg (by intro hh;exact h (by simpa using hh.imp (fun e=>by omega) id))]
  simp
theorem xK (l:List Int) (m:Nat) (h:m<l.length):l.take (m+1)=l.take m++[l.getD m 0]:=by
 rw[List.take_succ_eq_append_getElem h];simp[List.getD,h]
structure yfO (w:kP) (b:Nat) (F:Nat->Prop) (S S':Pg.Fs) (m:Pg.Mp) (G:List Int) (c:Int) (en:Ending) (w':kP):Prop where
 body:∃ad cap F',en=kJ (kF #[m.val,Q ad G.length cap,C J c])/\zu w' ad G/\zh w' b S' F'/\But F w w'/\(∀k,F' k->F k\/w.heap.size<=k)/\∀g,ad=Z ⟨g,0,V⟩->w.heap.size<=g/\¬F' g
def lenOf:Value->Nat
 | Q _ n _=>n
 | _=>0
structure yfU (W5 wr:kP) (k b:Nat) (H0 Hc:Nat->Prop) (Si:Pg.Fs) (ei:Pg.En) (T P:List Int) (n:Nat) (p:Int) (vg:Value) (Gi:List Int) (R:Pg.Fs×List Int):Prop where
 st:St wr wr k b Hc Si (4-(n:Int)) ei (T.take n) (P.take n) p
 but:But H0 W5 wr
 hc:∀j,Hc j->H0 j\/W5.heap.size<=j
 lt:∀j,Hc j->j<wr.heap.size
 own:wr.ownsRow W5.heap.size 3 1 vg Gi.length (xA Gi)
 far:∀j,vg.ownBlock=Z j->¬Hc j
 has:∀x,x ∈ T->Si.has x=kY
 rest:qR p T n Si Gi=R
theorem yb3 {w W1 W5 wr w7:kP} {k b n:Nat} {F H0 Hc:Nat->Prop} {S Si:Pg.Fs} {ei:Pg.En} {T P Gi:List Int} {p:Int} {ga:Option Addr} {gc:Nat} {R:Pg.Fs×List Int} (HI:yfU W5 wr k b H0 Hc Si ei T P n p (Q ga Gi.length gc) Gi R) (hb:Below wr.heap.size wr w7) (H:zh w b S F) (hB5:But F w W5) (hH0:∀j,H0 j->F j\/W1.heap.size<=j) (hlw:w.heap.size<W1.heap.size) (h15:W1.heap.size<=W5.heap.size) (a0 a1 a2 a3:Value) (m:Pg.Mp) (c:Int):
 yfO w b F S Si m Gi c (kJ (kF #[m.val,Q ga Gi.length gc,C J c])) ((((w7.setCell ⟨w.heap.size,0,V⟩ a0).setCell ⟨w.heap.size,1,V⟩ a1).setCell ⟨w.heap.size,2,V⟩ a2).setCell ⟨w.heap.size,3,V⟩ a3):=by
 obtain⟨F2,hF,hB,h1⟩:=HI.st.leaves
 have hFc:∀j,F2 j->Hc j:=fun j hj=>by
  rcases h1 j hj with h|h
  ·exact h
  ·have:=hF.lt hj;omega
 have hFf:∀j,F2 j->F j\/W1.heap.size<=j:=fun j hj=>by
  rcases HI.hc j (hFc j hj)with h|h
  ·exact hH0 j h
  ·exact .inr (by omega)
 have hbt:But (fun j=>j=w.heap.size) wr ((((w7.setCell ⟨w.heap.size,0,V⟩ a0).setCell ⟨w.heap.size,1,V⟩ a1).setCell ⟨w.heap.size,2,V⟩ a2).setCell ⟨w.heap.size,3,V⟩ a3):=by
  iterate 4 refine But.setCell ?_ (by exact .inr rfl) _
  exact But.yhf hb
 refine⟨ga,gc,F2,rfl,?_,hF.keep hbt fun j hj e=> ?_,?_,fun j hj=>(hFf j hj).imp id fun h=>by omega,fun g hg=> ?_⟩
 ·exact qz (cap:=gc) (n:=Gi.length) (zc HI.own hbt fun j hj e=>by have:=(HI.own.lt j hj).1;omega)
 ·rcases hFf j hj with h|h
  ·have:=H.lt h;omega
  ·omega
 ·refine(hB5.trans HI.but fun i hi h=> ?_).trans hbt fun i hi e=>by omega
  rcases hH0 i h with h|h
  ·exact h
  ·omega
 ·subst hg
  have:=(HI.own.lt g rfl).1;exact⟨by omega,fun h=>HI.far g rfl (hFc g h)⟩
theorem ycZ {b:Nat} {S:Pg.Fs} {F:Nat->Prop} (t p:Int) (w:kP) (h:zh w b S F):
 Calls A 89 #[kR (Z ⟨b,0,V⟩),C J t,C J p] w fun en w'=>yfO w b F S (Pg.rmR S t p).1 (Pg.tFM S t p) (Pg.rmR S t p).2 (Pg.tFC S t p) en w':=by
 have H:Hid (zh w b S F):=h;obtain⟨W1,hW1⟩:∃W1,W1=w.alloc (.cells #[C J 0,C J 0,C J 0,C J 0] 39):=⟨_,rfl⟩
 have hB1:Below w.heap.size w W1:=by rw[hW1];exact zA (zR w) _
 have r4:W1.cell? ⟨w.heap.size,0,V⟩=Z (C J 0)/\W1.cell? ⟨w.heap.size,1,V⟩=Z (C J 0)/\W1.cell? ⟨w.heap.size,2,V⟩=Z (C J 0)/\W1.cell? ⟨w.heap.size,3,V⟩=Z (C J 0):=by rw[hW1];simp[go_sem]
 have rf4:∀o,W1.frozen? ⟨w.heap.size,o,V⟩=O:=fun o=>by rw[hW1];simp[go_sem]
 have HR4:Hid _:=r4;have HF4:Hid _:=rf4;have HB1:Hid _:=hB1;have hlw:w.heap.size<W1.heap.size:=D _ _ r4.1;have HW:=qF t p W1 (h.keep (G:=fun _=>False) (But.yhf hB1) fun _ _=>id)
 by_cases hc:Pg.tFC S t p=0
 ·have hz:xM S t p=0:=by
   by_cases hz:xM S t p=0
   ·exact hz
   ·rw[Pg.tFC,if_pos hz]at hc
    exact absurd hc hz
  obtain⟨Y,s,lv,hY,W,hsl,hl3,hY3,hpl,hix⟩:=qT hz;have hhas:=W.has;have hlenX:=W.len
  have e5:Pg.tFM S t p=s.e.map (lv:Int) p:=by rw[Pg.tFM,if_pos hc,hY,W.yhk,W.yhm]
  have eR:Pg.rmR S t p=Pg.rmW p (tabs (Y++[s])) (Y.length+1) S []:=by rw[Pg.rmR,if_pos hc,hY];simp
  have hps:∀i,i<Y.length+1->(qG (Y++[s])).getD i 0=Pg.index p (3-(i:Int)):=fun i hi=>by
   have:=(yaJ S t p (i:=i) (by rw[hY];simpa using hi)).2.2;rw[hY]at this;exact this
  rw[hc,e5,eR];rw[hc,hY,W.yhm,W.yhk]at HW
  have hlT:(tabs (Y++[s])).length=Y.length+1:=by rw[xy];simp
  have hlP:(qG (Y++[s])).length=Y.length+1:=by rw[vo];simp
  rw[K,kN]at hlenX;clear hc hz W hY hsl hpl hix h e5 eR r4 rf4 hB1;generalize tabs (Y++[s])=T at*;generalize qG (Y++[s])=P at*;generalize Y.length=N at*;generalize hee:s.e=e at*;clear hee;generalize hmm:e.map (lv:Int) p=mm at*;have HMM:Hid _:=hmm;clear hmm;obtain⟨mp,ms,mf,mr⟩:=mm;rw[ybl]
  go_enter Tryz.func89,Tryz.ntmps89
  go_wp2_with fail
  rw[<-hW1];clear hW1;refine HW.mono ?_;rintro en w3 ⟨k,rfl,hS,hb3⟩;have HMap:=jC hS;rw[HMM.out]at HMap;simp only[Pg.Mp.val]at HMap;have HS3:Hid _:=hS;have HB3:Hid (Below W1.heap.size W1 w3):=hb3;clear hS hb3 HW
  go_wp2_with fail
  refine HMap.mono ?_;rintro en w4 ⟨rfl,hb4⟩;have HB4:Hid (Below w3.heap.size w3 w4):=hb4;clear hb4 HMap;obtain⟨W5,hW5⟩:∃W5,W5=w4.alloc (.cells #[C J mp,C J ms,C J mf,C J mr] 39):=⟨_,rfl⟩
  have hB5:Below w3.heap.size w3 W5:=by rw[hW5];exact zA HB4.out _
  have m4:W5.cell? ⟨w4.heap.size,0,V⟩=Z (C J mp)/\W5.cell? ⟨w4.heap.size,1,V⟩=Z (C J ms)/\W5.cell? ⟨w4.heap.size,2,V⟩=Z (C J mf)/\W5.cell? ⟨w4.heap.size,3,V⟩=Z (C J mr):=by rw[hW5];simp[go_sem]
  have hl45:w4.heap.size<W5.heap.size:=D _ _ m4.1;have Z5:Hid _:=xB (zT HB3.out hB5) HR4.out;have ZF5:Hid (∀o,W5.frozen? ⟨w.heap.size,o,V⟩=O):=fun o=>((zT HB3.out hB5).frozen (p:=⟨w.heap.size,o,V⟩) hlw).trans (HF4.out o)
  have hS6:∃H0':Nat->Prop,St W5 W5 k b H0' S (lv:Int) e T P p/\(∀j,H0' j->F j\/W1.heap.size<=j)/\∀j,H0' j->j<w4.heap.size:=by
   obtain⟨H',q1,q2,q3⟩:=(HS3.out.grow HB4.out).other (w':=W5) (G:=fun _=>False) (by rw[hW5];exact But.yhf (zA (zR _) _)) fun _ h=>h.elim;exact⟨H',q1,q2,q3⟩
  obtain⟨H0,hS5,hH0,hH0'⟩:=hS6
  have HP2:Calls A 134 #[kR (Z ⟨k,0,V⟩),kU #[E O,E O,C J 0,E O,E O,C J 0]] W5 fun en w'=>en=kJ (kF #[])/\St W5 w' k b H0 (S.store (T.getD N 0) (Pg.index p (3-(N:Int))) 0) (lv:Int) Pg.En.zero (T.take (N+1)) (P.take (N+1)) p:=by
   have eT:T=T.take N++[T.getD N 0]:=by rw[<-xK T N (by omega),<-hlT,z]
   have eP:P=P.take N++[Pg.index p (3-(N:Int))]:=by rw[<-hps N (by omega),<-xK P N (by omega),<-hlP,z]
   have hS7:St W5 W5 k b H0 S (lv:Int) e (T.take N++[T.getD N 0]) (P.take N++[Pg.index p (3-(N:Int))]) p:=by rw[<-eT,<-eP];exact hS5
   have:=vN Pg.En.zero hS7 (by simp;omega) (by simp;omega);simp only[Pg.En.zero,Pg.En.val,yc8]at this;rw[<-eT,<-eP]at this
   have t1:T.take (N+1)=T:=by rw[<-hlT,z]
   have t2:P.take (N+1)=P:=by rw[<-hlP,z]
   rw[t1,t2];exact this
  have M5:Hid _:=m4;have HBt5:Hid (But F w W5):=(But.yhf HB1.out).trans ((HS3.out.but).trans (But.yhf (F:=fun _=>False) hB5) fun _ _ h=>h.elim) fun _ _ h=>h;have HH0:Hid _:=hH0;have HH0':Hid _:=hH0';have hl15:W1.heap.size<=W5.heap.size:=kQ HB3.out.size hB5.size;clear hS5 hH0 hH0' m4 hB5 HS3
  have hlv:(lv:Int)=4-((N+1:Nat):Int):=by omega
  rw[hlv]at HP2;generalize hR:qR p T (N+1) (S.store (T.getD N 0) (Pg.index p (3-(N:Int))) 0) []=R at*;have HRR:Hid _:=hR;clear hR
  have hhas':∀x,x ∈ T->(S.store (T.getD N 0) (Pg.index p (3-(N:Int))) 0).has x=kY:=fun x hx=>by rw[Pg.yhX];exact hhas x hx
  have HHS:Hid _:=hhas';clear hhas hhas'
  go_wp2_with fail
  rw[<-hW5];clear hW5;refine HP2.mono ?_;rintro en w6 ⟨rfl,h6⟩;have HS6:Hid _:=h6;clear h6 HP2
  go_wp2_with fail
  go_loopw [12] (fun vg wr=>∃(n:Nat) (Si:Pg.Fs) (ei:Pg.En) (Gi:List Int) (Hc:Nat->Prop),1<=n/\Gi.length+n=N+1/\Hid (yfU W5 wr k b H0 Hc Si ei T P n p vg Gi R)) (fun vg _=>10-lenOf vg)
  case atStart=>
   obtain⟨Hc,q1,q2,q3⟩:=HS6.out.rebase;exact⟨N+1,_,_,[],Hc,by omega,by simp,q1,HS6.out.but,q2,q3,kT _ _ _ _,fun j hj=>by simp[kC]at hj,HHS.out,HRR.out⟩
  case round=>
   obtain⟨n,Si,ei,Gi,Hc,hn1,hgn,HI⟩:=hrel
   have hTn:(T.take n).length=n:=by simp;omega
   have HBR:=vF HI.out.st (by omega);rw[hTn]at HBR;obtain⟨ga,gc,hvg⟩:=zF HI.out.own;subst hvg
   by_cases h1:n=1
   ·subst h1
    have hb1:decide (1<1)=O:=by decide
    rw[hb1]at HBR
    have HFin:Hid (R=(Si,Gi)):=by rw[Hid,<-HI.out.rest,qR,if_pos (by left;omega)]
    go_wp2_with fail
    refine HBR.mono ?_;rintro en w7 ⟨rfl,hw7⟩;have hb7:Below wr.heap.size wr w7:=hw7▸zR wr;clear hw7
    have hbw:w7.heap[w.heap.size]?=W5.heap[w.heap.size]?:=by
     have q1:=HI.out.but.block w.heap.size (by omega) fun h=>by
      rcases HH0.out _ h with h|h
      ·have:=zh.lt H.out h;omega
      ·omega
     exact(hb7.block _ (by have:=HI.out.but.size;omega)).trans q1
    have hbm:w7.heap[w4.heap.size]?=W5.heap[w4.heap.size]?:=by
     have q1:=HI.out.but.block w4.heap.size (by omega) fun h=>by have:=HH0'.out _ h;omega
     exact(hb7.block _ (by have:=HI.out.but.size;omega)).trans q1
    have z0:=(I hbw).trans Z5.out.1;have z1:=(I hbw).trans Z5.out.2.1;have z2:=(I hbw).trans Z5.out.2.2.1;have z3:=(I hbw).trans Z5.out.2.2.2;have zf:∀o,w7.frozen? ⟨w.heap.size,o,V⟩=O:=fun o=>(U hbw).trans (ZF5.out o);have m0:=(I hbm).trans M5.out.1;have m1:=(I hbm).trans M5.out.2.1;have m2:=(I hbm).trans M5.out.2.2.1;have m3:=(I hbm).trans M5.out.2.2.2;have fin:Hid _:=yb3 HI.out hb7 H.out HBt5.out HH0.out hlw hl15 (C J mp) (C J ms) (C J mf) (C J mr) ⟨mp,ms,mf,mr⟩ 0;clear hbw hbm hb7 HBR
    go_wp2_with fail
    refine bodyPost_ret (v:=kF #[kU #[C J mp,C J ms,C J mf,C J mr],Q ga Gi.length gc,C J 0]) ?_ rfl ?_
    ·simp[results,Tryz.results89,go_sem,z0,z1,z2,z3]
    ·rw[HRR.out,HFin.out]
     exact fin.out
   ·obtain⟨m,rfl⟩:∃m,n=m+2:=⟨n-2,by omega⟩
    have hb1:decide (1<m+2)=kY:=by simp
    rw[hb1]at HBR
    have eT:T.take (m+2)=T.take m++[T.getD m 0]++[T.getD (m+1) 0]:=by rw[xK T (m+1) (by omega),xK T m (by omega)]
    have eT1:T.take (m+2)=T.take (m+1)++[T.getD (m+1) 0]:=xK T (m+1) (by omega)
    have eP:P.take (m+2)=P.take m++[P.getD m 0]++[P.getD (m+1) 0]:=by rw[xK P (m+1) (by omega),xK P m (by omega)]
    have hin:T.getD (m+1) 0 ∈ T:=by
     have:m+1<T.length:=by omega
     simp[List.getD,this]
    have HTE:Calls A 136 #[kR (Z ⟨k,0,V⟩)] wr fun en w'=>en=kJ (E (Pg.yho Si (T.getD (m+1) 0)))/\Below wr.heap.size wr w':=vf (by rw[<-eT1];exact HI.out.st) (by simp;omega) (HI.out.has _ hin);cases hem:Pg.yho Si (T.getD (m+1) 0)
    ·rw[hem]at HTE
     have HFin:Hid (R=(Si,Gi)):=by rw[Hid,<-HI.out.rest,qR,if_pos (by right;exact hem)]
     go_wp2_with fail
     refine HBR.mono ?_;rintro en w7 ⟨rfl,hw7⟩;subst w7
     go_wp2_with fail
     refine HTE.mono ?_;rintro en w7 ⟨rfl,hb7⟩
     have hbw:w7.heap[w.heap.size]?=W5.heap[w.heap.size]?:=by
      have q1:=HI.out.but.block w.heap.size (by omega) fun h=>by
       rcases HH0.out _ h with h|h
       ·have:=zh.lt H.out h;omega
       ·omega
      exact(hb7.block _ (by have:=HI.out.but.size;omega)).trans q1
     have hbm:w7.heap[w4.heap.size]?=W5.heap[w4.heap.size]?:=by
      have q1:=HI.out.but.block w4.heap.size (by omega) fun h=>by have:=HH0'.out _ h;omega
      exact(hb7.block _ (by have:=HI.out.but.size;omega)).trans q1
     have z0:=(I hbw).trans Z5.out.1;have z1:=(I hbw).trans Z5.out.2.1;have z2:=(I hbw).trans Z5.out.2.2.1;have z3:=(I hbw).trans Z5.out.2.2.2;have zf:∀o,w7.frozen? ⟨w.heap.size,o,V⟩=O:=fun o=>(U hbw).trans (ZF5.out o);have m0:=(I hbm).trans M5.out.1;have m1:=(I hbm).trans M5.out.2.1;have m2:=(I hbm).trans M5.out.2.2.1;have m3:=(I hbm).trans M5.out.2.2.2;have fin:Hid _:=yb3 HI.out hb7 H.out HBt5.out HH0.out hlw hl15 (C J mp) (C J ms) (C J mf) (C J mr) ⟨mp,ms,mf,mr⟩ 0;clear hbw hbm hb7 HBR HTE
     go_wp2_with fail
     refine bodyPost_ret (v:=kF #[kU #[C J mp,C J ms,C J mf,C J mr],Q ga Gi.length gc,C J 0]) ?_ rfl ?_
     ·simp[results,Tryz.results89,go_sem,z0,z1,z2,z3]
     ·rw[HRR.out,HFin.out]
      exact fin.out
    ·rw[hem]at HTE
     have HNext:Hid (qR p T (m+1) (Si.store (T.getD m 0) (Pg.index p (3-(m:Int))) 0) (Gi++[T.getD (m+1) 0])=R):=by
      rw[Hid,<-HI.out.rest,<-ybl]
      conv=>rhs;rw[qR,if_neg (by intro hh;rcases hh with h|h;(· omega);(· rw[show m+2-1=m+1 from rfl,hem]at h;cases h))]
      rfl
     go_wp2_with fail
     refine HBR.mono ?_;rintro en w7 ⟨rfl,hw7⟩;subst w7
     go_wp2_with fail
     refine HTE.mono ?_;rintro en w7 ⟨rfl,hb7⟩
     have hlvl:(4-((m+2:Nat):Int))+1=4-((m+1:Nat):Int):=by omega
     have hS7:St wr w7 k b Hc Si (4-((m+2:Nat):Int)) ei (T.take m++[T.getD m 0]++[T.getD (m+1) 0]) (P.take m++[P.getD m 0]++[P.getD (m+1) 0]) p:=by rw[<-eT,<-eP];exact HI.out.st.grow hb7
     have HCut:=yfX hS7 (by simp;omega) (by simp;omega) (by omega) (by omega);rw[hlvl,hps m (by omega)]at HCut;rw[<-xK T m (by omega)]at HCut
     have eP1:P.take m++[Pg.index p (3-(m:Int))]=P.take (m+1):=by rw[xK P m (by omega),hps m (by omega)]
     rw[eP1]at HCut;have HB7:Hid _:=hb7;have HIN:Hid _:=HI.out
     have hgl:Gi.length+1<=4:=by omega
     generalize T.getD (m+1) 0=tg at*;generalize T.getD m 0=tm at*;clear hb7 HBR HTE eT eT1 eP hin eP1 hlvl hS7
     go_wp2_with fail
     refine HCut.mono ?_;rintro en w8 ⟨rfl,h8⟩;have HS8:Hid _:=h8;have hB8:But Hc wr w8:=h8.but;have hown8:w8.ownsRow W5.heap.size 3 1 (Q ga Gi.length gc) Gi.length (xA Gi):=zc HI.out.own hB8 fun j hj=>HI.out.far j hj
     have hs58:W5.heap.size<=w8.heap.size:=by have:=HI.out.but.size;have:=hB8.size;omega
     have HB8:Hid _:=hB8;obtain⟨q0,hq,hz0,hz1,hz2⟩:=info_parts qY;clear h8 HCut hB8
     go_wp2_with (first
      | (at_builtin;refine wpList_append_lies _ rfl _ _ 45 rfl W5.heap.size 3 q0 (C J 0) 1 8 Tryz.underlying45 hq hz0 hz1 hz2 rfl (by decide) _ _ _ rfl (hown8.alloc _) ⟨w8.heap.size,0,V⟩ 1 1 [C J tg] rfl rfl ?c1 ?c2 (by decide) ?c3 ?c4 ?c5 (w8.heap.size+1) (by simp) ?_))
     case c1=>
      intro j u hj
      match j,hj with
      | 0,hj=>simp at hj;subst hj;simp[Addr.add,go_sem]
     case c2=>intro u hu;simp at hu;subst hu;rfl
     case c3=>unfold maxLen;omega
     case c4=>omega
     case c5=>simp;omega
     intro g9 cap9 w9 hown9 hgrow9 hat9 hlt9;have HO9:Hid (w9.ownsRow W5.heap.size 3 1 (Q (Z ⟨g9,0,V⟩) (Gi.length+1) cap9) (Gi.length+1) (xA Gi++[C J tg])):=hown9;have hB9:But (fun j=>(kI ga Gi.length gc).ownBlock=Z j) w8 w9:=(But.yhf (zA (zR w8) _)).grown hgrow9 fun k hk=> .inr hk;have HB9:Hid _:=hB9;have HA9:Hid ((kI ga Gi.length gc).ownBlock=Z g9\/g9=w8.heap.size+1):=hat9;clear hown9 hgrow9 hat9 hlt9 hown8 hB9
     have fin:Hid (∃Hc',yfU W5 w9 k b H0 Hc' (Si.store tm (Pg.index p (3-(m:Int))) 0) Pg.En.zero T P (m+1) p (Q (Z ⟨g9,0,V⟩) (Gi.length+1) cap9) (Gi++[tg]) R):=by
      have hlt:∀j,(kI ga Gi.length gc).ownBlock=Z j->W5.heap.size<=j/\j<wr.heap.size:=fun j hj=>HIN.out.own.lt j hj;obtain⟨Hc',q1,q2,q3⟩:=HS8.out.other HB9.out fun j hj=>⟨(hlt j hj).2,HIN.out.far j hj⟩;refine⟨Hc',q1,?_,fun j hj=> ?_,fun j hj=>X (q3 j hj) HB9.out.size,?_,fun j hj=> ?_,fun x hx=> ?_,HNext.out⟩
      ·refine(HIN.out.but.trans HB8.out fun i hi h=> ?_).trans HB9.out fun i hi h=> ?_
       ·rcases HIN.out.hc i h with h|h
        ·exact h
        ·omega
       ·have:=(hlt i h).1;omega
      ·rcases q2 j hj with h|h
       ·exact HIN.out.hc j h
       ·have:=HIN.out.but.size;exact .inr (by omega)
      ·rw[K,kN,jA]
       exact HO9.out
      ·have e:g9=j:=by simpa[kC]using hj
       subst e;intro hh;rcases HA9.out with h|h
       ·rcases q2 g9 hh with h'|h'
        ·exact HIN.out.far g9 h h'
        ·have:=(hlt g9 h).2;omega
       ·have:=q3 g9 hh;omega
      ·rw[Pg.yhX];exact HIN.out.has x hx
     go_wp2_with fail
     obtain⟨Hc',hI'⟩:=fin.out;exact⟨⟨m+1,_,_,Gi++[tg],Hc',by omega,by simp;omega,hI'⟩,by simp[lenOf];omega⟩
 ·have e2:Pg.tFM S t p= .zz:=by rw[Pg.tFM,if_neg hc]
  have e3:Pg.rmR S t p=(S,[]):=by rw[Pg.rmR,if_neg hc]
  rw[e2,e3];clear h e2 e3 r4 rf4 hB1;generalize Pg.tFC S t p=cc at*
  have hcb:(cc !=0)=kY:=by simp[hc]
  clear hc
  go_enter Tryz.func89,Tryz.ntmps89
  go_wp2_with fail
  rw[<-hW1];clear hW1;refine HW.mono ?_;rintro en w3 ⟨k,rfl,_,hb3⟩;obtain⟨y0,y1,y2,y3⟩:=xB hb3 HR4.out;have yf:∀o,w3.frozen? ⟨w.heap.size,o,V⟩=O:=fun o=>(hb3.frozen (p:=⟨w.heap.size,o,V⟩) hlw).trans (HF4.out o);have HB3:Hid (Below w.heap.size w w3):=zT HB1.out hb3;clear hb3 HW
  go_wp2_with fail
  have hBf:=zq HB3.out w.heap.size (Nat.le_refl _) (C J 0) (C J 0) (C J 0) (C J 0);refine bodyPost_ret (v:=kF #[kU #[C J 0,C J 0,C J 0,C J 0],Q V 0 0,C J cc]) ?_ rfl ⟨V,0,F,rfl,fun j hj=>absurd hj (by simp),zh.keep (G:=fun _=>False) H.out (But.yhf hBf) fun _ _=>id,But.yhf hBf,fun k hk=> .inl hk,fun g hg=>by cases hg⟩;simp[results,Tryz.results89,go_sem,y0,y1,y2,y3]
theorem vE:(Tryz.prog.info? 121).map (fun i=>(i.zero,i.size,i.bytes))=Z (Z (kU #[C J 0,C J 0,C J 0,C J 0,E O]),5,40):=by kernel_rfl
structure va (w:kP) (b:Nat) (vb:Value) (L:List Pg.Ln):Prop where
 c0:w.cell? ⟨b,0,V⟩=Z vb
 fb:∀p,w.frozen? ⟨b,p,V⟩=O
 row:zl w 121 5 vb L.length (zL L)
 nb:vb.ownBlock≠Z b
 kept:Pg.Kept L
namespace va
variable {w w' W:kP} {b:Nat} {vb v':Value} {L L':List Pg.Ln}
theorem lb (h:va w b vb L):b<w.heap.size:=D _ _ h.c0
theorem lt (h:va w b vb L) {k:Nat} (hk:bkF b vb k):k<w.heap.size:=by
 rcases hk with rfl|hk
 ·exact h.lb
 ·exact h.row.lt k hk
theorem keep (h:va w b vb L) {F:Nat->Prop} (hb:But F w w') (hF:∀k,bkF b vb k->¬F k):va w' b vb L:=by
 have kb:=hb.block b h.lb (hF b (.inl rfl));exact⟨(I kb).trans h.c0,fun p=>(U kb).trans (h.fb p),h.row.but hb fun k hk=>hF k (.inr hk),h.nb,h.kept⟩
theorem grow (h:va w b vb L) (hb:Below w.heap.size w w'):va w' b vb L:=h.keep (F:=fun _=>False) (But.yhf hb) (fun _ _=>id)
theorem put (h:va w b vb L) (hb:But (fun j=>vb.ownBlock=Z j) w W) (hr:zl W 121 5 v' L'.length (zL L')) (hv:∀j,v'.ownBlock=Z j->vb.ownBlock=Z j\/w.heap.size<=j) (hg:Pg.Kept L'):
 va (W.setCell ⟨b,0,V⟩ v') b v' L'/\Chg b 0 (bkF b vb) w (W.setCell ⟨b,0,V⟩ v')/\(∀k,bkF b v' k->bkF b vb k\/w.heap.size<=k):=by
 have hl:=h.lb;have kb:W.heap[b]?=w.heap[b]?:=hb.block b hl h.nb;have hc:W.cell? ⟨b,0,V⟩=Z vb:=(I (a:=⟨b,0,V⟩) kb).trans h.c0;have hne:v'.ownBlock≠Z b:=fun e=>(hv b e).elim h.nb (fun h=>by omega);refine⟨⟨World.cell?_setCell_same _ _ _ hc,fun p=> ?_,?_,hne,hg⟩,⟨?_,fun p hp=> ?_⟩,fun k hk=> ?_⟩
 ·have:=(U (a:=⟨b,p,V⟩) kb).trans (h.fb p)
  simpa using this
 ·exact hr.of_block fun k hk=>Below.heap_setCell _ _ _ _ (fun e=>hne (by rw[hk];exact congrArg Z e))
 ·exact(hb.mono (G:=bkF b vb) fun i _ hi=> .inr hi).setCell (a:=⟨b,0,V⟩) (.inr (.inl rfl)) _
 ·rw[World.cell?_setCell_other _ _ _ _ (fun e=>hp (by injection e with _ e;exact e.symm))]
  exact I (a:=⟨b,p,V⟩) kb
 ·rcases hk with rfl|hk
  ·exact .inl (.inl rfl)
  ·exact(hv k hk).imp .inr id
end va
theorem jN {b:Nat} {vb:Value} {L:List Pg.Ln} (q:Int) (hq:Pg.fits q) (w:kP) (h:va w b vb L):
 Calls A 101 #[kR (Z ⟨b,0,V⟩),C J q] w fun e w'=>e=kJ (C J (Pg.yi1 L q))/\Below w.heap.size w w':=by
 obtain⟨ad,cap,rfl⟩:=h.row.form;have hlen:=h.kept.le;have HB:Hid _:=h;clear h
 go_enter Tryz.func101,Tryz.ntmps101
 go_wp2_with fail
 go_loopw [5] (fun i wr=>∃j:Nat,j<=L.length/\i=C J j/\Hid ((∀t,t<j->(L.getD t .zz).has q=O)/\Below w.heap.size w wr)) (fun i _=>L.length-(intOf i).toNat)
 case atStart=>exact⟨0,by omega,rfl,⟨fun t ht=>by omega,zR _⟩⟩
 case round=>
  obtain⟨j,hj,rfl,HR⟩:=hrel;have hc0:=(HB.out.grow HR.out.2).c0
  have i0:(0:Int)<=(j:Int):=by omega
  by_cases hlt:j<L.length
  ·obtain⟨g,o,rfl,hg,hm⟩:=zp (HB.out.grow HR.out.2).row j hlt
   obtain⟨k0,k1,k2,k3,k4⟩:=hm
   have i1:(j:Int)<(L.length:Int):=by omega
   have HC:=jc (L.getD j .zz).m.p (L.getD j .zz).m.s (L.getD j .zz).m.f (L.getD j .zz).m.r q (HB.out.kept.fits hlt) hq wr;cases hh:(L.getD j .zz).has q
   ·have HN:Hid (∀t,t<j+1->(L.getD t .zz).has q=O):=fun t ht=>by
     by_cases e:t=j
     ·rw[e];exact hh
     ·exact HR.out.1 t (by omega)
    rw[show Pg.over (L.getD j .zz).m.p (L.getD j .zz).m.s q=O from hh]at HC;clear hh;generalize L.getD j .zz=x at*;obtain⟨⟨p,s,f,r⟩,d⟩:=x
    go_wp2_with (go_at_call 132;refine HC.mono ?_;rintro e w1 ⟨rfl,hb1⟩;have HN1:Hid _:=zT HR.out.2 hb1;clear hb1)
    go_roundw
    case rel=>exact⟨j+1,by omega,by go_num,⟨HN.out,HN1.out⟩⟩
    case measure=>simp[intOf];omega
   ·have HF:Hid (Pg.yi1 L q=(j:Int)):=by
     show Pg.yi1 L q=(j:Int)
     unfold Pg.yi1 Pg.kFnd;rw[Pg.ykC (P:=fun l=>l.has q) hlt hh HR.out.1]
    rw[show Pg.over (L.getD j .zz).m.p (L.getD j .zz).m.s q=kY from hh]at HC;clear hh;generalize L.getD j .zz=x at*;obtain⟨⟨p,s,f,r⟩,d⟩:=x
    go_wp2_with (go_at_call 132;refine HC.mono ?_;rintro e w1 ⟨rfl,hb1⟩;have HN1:Hid _:=zT HR.out.2 hb1;clear hb1)
    go_ret
    exact⟨zJ HF.out.symm,HN1.out⟩
  ·have i1:¬(j:Int)<(L.length:Int):=by omega
   have HF:Hid (Pg.yi1 L q= -1):=by
    show Pg.yi1 L q= -1
    unfold Pg.yi1 Pg.kFnd;rw[Pg.ykB (P:=fun l=>l.has q) fun t ht=>HR.out.1 t (by omega)]
   go_wp2_with fail
   go_ret
   exact⟨zJ HF.out.symm,HR.out.2⟩
theorem yaC {b:Nat} {vb:Value} {L:List Pg.Ln} (m:Pg.Mp) (hm:Pg.fits m.p) (w:kP) (h:va w b vb L):
 Calls A 110 #[kR (Z ⟨b,0,V⟩),m.val] w fun e w'=>e=kJ (C J ((L.length:Int)-((Pg.yic L m).length:Int)))/\∃vb',va w' b vb' (Pg.yic L m)/\Chg b 0 (bkF b vb) w w'/\∀k,bkF b vb' k->bkF b vb k\/w.heap.size<=k:=by
 have hlen:=h.kept.le;have HX:Hid _:=h;obtain⟨q0,hqi,hz0,hz1,hz2⟩:=info_parts vE;obtain⟨ad,cap,rfl⟩:=h.row.form;obtain⟨w1,hw1⟩:∃w1,w1=w.alloc (.cells #[C J m.p,C J m.s,C J m.f,C J m.r] 39):=⟨_,rfl⟩
 have hB:Hid (Below w.heap.size w w1):=by rw[hw1];exact zA (zR _) _
 have hsz:w.heap.size<w1.heap.size:=by rw[hw1];simp
 have hmx:Hid (ybv w1 w.heap.size 0 m):=by rw[hw1];exact⟨by simp[go_sem],by simp[go_sem],by simp[go_sem],by simp[go_sem]⟩
 have hlb:=h.lb;have hkd:Hid (Pg.yic L m=L.filter (fun l=> !l.meets m)):=rfl;have hkl:(Pg.yic L m).length<=6:=(h.kept.drop m).le;have HKD:Hid _:=h.kept.drop m;generalize Pg.yic L m=LD at*;clear h;obtain⟨mp,ms,mf,mr⟩:=m;simp only at hw1;simp only[Pg.Mp.val]
 go_enter Tryz.func110,Tryz.ntmps110
 go_wp2_with fail
 rw[<-hw1];clear hw1
 go_loopw [5,6] (fun v i wr=>∃j:Nat,j<=L.length/\i=C J j/\∃ad cap,∃M:List Pg.Ln,v=Q ad M.length cap/\M.length<=j/\Hid (M=(L.take j).filter (fun l=> !l.meets ⟨mp,ms,mf,mr⟩)/\wr.ownsRow w1.heap.size 121 5 (Q ad M.length cap) M.length (zL M)/\Below w1.heap.size w1 wr)) (fun _ i _=>L.length-(intOf i).toNat)
 case atStart=>exact⟨0,by omega,rfl,V,0,[],rfl,by simp,⟨by simp,kT _ _ _ _,zR _⟩⟩
 case round=>
  obtain⟨j,hj,rfl,ad2,cap2,M,rfl,hM,HR⟩:=hrel;have HW:Hid _:=(HX.out.grow hB.out).grow HR.out.2.2;have hc0:=HW.out.c0
  have i0:(0:Int)<=(j:Int):=by omega
  by_cases hlt:j<L.length
  ·obtain⟨g,o,rfl,hg,hmm⟩:=zp HW.out.row j hlt
   obtain⟨k0,k1,k2,k3,k4⟩:=hmm
   have i1:(j:Int)<(L.length:Int):=by omega
   have HC:=yfe (L.getD j .zz).m.p (L.getD j .zz).m.s (L.getD j .zz).m.f (L.getD j .zz).m.r mp ms mf mr (HX.out.kept.fits hlt) hm;obtain⟨m0,m1,m2,m3⟩:=hmx.out.below HR.out.2.2 hsz;simp only[Nat.zero_add]at m0 m1 m2 m3
   have hwr:w.heap.size<wr.heap.size:=by have:=HR.out.2.2.size;omega
   have hbr:b<wr.heap.size:=HW.out.lb;have hws:w1.heap.size<=wr.heap.size:=HR.out.2.2.size;have HY:Hid ((!(L.getD j .zz).meets ⟨mp,ms,mf,mr⟩)=kY->(L.take (j+1)).filter (fun l=> !l.meets ⟨mp,ms,mf,mr⟩)=(L.take j).filter (fun l=> !l.meets ⟨mp,ms,mf,mr⟩)++[L.getD j .zz]):=fun h=>Pg.yir (P:=fun l=> !l.meets ⟨mp,ms,mf,mr⟩) hlt h;have HN:Hid ((!(L.getD j .zz).meets ⟨mp,ms,mf,mr⟩)=O->(L.take (j+1)).filter (fun l=> !l.meets ⟨mp,ms,mf,mr⟩)=(L.take j).filter (fun l=> !l.meets ⟨mp,ms,mf,mr⟩)):=fun h=>Pg.yig (P:=fun l=> !l.meets ⟨mp,ms,mf,mr⟩) hlt h;have HCM:Hid (Pg.meet (L.getD j .zz).m.p (L.getD j .zz).m.s mp ms=(L.getD j .zz).meets ⟨mp,ms,mf,mr⟩):=rfl;generalize L.getD j .zz=x at*;obtain⟨⟨p,s,f,r⟩,d⟩:=x;simp only at k0 k1 k2 k3 k4;have r0:=cell_regrown k0;have r1:=cell_regrown k1;have r2:=cell_regrown k2;have r3:=cell_regrown k3;have r4:=cell_regrown hc0;have r5:=cell_regrown m0;have r6:=cell_regrown m1;have r7:=cell_regrown m2;have r8:=cell_regrown m3;cases hx:(Pg.Ln.mk ⟨p,s,f,r⟩ d).meets ⟨mp,ms,mf,mr⟩
   ·rw[HCM.out,hx]at HC
    have HY:Hid _:=HY.out (by rw[hx];rfl);clear hx HCM HN
    go_wp2_with fail
    refine wp_region_quiet_below (by kernel_rfl) (by kernel_rfl) ?_
    repeat (first
     | go_big_quiet_step ((go_at_call 128;exact Calls.regrown_of (HC _))))
    refine wpQuiet_nil ?_;intro _ hw';obtain⟨⟨dq,osq⟩,rfl⟩:=hw';have hb2:=below_regrown wr dq osq;have HL2:Hid (Below w1.heap.size w1 (grow (redrawn wr dq) osq)):=zT HR.out.2.2 hb2;have s0:=r0 dq osq;have s1:=r1 dq osq;have s2:=r2 dq osq;have s3:=r3 dq osq;have s4:=r4 dq osq;have s5:=cell_later hb2 k4;have hown:=zm HR.out.2.1 hb2;have hz2w:=hb2.size;have HO:Hid ((grow (redrawn wr dq) osq).ownsRow w1.heap.size 121 5 (Q ad2 M.length cap2) M.length (zL M)):=hown;generalize grow (redrawn wr dq) osq=w2 at*;clear r0 r1 r2 r3 r4 r5 r6 r7 r8 k0 k1 k2 k3 k4 m0 m1 m2 m3 hc0 HC hb2
    go_wp2_with (first
     | (at_builtin;refine wpList_append_lies _ rfl _ _ 63 rfl w1.heap.size 121 q0 _ 5 40 Tryz.underlying63 hqi hz0 hz1 hz2 rfl (by decide) _ _ _ rfl (hown.alloc _) ⟨w2.heap.size,0,V⟩ 1 1 [C J p,C J s,C J f,C J r,E d] rfl rfl ?c1 ?c2 (by decide) ?c3 ?c4 ?c5 (w2.heap.size+1) (by simp) ?_))
    case c1=>exact fun j u hj=>kS (heap_alloc_new w2 _) j u hj
    case c2=>intro u hu;simp at hu;rcases hu with rfl|rfl|rfl|rfl|rfl<;>rfl
    case c3=>unfold maxLen;omega
    case c4=>omega
    case c5=>simp;omega
    intro g3 cap3 w3 hown3 hgrow hat hlt3
    have fin:Hid (M++[Pg.Ln.mk ⟨p,s,f,r⟩ d]=(L.take (j+1)).filter (fun l=> !l.meets ⟨mp,ms,mf,mr⟩)/\w3.ownsRow w1.heap.size 121 5 (Q (Z ⟨g3,0,V⟩) (M++[Pg.Ln.mk ⟨p,s,f,r⟩ d]).length cap3) (M++[Pg.Ln.mk ⟨p,s,f,r⟩ d]).length (zL (M++[Pg.Ln.mk ⟨p,s,f,r⟩ d]))/\Below w1.heap.size w1 w3):=
     ⟨by rw[HY.out,<-HR.out.1],by rw[xH,K];exact hown3,ydO HL2.out HO.out hgrow⟩
    clear hown3 hgrow hat hlt3 hown
    go_wp2_with fail
    go_roundw
    case rel=>exact⟨j+1,by omega,by go_num,_,cap3,M++[Pg.Ln.mk ⟨p,s,f,r⟩ d],by simp,by simp;omega,fin.out⟩
    case measure=>simp[intOf];omega
   ·rw[HCM.out,hx]at HC
    have HN:Hid _:=HN.out (by rw[hx];rfl);clear hx HCM HY
    go_wp2_with fail
    refine wp_region_quiet_below (by kernel_rfl) (by kernel_rfl) ?_
    repeat (first
     | go_big_quiet_step ((go_at_call 128;exact Calls.regrown_of (HC _))))
    refine wpQuiet_nil ?_;intro _ hw';obtain⟨⟨dq,osq⟩,rfl⟩:=hw';have hb2:=below_regrown wr dq osq;have HL2:Hid (Below w1.heap.size w1 (grow (redrawn wr dq) osq)):=zT HR.out.2.2 hb2;have HO:Hid ((grow (redrawn wr dq) osq).ownsRow w1.heap.size 121 5 (Q ad2 M.length cap2) M.length (zL M)):=zm HR.out.2.1 hb2;generalize grow (redrawn wr dq) osq=w2 at*;clear r0 r1 r2 r3 r4 r5 r6 r7 r8 k0 k1 k2 k3 k4 m0 m1 m2 m3 hc0 HC hb2
    go_wp2_with fail
    go_roundw
    case rel=>exact⟨j+1,by omega,by go_num,_,cap2,M,rfl,by omega,by rw[HN.out];exact HR.out.1,HO.out,HL2.out⟩
    case measure=>simp[intOf];omega
  ·have i1:¬(j:Int)<(L.length:Int):=by omega
   have hMe:M=LD:=by rw[HR.out.1,hkd.out,List.take_of_length_le (by omega)]
   have hfb:=HW.out.fb 0;have hbr:b<wr.heap.size:=HW.out.lb;have HF:Hid _:=HX.out.put (W:=wr) (L':=M) (v':=Q ad2 M.length cap2) ((But.yhf (zT hB.out HR.out.2.2))) (zl.yjo HR.out.2.1) (fun j hj=> .inr (by have:=(HR.out.2.1.lt j hj).1;omega)) (by rw[hMe];exact HKD.out)
   go_wp2_with fail
   go_ret
   obtain⟨f1,f2,f3⟩:=HF.out;rw[hMe]at f1 f2 f3;exact⟨rfl,_,f1,f2,f3⟩
theorem va.yh2 {w:kP} {b g o cap:Nat} {L:List Pg.Ln} (h:va w b (Q (Z ⟨g,o,V⟩) L.length cap) L) (h0:0<L.length) {o':Nat} (ho:o'=o+5\/(cap=1/\o'=o)):
 va (w.setCell ⟨b,0,V⟩ (Q (Z ⟨g,o',V⟩) (L.length-1) (cap-1))) b (Q (Z ⟨g,o',V⟩) (L.length-1) (cap-1)) (L.drop 1)/\Chg b 0 (bkF b (Q (Z ⟨g,o,V⟩) L.length cap)) w (w.setCell ⟨b,0,V⟩ (Q (Z ⟨g,o',V⟩) (L.length-1) (cap-1)))/\(∀k,bkF b (Q (Z ⟨g,o',V⟩) (L.length-1) (cap-1)) k->bkF b (Q (Z ⟨g,o,V⟩) L.length cap) k\/w.heap.size<=k):=by
 have ht:=h.row.tail h0 ho;have e:=(xT L 1).2;rw[show 1*5=5 from rfl]at e;rw[e]at ht;exact h.put (But.refl _ w) (by rw[kV];exact ht) (fun j hj=> .inl hj) h.kept.tail
theorem yee {b:Nat} {vb:Value} {L:List Pg.Ln} (l:Pg.Ln) (hm:Pg.fits l.m.p) (w:kP) (h:va w b vb L):
 Calls A 58 #[kR (Z ⟨b,0,V⟩),l.val] w fun e w'=>e=kJ (E (l.m.code==0))/\∃vb',va w' b vb' (Pg.kPut L l)/\Chg b 0 (bkF b vb) w w'/\∀k,bkF b vb' k->bkF b vb k\/w.heap.size<=k:=by
 have HX:Hid _:=h;have hlF:∀k,bkF b vb k->k<w.heap.size:=fun k hk=>h.lt hk;have HCK:=j7 l.m.p l.m.s l.m.f l.m.r;have hlb:b<w.heap.size:=h.lb
 by_cases hcode:l.m.code=0
 ·have hce:Pg.check l.m.p l.m.s l.m.f l.m.r=0:=hcode
  rw[hce]at HCK
  have hr:(l.m.code==0)=kY:=by simp[hcode]
  have HKK:Hid (Pg.Kept (Pg.kPut L l)):=h.kept.put l;have HLL:Hid ((Pg.yic L l.m).length<=6):=(h.kept.drop l.m).le;have HD:=fun w' (hb:Below w.heap.size w w')=>yaC l.m hm w' (h.grow hb);rw[hr];rw[Pg.ykF hcode]at HKK ⊢;clear h hcode hce hr;generalize Pg.yic L l.m=L1 at*;obtain⟨L2,hL2⟩:∃L2,L2=Pg.yiS L1:=⟨_,rfl⟩;rw[<-hL2]at HKK
  have HLR:Hid (L2.length<=5):=by rw[hL2];exact Pg.yji HLL.out
  have HL2:Hid (L2=Pg.yiS L1):=hL2;clear hL2;generalize bkF b vb=F at*;obtain⟨⟨mp,ms,mf,mr⟩,d⟩:=l;simp only[Pg.Ln.val,Pg.Mp.val]at*
  go_enter Tryz.func58,Tryz.ntmps58
  go_wp2_with fail
  refine(HCK _).mono ?_;rintro e w1 ⟨rfl,hb1⟩;have hx1:∀p,w1.cell? ⟨w.heap.size,p,V⟩=_:=fun p=>hb1.cell (p:=⟨w.heap.size,p,V⟩) (by simp);have hbb:Below w.heap.size w w1:=zT (zA (zR _) _) hb1
  have hs1:w.heap.size<w1.heap.size:=by have:=hb1.size;simp at this;omega
  have HB1:Hid _:=hbb;clear hb1 hbb HCK
  go_wp2_with fail
  refine(HD _ HB1.out).mono ?_;rintro e w2 ⟨rfl,vb2,h2,hc2,hF2⟩
  have hnx:¬F w.heap.size:=fun hf=>by have:=hlF _ hf;omega
  have hx2:∀p,w2.cell? ⟨w.heap.size,p,V⟩=_:=fun p=>(hc2.but.cell (a:=⟨w.heap.size,p,V⟩) hs1 hnx).trans (hx1 p);have hs2:w.heap.size<w2.heap.size:=X hs1 hc2.but.size;have HC2:Hid (Chg b 0 F w w2):=(Chg.yhf (o:=0) HB1.out hlb).trans hc2 (fun i _ hi=>hi);have hF2:Hid (∀k,bkF b vb2 k->F k\/w.heap.size<k):=fun k hk=>(hF2 k hk).imp id (fun h=>by omega);obtain⟨ad2,cap2,rfl⟩:=h2.row.form;have c20:=h2.c0;have l20:=h2.lb;have cf20:=h2.fb 0;clear hc2 HD hx1 HX
  by_cases h6:L1.length=6
  ·have i6:((L1.length:Int)==6)=kY:=by simp[h6]
   have eR:L1.drop 1=L2:=by rw[HL2.out];simp[Pg.yiS,h6]
   have eL:L1.length-1=L2.length:=by rw[<-eR,kV]
   obtain⟨g2,o2,cp,e,hg2,hn2,hn3⟩:=h2.row.shape (by omega);cases e;have H2:Hid _:=h2
   have j1:(1:Int)<=(L1.length:Int):=by omega
   have j2:¬(cap2=1):=by omega
   have j3:cap2<=9223372036854775807:=by unfold maxLen at hn3;omega
   obtain⟨e1,e2,e3⟩:=H2.out.yh2 (by omega) (o':=o2+5) (.inl rfl);rw[eR]at e1;rw[eL]at e1 e2 e3;obtain⟨w3,hw3⟩:∃w3,w3=w2.setCell ⟨b,0,V⟩ (Q (Z ⟨g2,o2+5,V⟩) L2.length (cap2-1)):=⟨_,rfl⟩;rw[<-hw3]at e1 e2;have hnx2:¬bkF b (Q (Z ⟨g2,o2,V⟩) L1.length cap2) w.heap.size:=fun hf=>(hF2.out _ hf).elim hnx (fun h=>by omega);have hx3:∀p,w3.cell? ⟨w.heap.size,p,V⟩=_:=fun p=>(e2.but.cell (a:=⟨w.heap.size,p,V⟩) hs2 hnx2).trans (hx2 p);have lx3:w.heap.size<w3.heap.size:=X hs2 e2.but.size;have HC3:Hid (Chg b 0 F w w3):=HC2.out.trans e2 (fun i hi hg=>(hF2.out i hg).elim id (fun h=>by omega));have HF3:Hid (∀k,bkF b (Q (Z ⟨g2,o2+5,V⟩) L2.length (cap2-1)) k->F k\/w.heap.size<=k):=fun k hk=>(e3 k hk).elim (fun h=>(hF2.out k h).imp id (fun h=>by omega)) (fun h=> .inr (by omega));have x0:w3.cell? ⟨w.heap.size,0,V⟩=Z (C J mp):=(hx3 0).trans (by simp[go_sem]);have x1:w3.cell? ⟨w.heap.size,1,V⟩=Z (C J ms):=(hx3 1).trans (by simp[go_sem]);have x2:w3.cell? ⟨w.heap.size,2,V⟩=Z (C J mf):=(hx3 2).trans (by simp[go_sem]);have x3:w3.cell? ⟨w.heap.size,3,V⟩=Z (C J mr):=(hx3 3).trans (by simp[go_sem]);have x4:w3.cell? ⟨w.heap.size,4,V⟩=Z (E d):=(hx3 4).trans (by simp[go_sem]);have t3:Hid _:=e1;clear hx3 hx2 h2 e2 e3 e1 hg2 hn3 h6
   go_wp2_with fail
   rw[<-hw3];have t3:=t3.out;clear c20 hw3 cf20;obtain⟨ad3,cap3,hv3⟩:∃ad3 cap3,kI (Z ⟨g2,o2+5,V⟩) L2.length (cap2-1)=Q ad3 L2.length cap3:=⟨_,_,rfl⟩;rw[hv3]at t3 HF3;clear hv3;have hown:=t3.row;have r0:=t3.c0;have rf:=t3.fb 0;have hlk:=t3.lb;have hn3:=t3.nb;have hlen3:L2.length<=5:=HLR.out;have HT3:Hid _:=t3;have HK3:Hid (Pg.Kept (L2++[⟨⟨mp,ms,mf,mr⟩,d⟩])):=HKK.out;obtain⟨q0,hqi,hz0,hz1,hz2⟩:=info_parts vE
   have hone:∀u,u ∈ [kZ J mp,C J ms,C J mf,C J mr,E d]->u.oneCell'=kY:=by
    intro u hu;simp at hu;rcases hu with rfl|rfl|rfl|rfl|rfl<;>rfl
   have hm1:L2.length+1<=maxLen:=by unfold maxLen;omega
   have hm2:(L2.length+1)*40<=140737488355328:=by omega
   have hlx:w.heap.size<w3.heap.size:=lx3;have hown':zl (w3.alloc (.cells #[C J mp,C J ms,C J mf,C J mr,E d] 121)).drew 121 5 (Q ad3 L2.length cap3) L2.length (zL L2):=hown.but (F:=fun _=>False) (((But.refl _ w3).alloc _).drew) (fun _ _=>id);obtain⟨g6,o6,cap6,w6,hrun,hO,hBt,hA⟩:=jE (P:=A) (w3.alloc (.cells #[C J mp,C J ms,C J mf,C J mr,E d] 121)).drew 63 63 121 q0 _ 5 40 Tryz.underlying63 hqi hz0 hz1 hz2 rfl (by decide) _ _ _ hown' ⟨w3.heap.size,0,V⟩ 1 1 [C J mp,C J ms,C J mf,C J mr,E d] rfl (fun j u hj=>kS (heap_alloc_new w3 _) j u hj) hone (by decide) hm1 hm2;have hB6:But (fun j=>(kI ad3 L2.length cap3).ownBlock=Z j) w3 w6:=((But.refl _ w3).alloc _).drew.trans hBt (fun _ _ h=>h);have hk6:w6.heap[b]?=w3.heap[b]?:=hB6.block b hlk hn3;have e9:w6.cell? ⟨b,0,V⟩=Z (Q ad3 L2.length cap3):=(I hk6).trans r0;have ef9:w6.frozen? ⟨b,0,V⟩=O:=(U hk6).trans rf
   have hr6:zl w6 121 5 (Q (Z ⟨g6,o6,V⟩) (L2.length+1) cap6) (L2++[Pg.Ln.mk ⟨mp,ms,mf,mr⟩ d]).length (zL (L2++[Pg.Ln.mk ⟨mp,ms,mf,mr⟩ d])):=by
    rw[xH,K];exact hO
   have HF:Hid _:=HT3.out.put hB6 hr6 (fun j hj=>by
    rcases hA with h|h
    ·exact .inl (h.trans hj)
    ·exact .inr (by simp[kC]at hj;simp at h;omega)) HK3.out
   have hlk6:b<w6.heap.size:=X hlk hB6.size;clear t3 lx3 hr6 hB6 hO hA hBt hk6 hown hown'
   go_wp2_with fail
   go_region_law (refine zt rfl (.tmp 31) (.tmp 33) 63 63 rfl (Q ad3 L2.length cap3) (Q (Z ⟨w3.heap.size,0,V⟩) 1 1) (by simp[Act.eval]) (by simp[Act.eval]) hrun ?_)
   all_goals
    go_wp2_with fail
    go_ret
    obtain⟨f1,f2,f3⟩:=HF.out;refine⟨rfl,_,by rw[<-HL2.out];exact f1,HC3.out.trans f2 (fun i hi hg=>(HF3.out i hg).elim id (fun h=>by omega)),fun k hk=>(f3 k hk).elim (HF3.out k) (fun h=> .inr (by omega))⟩
  ·have i6:((L1.length:Int)==6)=O:=by
    have:¬((L1.length:Int)=6):=by omega
    simpa using this
   have eR:L1=L2:=by rw[HL2.out];simp[Pg.yiS,h6]
   rw[eR]at h2 c20 i6 hF2;clear eR;have HC3:Hid _:=HC2.out;have HF3:Hid (∀k,bkF b (Q ad2 L2.length cap2) k->F k\/w.heap.size<=k):=fun k hk=>(hF2.out k hk).imp id (fun h=>by omega);have t3:Hid _:=h2;have x0:w2.cell? ⟨w.heap.size,0,V⟩=Z (C J mp):=(hx2 0).trans (by simp[go_sem]);have x1:w2.cell? ⟨w.heap.size,1,V⟩=Z (C J ms):=(hx2 1).trans (by simp[go_sem]);have x2:w2.cell? ⟨w.heap.size,2,V⟩=Z (C J mf):=(hx2 2).trans (by simp[go_sem]);have x3:w2.cell? ⟨w.heap.size,3,V⟩=Z (C J mr):=(hx2 3).trans (by simp[go_sem]);have x4:w2.cell? ⟨w.heap.size,4,V⟩=Z (E d):=(hx2 4).trans (by simp[go_sem]);have lx3:w.heap.size<w2.heap.size:=hs2;clear hx2 h2 l20
   go_wp2_with fail
   clear c20 cf20;have t3:=t3.out;generalize w2=w3 at*;generalize ad2=ad3 at*;generalize cap2=cap3 at*;have hown:=t3.row;have r0:=t3.c0;have rf:=t3.fb 0;have hlk:=t3.lb;have hn3:=t3.nb;have hlen3:L2.length<=5:=HLR.out;have HT3:Hid _:=t3;have HK3:Hid (Pg.Kept (L2++[⟨⟨mp,ms,mf,mr⟩,d⟩])):=HKK.out;obtain⟨q0,hqi,hz0,hz1,hz2⟩:=info_parts vE
   have hone:∀u,u ∈ [kZ J mp,C J ms,C J mf,C J mr,E d]->u.oneCell'=kY:=by
    intro u hu;simp at hu;rcases hu with rfl|rfl|rfl|rfl|rfl<;>rfl
   have hm1:L2.length+1<=maxLen:=by unfold maxLen;omega
   have hm2:(L2.length+1)*40<=140737488355328:=by omega
   have hlx:w.heap.size<w3.heap.size:=lx3;have hown':zl (w3.alloc (.cells #[C J mp,C J ms,C J mf,C J mr,E d] 121)).drew 121 5 (Q ad3 L2.length cap3) L2.length (zL L2):=hown.but (F:=fun _=>False) (((But.refl _ w3).alloc _).drew) (fun _ _=>id);obtain⟨g6,o6,cap6,w6,hrun,hO,hBt,hA⟩:=jE (P:=A) (w3.alloc (.cells #[C J mp,C J ms,C J mf,C J mr,E d] 121)).drew 63 63 121 q0 _ 5 40 Tryz.underlying63 hqi hz0 hz1 hz2 rfl (by decide) _ _ _ hown' ⟨w3.heap.size,0,V⟩ 1 1 [C J mp,C J ms,C J mf,C J mr,E d] rfl (fun j u hj=>kS (heap_alloc_new w3 _) j u hj) hone (by decide) hm1 hm2;have hB6:But (fun j=>(kI ad3 L2.length cap3).ownBlock=Z j) w3 w6:=((But.refl _ w3).alloc _).drew.trans hBt (fun _ _ h=>h);have hk6:w6.heap[b]?=w3.heap[b]?:=hB6.block b hlk hn3;have e9:w6.cell? ⟨b,0,V⟩=Z (Q ad3 L2.length cap3):=(I hk6).trans r0;have ef9:w6.frozen? ⟨b,0,V⟩=O:=(U hk6).trans rf
   have hr6:zl w6 121 5 (Q (Z ⟨g6,o6,V⟩) (L2.length+1) cap6) (L2++[Pg.Ln.mk ⟨mp,ms,mf,mr⟩ d]).length (zL (L2++[Pg.Ln.mk ⟨mp,ms,mf,mr⟩ d])):=by
    rw[xH,K];exact hO
   have HF:Hid _:=HT3.out.put hB6 hr6 (fun j hj=>by
    rcases hA with h|h
    ·exact .inl (h.trans hj)
    ·exact .inr (by simp[kC]at hj;simp at h;omega)) HK3.out
   have hlk6:b<w6.heap.size:=X hlk hB6.size;clear t3 lx3 hr6 hB6 hO hA hBt hk6 hown hown'
   go_wp2_with fail
   go_region_law (refine zt rfl (.tmp 31) (.tmp 33) 63 63 rfl (Q ad3 L2.length cap3) (Q (Z ⟨w3.heap.size,0,V⟩) 1 1) (by simp[Act.eval]) (by simp[Act.eval]) hrun ?_)
   all_goals
    go_wp2_with fail
    go_ret
    obtain⟨f1,f2,f3⟩:=HF.out;refine⟨rfl,_,by rw[<-HL2.out];exact f1,HC3.out.trans f2 (fun i hi hg=>(HF3.out i hg).elim id (fun h=>by omega)),fun k hk=>(f3 k hk).elim (HF3.out k) (fun h=> .inr (by omega))⟩
 ·have hr:(l.m.code==0)=O:=by simp[hcode]
  have hne:(Pg.check l.m.p l.m.s l.m.f l.m.r !=0)=kY:=by
   have:Pg.check l.m.p l.m.s l.m.f l.m.r≠0:=hcode
   simpa using this
  rw[hr,Pg.yk7 hcode];clear hcode hr h;obtain⟨⟨mp,ms,mf,mr⟩,d⟩:=l;simp only at HCK hne;simp only[Pg.Ln.val];generalize Pg.check mp ms mf mr=x at*
  go_enter Tryz.func58,Tryz.ntmps58
  go_wp2_with fail
  refine(HCK _).mono ?_;rintro e w1 ⟨rfl,hb1⟩;have HB:Hid (Below w.heap.size w w1):=zT (zA (zR _) _) hb1;clear hb1
  go_wp2_with fail
  go_ret
  exact⟨rfl,_,HX.out.grow HB.out,Chg.yhf HB.out hlb,fun k hk=> .inl hk⟩
namespace Tk
variable {w0 wc wd:kP} {bf:Nat} {F F':Nat->Prop} {S S':Pg.Fs}
end Tk
theorem ygr (S:Pg.Fs):S.take.n=S.n:=by
 unfold Pg.Fs.take;split
 ·rfl
 ·split<;>rfl
theorem ykD (p s:Int):∀(lv:Nat) (S:Pg.Fs) (t:Int),(Pg.insW p s lv S t).1.n=S.n
 | 0,S,t=>rfl
 | lv+1,S,t=>by
   rw[Pg.insW];split
   ·rfl
   ·rw[ykD p s lv,(Pg.yh1 _ _ _ _).1,ygr]
theorem yaN:∀(G:List Int) (x:Int) (S:Pg.Fs),Pg.gives (G++[x]) S=(Pg.gives G S).give x
 | [],x,S=>rfl
 | y::r,x,S=>by
   show Pg.gives (r++[x]) (S.give y)=_
   rw[yaN r x (S.give y)];rfl
namespace Pg
end Pg
end Go.Proofs.YtdphiompijbelaaGreat
