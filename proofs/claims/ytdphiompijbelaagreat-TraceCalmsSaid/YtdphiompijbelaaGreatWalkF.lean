import Derived.Test.YtdphiompijbelaaGreatCdA
set_option linter.all false
set_option maxRecDepth 100000
open Go.Obj renaming cells->A
open List renaming length_singleton->K,length_append->D
open Go renaming Value->O,World->M,bodyPost_ret->L,cell_regrown->q
open Go.RowKit renaming Hid->U
open Bool renaming false->T,true->x
open Go.IntKind renaming i64->C
open Go.World renaming cell?_setCell_other->B,cell?_of_block->R,block_lt_of_cell?->Y,frozen?_of_block->Q,frozen?_setCell->Z,cell?_setCell_same->H,ownsRow->y
open Go.Value renaming bool->J,int->P,slice->V,tuple->z
open Option renaming none->I,some->N
namespace Go.Proofs.YtdphiompijbelaaGreat
open Go.RowKit Go.Sort
section
attribute [local go_sem] Loose.gent
def jN (w:M) (b:Nat) (v0:O) (e:Pg.En) (lv:Int):Prop:=
 w.cell? ⟨b,0,I⟩=N v0/\w.cell? ⟨b,1,I⟩=N (J e.t)/\w.cell? ⟨b,2,I⟩=N (J e.l)/\w.cell? ⟨b,3,I⟩=N (P C e.r)/\w.cell? ⟨b,4,I⟩=N (J e.u)/\w.cell? ⟨b,5,I⟩=N (J e.d)/\w.cell? ⟨b,6,I⟩=N (P C e.f)/\w.cell? ⟨b,7,I⟩=N (P C lv)
theorem jN.of_block {w w':M} {b:Nat} {v0:O} {e:Pg.En} {lv:Int} (hk:w'.heap[b]?=w.heap[b]?) (h:jN w b v0 e lv):jN w' b v0 e lv:=
 ⟨(R hk).trans h.1,(R hk).trans h.2.1,(R hk).trans h.2.2.1,(R hk).trans h.2.2.2.1,(R hk).trans h.2.2.2.2.1,(R hk).trans h.2.2.2.2.2.1,(R hk).trans h.2.2.2.2.2.2.1,(R hk).trans h.2.2.2.2.2.2.2⟩
theorem jN.lb {w:M} {b:Nat} {v0:O} {e:Pg.En} {lv:Int} (h:jN w b v0 e lv):b<w.heap.size:=Y _ _ h.1
structure jA (w0:M) (X:List Pg.Sp) (lv:Int) (vb:O) (wr:M):Prop where
 bel:Lw w0 wr
 r:jN wr w0.heap.size (V I 0 0) Pg.En.zero 0
 rf:∀o,wr.frozen? ⟨w0.heap.size,o,I⟩=T
 c:jN wr (w0.heap.size+1) vb Pg.En.zero lv
 cf:∀o,wr.frozen? ⟨w0.heap.size+1,o,I⟩=T
 own:wr.ownsRow (w0.heap.size+1+1) 3 1 vb X.length (xn (tabs X))
namespace jA
variable {w0 wr w':M} {X:List Pg.Sp} {lv:Int} {vb:O}
theorem grow (h:jA w0 X lv vb wr) (hb:Lw wr w'):jA w0 X lv vb w':=
 ⟨h.bel.trans (hb.mono h.bel.size),h.r.of_block (hb.block _ h.r.lb),fun o=>(hb.frozen (p:=⟨w0.heap.size,o,I⟩) h.r.lb).trans (h.rf o),h.c.of_block (hb.block _ h.c.lb),fun o=>(hb.frozen (p:=⟨w0.heap.size+1,o,I⟩) h.c.lb).trans (h.cf o),zn h.own hb⟩
end jA
theorem jN.set0 {w:M} {b:Nat} {v0:O} {e:Pg.En} {lv:Int} (h:jN w b v0 e lv) (v:O):jN (w.setCell ⟨b,0,I⟩ v) b v e lv:=
 ⟨H _ _ _ h.1,(B _ _ _ _ (by simp)).trans h.2.1,(B _ _ _ _ (by simp)).trans h.2.2.1,(B _ _ _ _ (by simp)).trans h.2.2.2.1,(B _ _ _ _ (by simp)).trans h.2.2.2.2.1,(B _ _ _ _ (by simp)).trans h.2.2.2.2.2.1,(B _ _ _ _ (by simp)).trans h.2.2.2.2.2.2.1,(B _ _ _ _ (by simp)).trans h.2.2.2.2.2.2.2⟩
theorem jN.set7 {w:M} {b:Nat} {v0:O} {e:Pg.En} {lv:Int} (h:jN w b v0 e lv) (l:Int):jN (w.setCell ⟨b,7,I⟩ (P C l)) b v0 e l:=
 ⟨(B _ _ _ _ (by simp)).trans h.1,(B _ _ _ _ (by simp)).trans h.2.1,(B _ _ _ _ (by simp)).trans h.2.2.1,(B _ _ _ _ (by simp)).trans h.2.2.2.1,(B _ _ _ _ (by simp)).trans h.2.2.2.2.1,(B _ _ _ _ (by simp)).trans h.2.2.2.2.2.1,(B _ _ _ _ (by simp)).trans h.2.2.2.2.2.2.1,H _ _ _ h.2.2.2.2.2.2.2⟩
theorem jA.lower {w0 wr:M} {X:List Pg.Sp} {lv:Int} {vb:O} (h:jA w0 X lv vb wr) (l:Int):jA w0 X l vb (wr.setCell ⟨w0.heap.size+1,7,I⟩ (P C l)):=by
 have hk:∀k,k≠w0.heap.size+1->(wr.setCell ⟨w0.heap.size+1,7,I⟩ (P C l)).heap[k]?=wr.heap[k]?:=fun k hk=>Below.heap_setCell _ _ _ _ hk;refine⟨h.bel.setCell (by simp) _,h.r.of_block (hk _ (by omega)),fun o=>by rw[Z];exact h.rf o,h.c.set7 l,fun o=>by rw[Z];exact h.cf o,zb h.own fun k bE=>hk k (fun e=> ?_)⟩;have:=(h.own.lt k bE).1;omega
theorem jA.push {w0 W w6:M} {X:List Pg.Sp} {lv:Int} {vb:O} {g cap:Nat} {t:Int} (h:jA w0 X lv vb W) (G:ygV (w0.heap.size+1) vb W w6 g) (ho:w6.ownsRow (w0.heap.size+1+1) 3 1 (V (N ⟨g,0,I⟩) (X.length+1) cap) (X.length+1) (xn (tabs X)++[P C t])) (s:Pg.Sp) (hs:s.table=t):
 jA w0 (X++[s]) lv (V (N ⟨g,0,I⟩) (X.length+1) cap) (w6.setCell ⟨w0.heap.size+1,0,I⟩ (V (N ⟨g,0,I⟩) (X.length+1) cap)):=by
 have hk:∀k,k≠w0.heap.size+1->(w6.setCell ⟨w0.heap.size+1,0,I⟩ (V (N ⟨g,0,I⟩) (X.length+1) cap)).heap[k]?=w6.heap[k]?:=fun k hk=>Below.heap_setCell _ _ _ _ hk;have hr:=h.r.lb;have hc:=h.c.lb
 have b0:w6.heap[w0.heap.size]?=W.heap[w0.heap.size]?:=G.but.block _ hr fun e=>by have:=G.far _ e;omega
 have b1:w6.heap[w0.heap.size+1]?=W.heap[w0.heap.size+1]?:=G.but.block _ hc fun e=>by have:=G.far _ e;omega
 have hB:Below w0.heap.size W w6:=G.but.below h.bel.size fun k hk=>by have:=G.far k hk;omega
 refine⟨(h.bel.trans hB).setCell (by simp) _,(h.r.of_block b0).of_block (hk _ (by omega)),fun o=> ?_,(h.c.of_block b1).set0 _,fun o=> ?_,?_⟩
 ·rw[Z,Q b0];exact h.rf o
 ·rw[Z,Q b1];exact h.cf o
 ·rw[ycq,hs,D,K]
  refine zb ho fun k bE=>hk k (fun e=> ?_)
  have e1:g=k:=by simpa[Value.ownBlock]using bE
  have:=G.gc;omega
def yaE (X:List Pg.Sp) (v:O):O:= .agg #[v,J (yhO X).t,J (yhO X).l,P C (yhO X).r,J (yhO X).u,J (yhO X).d,P C (yhO X).f,P C (yhQ X)]
structure yet (w:M) (X:List Pg.Sp) (c:Int) (e:Ending) (w':M):Prop where
 end':∃ad cap,e= .returned (z #[yaE X (V ad X.length cap),P C c])/\zq w' ad (tabs X)
 bel:Lw w w'
 new:∀g n c d,e= .returned (z #[yaE X (V (N ⟨g,0,I⟩) n c),d])->w.heap.size<=g
theorem ydj {F:Nat->Prop} {w w1:M} (h:But F w w1) (r:Nat) (hr:w.heap.size<=r\/F r) (x0 x1 x2 x3 x4 x5 x6 x7:O):
 But F w ((((((((w1.setCell ⟨r,0,I⟩ x0).setCell ⟨r,1,I⟩ x1).setCell ⟨r,2,I⟩ x2).setCell ⟨r,3,I⟩ x3).setCell ⟨r,4,I⟩ x4).setCell ⟨r,5,I⟩ x5).setCell ⟨r,6,I⟩ x6).setCell ⟨r,7,I⟩ x7):=
 (((((((h.setCell (a:=⟨r,0,I⟩) hr x0).setCell (a:=⟨r,1,I⟩) hr x1).setCell (a:=⟨r,2,I⟩) hr x2).setCell (a:=⟨r,3,I⟩) hr x3).setCell (a:=⟨r,4,I⟩) hr x4).setCell (a:=⟨r,5,I⟩) hr x5).setCell (a:=⟨r,6,I⟩) hr x6).setCell (a:=⟨r,7,I⟩) hr x7
set_option maxHeartbeats 4000000 in
theorem jK {b g0 g1:Nat} {vm:O} {S:Pg.Fs} (t p:Int) (w:M) (h:zj w b g0 g1 vm S):
 Calls Tryz.prog 71 #[.pointer (N ⟨b,0,I⟩),P C t,P C p] w fun e w'=>yet w (zg S t p) (xQ S t p) e w':=by
 cases hp:Pg.below p 4096
 ·have e1:zg S t p=[]:=by simp[zg,hp]
  have e2:xQ S t p=1:=by simp[xQ,hp]
  rw[e1,e2]
  have hq:decide (p<0)=x\/(decide (p<0)=T/\4096<=p):=by
   rcases Pg.ykx.1 hp with h|h
   ·exact .inl (by simpa using h)
   ·exact .inr ⟨by simp;omega,h⟩
  clear h e1 e2 hp;rcases hq with hq|⟨hq,Ae⟩
  all_goals
   go_enter Tryz.func71,Tryz.ntmps71
   go_wp2
   refine L (v:=z #[yaE [] (V I 0 0),P C 1]) ?_ rfl ⟨⟨I,0,rfl,fun j hj=>absurd hj (by simp[tabs])⟩,?_,fun _ _ _ _ h=>by simp[yaE]at h⟩
   ·simp[results,Tryz.results71,go_sem,yaE,yhQ,yhO,Pg.En.zero]
   ·exact zA (zR w) _
 ·obtain⟨p0,p1⟩:=Pg.zB.1 hp
  have HM:U _:=h;have HP:U _:=hp
  have e2:xQ S t p=(Pg.thr S (Pg.onW p) 3 t 0).2:=by simp[xQ,hp]
  have e1:zg S t p=if (Pg.thr S (Pg.onW p) 3 t 0).2=0 then(Pg.thr S (Pg.onW p) 3 t 0).1 else []:=by simp[zg,hp]
  rw[e1,e2]
  have d0:decide (p<0)=T:=by simpa using p0
  have d1:¬(4096:Int)<=p:=by omega
  have HW:U (jA w [] 3 (V I 0 0) ((w.alloc (A #[V I 0 0,J T,J T,P C 0,J T,J T,P C 0,P C 0] 142)).alloc (A #[V I 0 0,J T,J T,P C 0,J T,J T,P C 0,P C 3] 142))):=by
   refine⟨zA (zA (zR w) _) _,?_,fun o=>by simp[go_sem],?_,fun o=>by simp[go_sem],World.ownsRow_nil _ _ _ _⟩
   ·refine⟨?_,?_,?_,?_,?_,?_,?_,?_⟩<;>simp[go_sem,Pg.En.zero]
   ·refine⟨?_,?_,?_,?_,?_,?_,?_,?_⟩<;>simp[go_sem,Pg.En.zero]
  clear h e1 e2 hp;obtain⟨q0,hq,rW,tJ,rX⟩:=info_parts qE;generalize aY:Pg.thr S (Pg.onW p) 3 t 0=th;have HTH:U _:=aY;clear aY;obtain⟨Xf,FO⟩:∃Xf,U (Xf=if th.2=0 then th.1 else []):=⟨_,rfl⟩;obtain⟨cf,Fg⟩:∃cf,U (cf=th.2):=⟨_,rfl⟩;rw[<-FO.out,<-Fg.out]
  go_enter Tryz.func71,Tryz.ntmps71
  go_wp2
  go_loopw [9] (fun i wr=>∃(lv:Nat) (t':Int) (a:Nat) (X:List Pg.Sp) (vb:O),i=P C t'/\lv<4/\X.length+lv=3/\U (jA w X lv vb wr/\th=(X++(Pg.thr S (Pg.onW p) lv t' a).1,(Pg.thr S (Pg.onW p) lv t' a).2))) (fun _ wr=>match wr.cell? ⟨w.heap.size+1,7,I⟩with|some v=>(intOf v).toNat|none=>0)
  case atStart=>exact⟨3,t,0,[],V I 0 0,rfl,by omega,rfl,HW.out,by rw[HTH.out];rfl⟩
  case round=>
   obtain⟨lv,t',a,X,vb,rfl,rQ,hXl,HR⟩:=hrel;clear HW;have ax:=Pg.yid S p lv t' a;have mq:U _:=HM.out.keep (F:=fun k=>w.heap.size<=k) (w':=wr) ⟨HR.out.1.bel.os,HR.out.1.bel.tape,HR.out.1.bel.output,HR.out.1.bel.size,fun k hk _=>HR.out.1.bel.block k hk⟩ (fun k hk=>by have:=HM.out.raw.lt hk;omega);have HT:=xv t' wr mq.out;have hlr:=HR.out.1.r.lb;have ML:=HR.out.1.c.lb;have oZ:=HR.out.1.rf;have Mw:=HR.out.1.cf;obtain⟨r0,r1,r2,r3,r4,r5,r6,r7⟩:=HR.out.1.r;obtain⟨k0,k1,k2,k3,k4,k5,k6,k7⟩:=HR.out.1.c;simp only[Pg.En.zero]at r1 r2 r3 r4 r5 r6 k1 k2 k3 k4 k5 k6;cases hh:S.has t'
   ·have kS:Pg.yhR S t' (Pg.ix p lv) lv=12:=by simp[Pg.yhR,hh]
    rw[kS,iP (by decide)]at ax
    have HE:U (Xf=[]/\cf=12):=by
     have h1:=HR.out.2;rw[ax]at h1;rw[U,FO.out,Fg.out,h1];simp
    rw[hh]at HT;clear ax kS hh
    go_wp2_with (go_at_call 103;refine HT.mono ?_;rintro e w1 ⟨rfl,hw⟩;subst w1)
    refine L (v:=z #[yaE [] (V I 0 0),P C 12]) ?_ rfl ?_
    ·simp[results,Tryz.results71,go_sem,yaE,yhQ,yhO,Pg.En.zero,r0,r1,r2,r3,r4,r5,r6,r7]
    ·rw[HE.out.1,HE.out.2]
     have fI:=ydj (But.refl (fun k=>k=w.heap.size) wr) w.heap.size (.inr rfl) (V I 0 0) (J T) (J T) (P C 0) (J T) (J T) (P C 0) (P C 0);exact⟨⟨I,0,rfl,fun j hj=>absurd hj (by simp[tabs])⟩,HR.out.1.bel.trans (fI.below HR.out.1.bel.size fun k hk=>by omega),fun _ _ _ _ h=>by simp[yaE]at h⟩
   ·obtain⟨t0,t1,_⟩:=mq.out.ok.yh4 hh
    obtain⟨tn,rfl⟩:=Int.eq_ofNat_of_zero_le t0;have dN:=Pg.yiw p lv;have gI:=mq.out.ok.small;have m0:=mq.out.raw.c0;have mw:=mq.out.raw.cw tn (Pg.ix p lv) (by omega) dN;have u0:=mq.out.ok.low tn (Pg.ix p lv);have u1:=mq.out.ok.high tn (Pg.ix p lv)
    have kS:Pg.yhR S (tn:Int) (Pg.ix p lv) lv=Pg.yhV (S.word tn (Pg.ix p lv)) lv:=by simp[Pg.yhR,hh]
    have BC:Pg.rEn S (tn:Int) (Pg.ix p lv) lv=Pg.En.of (S.word tn (Pg.ix p lv)) lv:=by simp[Pg.rEn,hh]
    have fG:=zQ p (lv:Int);rw[Pg.yhY HP.out rQ]at fG;have kZ:=jr (S.word tn (Pg.ix p lv)) (lv:Int) u0 u1;rw[Pg.yjw,<-BC,<-kS]at kZ;rw[hh]at HT;generalize S.word tn (Pg.ix p lv)=W at*;clear BC kS hh u0 u1 t0;have CZ:U _:=ax;have Lm:U (∀a,Pg.spt S (tn:Int) (Pg.ix p lv) lv a=⟨(tn:Int),Pg.ix p lv,lv,a+Pg.ix p lv,Pg.rEn S (tn:Int) (Pg.ix p lv) lv⟩):=fun a=>rfl;have WS:U _:= @Pg.yib S (tn:Int) (Pg.ix p lv) lv;clear ax;generalize Pg.yhR S (tn:Int) (Pg.ix p lv) lv=rc at*;generalize Pg.rEn S (tn:Int) (Pg.ix p lv) lv=E at*;generalize bD:Pg.ix p lv=ix at*;have uR:U _:=bD;clear bD;obtain⟨et,el,er,eu,ed,ef⟩:=E;simp only[Pg.En.val]at kZ
    have i0:(0:Int)<=(tn:Int):=by omega
    have i1:(tn:Int)<(S.n:Int):=by omega
    have i2:(0:Int)<=(ix:Int):=by omega
    have i3:(ix:Int)<8:=by omega
    have M0:=q m0;have MW:=q mw;have K7:=q k7
    go_wp2_with (go_at_call 103;refine HT.mono ?_;rintro e w1 ⟨rfl,hw⟩;subst w1)
    have rV:=mq.out.raw.lb;have hgl:=mq.out.raw.l0
    have xn0:wr.heap.size≠b:=by omega
    have xm0:b≠wr.heap.size:=by omega
    have xn1:wr.heap.size≠g0:=by omega
    have xm1:g0≠wr.heap.size:=by omega
    have xn2:wr.heap.size≠w.heap.size+1:=by omega
    have xm2:w.heap.size+1≠wr.heap.size:=by omega
    go_region_held3 (fun w'=>w'.cell? ⟨b,0,I⟩=N (V (N ⟨g0,0,I⟩) S.n S.n)/\w'.cell? ⟨g0,tn*8+ix,I⟩=N (P .u64 W)/\w'.cell? ⟨w.heap.size+1,7,I⟩=N (P C (lv:Int))) (go_keep) (first
     | (go_at_call 104;refine(fG _).mono ?_;rintro e w2 ⟨rfl,Hd⟩;have Ht:U _:=Hd;have z0:w2.cell? ⟨b,0,I⟩=N (V (N ⟨g0,0,I⟩) S.n S.n):=(Hd.cell (p:=⟨b,0,I⟩) (by first|omega|(simp;omega))).trans (by first|exact m0|(simp[go_sem,m0,rV];done));have Cs:=Y _ _ z0;simp only at Cs;have z1:w2.cell? ⟨g0,tn*8+ix,I⟩=N (P .u64 W):=(Hd.cell (p:=⟨g0,tn*8+ix,I⟩) (by first|omega|(simp;omega))).trans (by first|exact mw|(simp[go_sem,mw,hgl];done));have Ct:=Y _ _ z1;simp only at Ct;have z2:w2.cell? ⟨w.heap.size+1,7,I⟩=N (P C (lv:Int)):=(Hd.cell (p:=⟨w.heap.size+1,7,I⟩) (by first|omega|(simp;omega))).trans (by first|exact k7|(simp[go_sem,k7,ML];done));have Cu:=Y _ _ z2;simp only at Cu;(try have s2:wr.heap.size<w2.heap.size:=(by have:=Hd.size;simp at this;omega));have Ow:w2.heap.size≠b:=(by omega);have Ot:b≠w2.heap.size:=(by omega);have Ox:w2.heap.size≠g0:=(by omega);have Ou:g0≠w2.heap.size:=(by omega);have Oy:w2.heap.size≠w.heap.size+1:=(by omega);have Ov:w.heap.size+1≠w2.heap.size:=(by omega);obtain⟨nW,kH⟩:=xV Hd;clear Hd)
     | (go_at_call 105;refine(kZ _).mono ?_;rintro e w3 ⟨rfl,He⟩;have rE:U _:=He;have y0:w3.cell? ⟨b,0,I⟩=N (V (N ⟨g0,0,I⟩) S.n S.n):=(He.cell (p:=⟨b,0,I⟩) (by first|omega|(simp;omega))).trans (by first|exact z0|(simp[go_sem,z0,Cs];done));have Nl:=Y _ _ y0;simp only at Nl;have y1:w3.cell? ⟨g0,tn*8+ix,I⟩=N (P .u64 W):=(He.cell (p:=⟨g0,tn*8+ix,I⟩) (by first|omega|(simp;omega))).trans (by first|exact z1|(simp[go_sem,z1,Ct];done));have Nn:=Y _ _ y1;simp only at Nn;have y2:w3.cell? ⟨w.heap.size+1,7,I⟩=N (P C (lv:Int)):=(He.cell (p:=⟨w.heap.size+1,7,I⟩) (by first|omega|(simp;omega))).trans (by first|exact z2|(simp[go_sem,z2,Cu];done));have DK:=Y _ _ y2;simp only at DK;have Om:w3.heap.size≠b:=(by omega);have Oi:b≠w3.heap.size:=(by omega);have Oo:w3.heap.size≠g0:=(by omega);have Oj:g0≠w3.heap.size:=(by omega);have Oq:w3.heap.size≠w.heap.size+1:=(by omega);have Ol:w.heap.size+1≠w3.heap.size:=(by omega);obtain⟨iH,PU⟩:=xV He;clear He))
    focus
     have nR:Lw wr (w3.alloc (A #[J et,J el,P C er,J eu,J ed,P C ef] 70))/\wr.heap.size<=w3.heap.size/\((w3.alloc (A #[J et,J el,P C er,J eu,J ed,P C ef] 70)).cell? ⟨w3.heap.size,0,I⟩=N (J et)/\(w3.alloc (A #[J et,J el,P C er,J eu,J ed,P C ef] 70)).cell? ⟨w3.heap.size,1,I⟩=N (J el)/\(w3.alloc (A #[J et,J el,P C er,J eu,J ed,P C ef] 70)).cell? ⟨w3.heap.size,2,I⟩=N (P C er)/\(w3.alloc (A #[J et,J el,P C er,J eu,J ed,P C ef] 70)).cell? ⟨w3.heap.size,3,I⟩=N (J eu)/\(w3.alloc (A #[J et,J el,P C er,J eu,J ed,P C ef] 70)).cell? ⟨w3.heap.size,4,I⟩=N (J ed)/\(w3.alloc (A #[J et,J el,P C er,J eu,J ed,P C ef] 70)).cell? ⟨w3.heap.size,5,I⟩=N (P C ef)):=by
      have pE:=zT (zT (zR wr).drew Ht.out) rE.out;exact⟨zA pE _,pE.size,by simp[go_sem]⟩
     generalize w3.alloc (A #[J et,J el,P C er,J eu,J ed,P C ef] 70)=W5 at*;generalize w3.heap.size=Eb at*;obtain⟨kY,Gc,ug⟩:=nR;have EB:U _:=kY;have E6:U _:=ug;clear kY ug nW kH iH PU z0 z1 z2 Cs Ct Cu y0 y1 y2 Nl Nn DK Ow Ox Oy Ot Ou Ov Om Oo Oq Oi Oj Ol Ht rE
    rotate_left
    focus
     have nR:Lw wr (((((((w3.setCell ⟨w2.heap.size,0,I⟩ (J et)).setCell ⟨w2.heap.size,1,I⟩ (J el)).setCell ⟨w2.heap.size,2,I⟩ (P C er)).setCell ⟨w2.heap.size,3,I⟩ (J eu)).setCell ⟨w2.heap.size,4,I⟩ (J ed)).setCell ⟨w2.heap.size,5,I⟩ (P C ef)))/\wr.heap.size<=w2.heap.size/\((((((((w3.setCell ⟨w2.heap.size,0,I⟩ (J et)).setCell ⟨w2.heap.size,1,I⟩ (J el)).setCell ⟨w2.heap.size,2,I⟩ (P C er)).setCell ⟨w2.heap.size,3,I⟩ (J eu)).setCell ⟨w2.heap.size,4,I⟩ (J ed)).setCell ⟨w2.heap.size,5,I⟩ (P C ef))).cell? ⟨w2.heap.size,0,I⟩=N (J et)/\(((((((w3.setCell ⟨w2.heap.size,0,I⟩ (J et)).setCell ⟨w2.heap.size,1,I⟩ (J el)).setCell ⟨w2.heap.size,2,I⟩ (P C er)).setCell ⟨w2.heap.size,3,I⟩ (J eu)).setCell ⟨w2.heap.size,4,I⟩ (J ed)).setCell ⟨w2.heap.size,5,I⟩ (P C ef))).cell? ⟨w2.heap.size,1,I⟩=N (J el)/\(((((((w3.setCell ⟨w2.heap.size,0,I⟩ (J et)).setCell ⟨w2.heap.size,1,I⟩ (J el)).setCell ⟨w2.heap.size,2,I⟩ (P C er)).setCell ⟨w2.heap.size,3,I⟩ (J eu)).setCell ⟨w2.heap.size,4,I⟩ (J ed)).setCell ⟨w2.heap.size,5,I⟩ (P C ef))).cell? ⟨w2.heap.size,2,I⟩=N (P C er)/\(((((((w3.setCell ⟨w2.heap.size,0,I⟩ (J et)).setCell ⟨w2.heap.size,1,I⟩ (J el)).setCell ⟨w2.heap.size,2,I⟩ (P C er)).setCell ⟨w2.heap.size,3,I⟩ (J eu)).setCell ⟨w2.heap.size,4,I⟩ (J ed)).setCell ⟨w2.heap.size,5,I⟩ (P C ef))).cell? ⟨w2.heap.size,3,I⟩=N (J eu)/\(((((((w3.setCell ⟨w2.heap.size,0,I⟩ (J et)).setCell ⟨w2.heap.size,1,I⟩ (J el)).setCell ⟨w2.heap.size,2,I⟩ (P C er)).setCell ⟨w2.heap.size,3,I⟩ (J eu)).setCell ⟨w2.heap.size,4,I⟩ (J ed)).setCell ⟨w2.heap.size,5,I⟩ (P C ef))).cell? ⟨w2.heap.size,4,I⟩=N (J ed)/\(((((((w3.setCell ⟨w2.heap.size,0,I⟩ (J et)).setCell ⟨w2.heap.size,1,I⟩ (J el)).setCell ⟨w2.heap.size,2,I⟩ (P C er)).setCell ⟨w2.heap.size,3,I⟩ (J eu)).setCell ⟨w2.heap.size,4,I⟩ (J ed)).setCell ⟨w2.heap.size,5,I⟩ (P C ef))).cell? ⟨w2.heap.size,5,I⟩=N (P C ef)):=by
      have tL:=zT (zR wr).drew Ht.out;have pE:=zT (zA tL _) rE.out
      have h6:w3.cell? ⟨w2.heap.size,0,I⟩=N (J T)/\w3.cell? ⟨w2.heap.size,1,I⟩=N (J T)/\w3.cell? ⟨w2.heap.size,2,I⟩=N (P C 0)/\w3.cell? ⟨w2.heap.size,3,I⟩=N (J T)/\w3.cell? ⟨w2.heap.size,4,I⟩=N (J T)/\w3.cell? ⟨w2.heap.size,5,I⟩=N (P C 0):=by
       refine⟨?_,?_,?_,?_,?_,?_⟩<;>(rw[iH _ _ (by simp)];simp[go_sem])
      have sM:=yac (v0:=J et) (v1:=J el) (v2:=P C er) (v3:=J eu) (v4:=J ed) (v5:=P C ef) pE tL.size h6;exact⟨sM.1,tL.size,sM.2.1⟩
     generalize ((((((w3.setCell ⟨w2.heap.size,0,I⟩ (J et)).setCell ⟨w2.heap.size,1,I⟩ (J el)).setCell ⟨w2.heap.size,2,I⟩ (P C er)).setCell ⟨w2.heap.size,3,I⟩ (J eu)).setCell ⟨w2.heap.size,4,I⟩ (J ed)).setCell ⟨w2.heap.size,5,I⟩ (P C ef))=W5 at*;generalize w2.heap.size=Eb at*;obtain⟨kY,Gc,ug⟩:=nR;have EB:U _:=kY;have E6:U _:=ug;clear kY ug nW kH iH PU z0 z1 z2 Cs Ct Cu y0 y1 y2 Nl Nn DK Ow Ox Oy Ot Ou Ov Om Oo Oq Oi Oj Ol Ht rE
    rotate_left
    focus
     obtain⟨Eb,l9⟩:=eY (wr.heap.size);rw[<-l9]
     have nR:Lw wr (((((((w3.setCell ⟨Eb,0,I⟩ (J et)).setCell ⟨Eb,1,I⟩ (J el)).setCell ⟨Eb,2,I⟩ (P C er)).setCell ⟨Eb,3,I⟩ (J eu)).setCell ⟨Eb,4,I⟩ (J ed)).setCell ⟨Eb,5,I⟩ (P C ef)))/\wr.heap.size<=Eb/\((((((((w3.setCell ⟨Eb,0,I⟩ (J et)).setCell ⟨Eb,1,I⟩ (J el)).setCell ⟨Eb,2,I⟩ (P C er)).setCell ⟨Eb,3,I⟩ (J eu)).setCell ⟨Eb,4,I⟩ (J ed)).setCell ⟨Eb,5,I⟩ (P C ef))).cell? ⟨Eb,0,I⟩=N (J et)/\(((((((w3.setCell ⟨Eb,0,I⟩ (J et)).setCell ⟨Eb,1,I⟩ (J el)).setCell ⟨Eb,2,I⟩ (P C er)).setCell ⟨Eb,3,I⟩ (J eu)).setCell ⟨Eb,4,I⟩ (J ed)).setCell ⟨Eb,5,I⟩ (P C ef))).cell? ⟨Eb,1,I⟩=N (J el)/\(((((((w3.setCell ⟨Eb,0,I⟩ (J et)).setCell ⟨Eb,1,I⟩ (J el)).setCell ⟨Eb,2,I⟩ (P C er)).setCell ⟨Eb,3,I⟩ (J eu)).setCell ⟨Eb,4,I⟩ (J ed)).setCell ⟨Eb,5,I⟩ (P C ef))).cell? ⟨Eb,2,I⟩=N (P C er)/\(((((((w3.setCell ⟨Eb,0,I⟩ (J et)).setCell ⟨Eb,1,I⟩ (J el)).setCell ⟨Eb,2,I⟩ (P C er)).setCell ⟨Eb,3,I⟩ (J eu)).setCell ⟨Eb,4,I⟩ (J ed)).setCell ⟨Eb,5,I⟩ (P C ef))).cell? ⟨Eb,3,I⟩=N (J eu)/\(((((((w3.setCell ⟨Eb,0,I⟩ (J et)).setCell ⟨Eb,1,I⟩ (J el)).setCell ⟨Eb,2,I⟩ (P C er)).setCell ⟨Eb,3,I⟩ (J eu)).setCell ⟨Eb,4,I⟩ (J ed)).setCell ⟨Eb,5,I⟩ (P C ef))).cell? ⟨Eb,4,I⟩=N (J ed)/\(((((((w3.setCell ⟨Eb,0,I⟩ (J et)).setCell ⟨Eb,1,I⟩ (J el)).setCell ⟨Eb,2,I⟩ (P C er)).setCell ⟨Eb,3,I⟩ (J eu)).setCell ⟨Eb,4,I⟩ (J ed)).setCell ⟨Eb,5,I⟩ (P C ef))).cell? ⟨Eb,5,I⟩=N (P C ef)):=by
      subst l9;have tL:=zT (zA (zR wr) _).drew Ht.out;have pE:=zT tL rE.out
      have h6:w3.cell? ⟨wr.heap.size,0,I⟩=N (J T)/\w3.cell? ⟨wr.heap.size,1,I⟩=N (J T)/\w3.cell? ⟨wr.heap.size,2,I⟩=N (P C 0)/\w3.cell? ⟨wr.heap.size,3,I⟩=N (J T)/\w3.cell? ⟨wr.heap.size,4,I⟩=N (J T)/\w3.cell? ⟨wr.heap.size,5,I⟩=N (P C 0):=by
       refine⟨?_,?_,?_,?_,?_,?_⟩<;>(rw[iH _ _ s2,nW _ _ (by simp)];simp[go_sem])
      have sM:=yac (v0:=J et) (v1:=J el) (v2:=P C er) (v3:=J eu) (v4:=J ed) (v5:=P C ef) pE (Nat.le_refl _) h6;exact⟨sM.1,Nat.le_refl _,sM.2.1⟩
     generalize ((((((w3.setCell ⟨Eb,0,I⟩ (J et)).setCell ⟨Eb,1,I⟩ (J el)).setCell ⟨Eb,2,I⟩ (P C er)).setCell ⟨Eb,3,I⟩ (J eu)).setCell ⟨Eb,4,I⟩ (J ed)).setCell ⟨Eb,5,I⟩ (P C ef))=W5 at*;obtain⟨kY,Gc,ug⟩:=nR;have EB:U _:=kY;have E6:U _:=ug;clear kY ug l9 nW kH iH PU z0 z1 z2 Cs Ct Cu y0 y1 y2 Nl Nn DK Ow Ox Oy Ot Ou Ov Om Oo Oq Oi Oj Ol Ht rE
    rotate_left
    all_goals
     have G9:=Y _ _ E6.out.1;simp only at G9;have uf:U (jA w X lv vb W5):=HR.out.1.grow EB.out;have hvb:U (∀k,vb.ownBlock=N k->k<wr.heap.size):=fun k hk=>(y.lt HR.out.1.own k hk).2;clear r0 r1 r2 r3 r4 r5 r6 r7 k0 k1 k2 k3 k4 k5 k6 k7 m0 mw M0 MW K7 oZ Mw HT fG kZ;have oZ:=uf.out.rf;have Mw:=uf.out.cf;obtain⟨r0,r1,r2,r3,r4,r5,r6,r7⟩:=uf.out.r;obtain⟨k0,k1,k2,k3,k4,k5,k6,k7⟩:=uf.out.c;simp only[Pg.En.zero]at r1 r2 r3 r4 r5 r6 k1 k2 k3 k4 k5 k6;have K8:=uf.out.r.lb;have Ba:=uf.out.c.lb
     have nE1:Eb≠w.heap.size:=by omega
     have nE2:Eb≠w.heap.size+1:=by omega
     by_cases kS:rc=0
     ·subst kS
      have Hq:W5.ownsRow (w.heap.size+1+1) 3 1 vb X.length (xn (tabs X)):=uf.out.own
      go_wp2_with (first
       | (at_builtin;refine wpList_append_lies _ rfl _ _ 45 rfl (w.heap.size+1+1) 3 q0 (P C 0) 1 8 Tryz.underlying45 hq rW tJ rX rfl (by decide) _ _ _ rfl (Hq.alloc _) ⟨W5.heap.size,0,I⟩ 1 1 [P C (tn:Int)] rfl rfl ?c1 ?c2 (by decide) ?c3 ?c4 ?c5 (W5.heap.size+1) (by simp) ?_))
      case c1=>
       intro j u hj
       match j,hj with
       | 0,hj=>simp at hj;subst hj;simp[Addr.add,go_sem]
      case c2=>intro u hu;simp at hu;subst hu;rfl
      case c3=>unfold maxLen;omega
      case c4=>omega
      case c5=>simp;omega
      intro g cap w6 tF rP sj fD;have G6:U _:=ygG Hq rP sj Ba fD
      have bA:w6.heap[Eb]?=W5.heap[Eb]?:=G6.out.but.block Eb G9 fun e=>by have:=hvb.out Eb e;omega
      obtain⟨x0,x1,x2,x3,x4,x5⟩:=E6.out
      replace x0:=(R bA).trans x0
      replace x1:=(R bA).trans x1
      replace x2:=(R bA).trans x2
      replace x3:=(R bA).trans x3
      replace x4:=(R bA).trans x4
      replace x5:=(R bA).trans x5
      have b0:w6.heap[w.heap.size]?=W5.heap[w.heap.size]?:=G6.out.but.block _ K8 fun e=>by have:=G6.out.far _ e;omega
      have b1:w6.heap[w.heap.size+1]?=W5.heap[w.heap.size+1]?:=G6.out.but.block _ Ba fun e=>by have:=G6.out.far _ e;omega
      have A7:U (jA w (X++[⟨(tn:Int),ix,lv,a+ix,⟨et,el,er,eu,ed,ef⟩⟩]) lv (V (N ⟨g,0,I⟩) (X.length+1) cap) (w6.setCell ⟨w.heap.size+1,0,I⟩ (V (N ⟨g,0,I⟩) (X.length+1) cap))):=uf.out.push G6.out tF _ rfl;clear r0 r1 r2 r3 r4 r5 r6 r7 k0 k1 k2 k3 k4 k5 k6 k7 oZ Mw;obtain⟨r0,r1,r2,r3,r4,r5,r6,r7⟩:=uf.out.r.of_block b0;obtain⟨k0,k1,k2,k3,k4,k5,k6,k7⟩:=uf.out.c.of_block b1;simp only[Pg.En.zero]at r1 r2 r3 r4 r5 r6 k1 k2 k3 k4 k5 k6;have oZ:∀o,w6.frozen? ⟨w.heap.size,o,I⟩=T:=fun o=>(Q b0).trans (uf.out.rf o);have Mw:∀o,w6.frozen? ⟨w.heap.size+1,o,I⟩=T:=fun o=>(Q b1).trans (uf.out.cf o)
      have IK:w.heap.size+1<w6.heap.size:=by have:=G6.out.but.size;omega
      have hlE6:Eb<w6.heap.size:=by have:=G6.out.but.size;omega
      clear tF rP sj fD b0 b1 bA Hq
      have PS:et=T\/(et=x/\el=x)\/(et=x/\el=T):=by cases et<;>cases el<;>simp
      rcases PS with rfl|⟨rfl,rfl⟩|⟨rfl,rfl⟩
      focus
       have Tc:U (Xf=X++[⟨(tn:Int),ix,lv,a+ix,⟨T,el,er,eu,ed,ef⟩⟩]/\cf=0):=by
        have h1:=HR.out.2;rw[CZ.out,iN (by simp),iP (by simp[Pg.En.on]),Lm.out]at h1;rw[U,FO.out,Fg.out,h1];simp
       obtain⟨sp,gM⟩:∃sp:Pg.Sp,sp=⟨(tn:Int),ix,lv,a+ix,⟨T,el,er,eu,ed,ef⟩⟩:=⟨_,rfl⟩
       have oM:U (sp.e=⟨T,el,er,eu,ed,ef⟩/\sp.level=lv):=by rw[gM];exact⟨rfl,rfl⟩
       rw[<-gM]at A7 Tc;clear gM
      rotate_left
      focus
       have Tc:U (Xf=X++[⟨(tn:Int),ix,lv,a+ix,⟨x,x,er,eu,ed,ef⟩⟩]/\cf=0):=by
        have h1:=HR.out.2;rw[CZ.out,iN (by simp),iP (by simp[Pg.En.on]),Lm.out]at h1;rw[U,FO.out,Fg.out,h1];simp
       obtain⟨sp,gM⟩:∃sp:Pg.Sp,sp=⟨(tn:Int),ix,lv,a+ix,⟨x,x,er,eu,ed,ef⟩⟩:=⟨_,rfl⟩
       have oM:U (sp.e=⟨x,x,er,eu,ed,ef⟩/\sp.level=lv):=by rw[gM];exact⟨rfl,rfl⟩
       rw[<-gM]at A7 Tc;clear gM
      rotate_left
      focus
       obtain⟨m,hm⟩:=WS.out rfl
       have uy:(lv:Int)-1=(m:Int):=by omega
       have iT:(1:Int)<=(lv:Int):=by omega
       go_wp2_with fail
       have A8:=A7.out.lower (m:Int);refine⟨⟨m,ef,(a+ix)*8,X++[⟨(tn:Int),ix,lv,a+ix,⟨x,T,er,eu,ed,ef⟩⟩],V (N ⟨g,0,I⟩) (X.length+1) cap,rfl,by omega,by rw[D,K];omega,A8,?_⟩,?_⟩
       ·have h1:=HR.out.2
        rw[CZ.out,iN (by simp),iN (by simp[Pg.En.on]),Lm.out,hm]at h1;rw[h1,hm];simp[Pg.sub]
       ·have q1:=A8.c.2.2.2.2.2.2.2
        have q2:=HR.out.1.c.2.2.2.2.2.2.2;rw[q1,q2];simp[intOf];omega
      all_goals
       go_wp2_with fail
       have HV:U (yaE (X++[sp]) (V (N ⟨g,0,I⟩) (X.length+1) cap)= .agg #[V (N ⟨g,0,I⟩) (X.length+1) cap,J sp.e.t,J sp.e.l,P C sp.e.r,J sp.e.u,J sp.e.d,P C sp.e.f,P C (sp.level:Int)]):=by rw[U,yaE,jc,jd]
       rw[oM.out.1,oM.out.2]at HV;refine L (v:=z #[yaE (X++[sp]) (V (N ⟨g,0,I⟩) (X.length+1) cap),P C 0]) ?_ rfl ?_
       ·rw[HV.out]
        simp[results,Tryz.results71,go_sem,r0,r1,r2,r3,r4,r5,r6,r7]
       ·rw[Tc.out.1,Tc.out.2]
        have fin:∀Wf,But (fun k=>k=w.heap.size+1\/k=w.heap.size) (w6.setCell ⟨w.heap.size+1,0,I⟩ (V (N ⟨g,0,I⟩) (X.length+1) cap)) Wf->yet w (X++[sp]) 0 (.returned (z #[yaE (X++[sp]) (V (N ⟨g,0,I⟩) (X.length+1) cap),P C 0])) Wf:=fun Wf fI=>by
         refine⟨⟨N ⟨g,0,I⟩,cap,by rw[D,K],?_⟩,A7.out.bel.trans (fI.below A7.out.bel.size fun k hk=>by omega),fun g' _ _ _ h=> ?_⟩
         rotate_left
         ·have e:g=g':=by simp[yaE]at h;exact h.1.1
          have:=(y.lt A7.out.own g rfl).1;omega
         refine qk (base:=w.heap.size+1+1) (n:=X.length+1) (cap:=cap) ?_;rw[xA]
         exact zc A7.out.own fI fun k hk e=>by have:=(y.lt A7.out.own k hk).1;omega
        refine fin _ ?_
        iterate 8 refine But.setCell ?_ (.inr (.inr rfl)) _
        iterate 6 refine But.setCell ?_ (.inr (.inl rfl)) _
        exact But.refl _ _
     ·have bB:(rc !=0)=x:=by simp[kS]
      have Tc:U (Xf=[]/\cf=rc):=by
       have h1:=HR.out.2;rw[CZ.out,iP kS]at h1;rw[U,FO.out,Fg.out,h1];simp[kS]
      clear kS
      go_wp2
      refine L (v:=z #[yaE [] (V I 0 0),P C rc]) ?_ rfl ?_
      ·simp[results,Tryz.results71,go_sem,yaE,yhQ,yhO,Pg.En.zero,r0,r1,r2,r3,r4,r5,r6,r7]
      ·rw[Tc.out.1,Tc.out.2]
       have fI:=ydj (But.refl (fun k=>k=w.heap.size) W5) w.heap.size (.inr rfl) (V I 0 0) (J T) (J T) (P C 0) (J T) (J T) (P C 0) (P C 0);exact⟨⟨I,0,rfl,fun j hj=>absurd hj (by simp[tabs])⟩,uf.out.bel.trans (fI.below uf.out.bel.size fun k hk=>by omega),fun _ _ _ _ h=>by simp[yaE]at h⟩
end
end Go.Proofs.YtdphiompijbelaaGreat
