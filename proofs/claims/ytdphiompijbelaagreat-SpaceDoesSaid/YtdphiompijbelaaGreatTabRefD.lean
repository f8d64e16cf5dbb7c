import Derived.Test.YtdphiompijbelaaGreatWalkF
import Derived.Test.YtdphiompijbelaaGreatTabKp
import Derived.Test.YtdphiompijbelaaGreatArrT
set_option linter.all false
set_option maxRecDepth 100000
open Nat renaming le_refl->kV
open Int renaming eq_ofNat_of_zero_le->kI
open Go.Proofs.Tryz renaming prog->q
open List renaming length_singleton->z,length_append->kJ
open Go.Ending renaming returned->A
open Go.RowKit renaming Hid->K
open Go.Obj renaming cells->O
open Bool renaming false->Z,true->M,and_eq_true->kQ,true_and->kZ
open Go.World renaming block_lt_of_cell?->V,cell?_of_block->Q,frozen?_of_block->kF
open Go renaming cell_later->C,bodyPost_ret->y,Value->kC,World->kR,Calls->kT
open Option renaming none->P,some->U
open Go.IntKind renaming i64->J,u64->kY
open Go.Value renaming int->I,bool->B,slice->D,tuple->L,agg->kP,pointer->kS,slice->kN
set_option maxHeartbeats 4000000
namespace Go.Proofs.YtdphiompijbelaaGreat
open Go.RowKit Go.Sort
section
attribute [local go_sem] Loose.gent
theorem zg.grow {w w':kR} {b g0 g1:Nat} {vb:kC} {S:Pg.Fs} (h:zg w b g0 g1 vb S) (hb:Below w.heap.size w w'):zg w' b g0 g1 vb S:=h.keep (F:=fun _=>False) (But.ygr hb) (fun _ _=>id)
def six (w:kR) (b:Nat) (e:Pg.En):Prop:=w.cell? ⟨b,0,P⟩=U (B e.t)/\w.cell? ⟨b,1,P⟩=U (B e.l)/\w.cell? ⟨b,2,P⟩=U (I J e.r)/\w.cell? ⟨b,3,P⟩=U (B e.u)/\w.cell? ⟨b,4,P⟩=U (B e.d)/\w.cell? ⟨b,5,P⟩=U (I J e.f)
theorem jE {b g0 g1:Nat} {vm:kC} {S:Pg.Fs} (t p:Int) (w:kR) (h:zg w b g0 g1 vm S):
 kT q 29 #[kS (U ⟨b,0,P⟩),I J t,I J p] w fun e w'=>e=A (L #[(Pg.tFM S t p).val,(Pg.tFE S t p).val,I J (Pg.tFC S t p)])/\Below w.heap.size w w':=by
 obtain⟨W2,hW2⟩:∃W2,W2=(w.alloc (O #[I J 0,I J 0,I J 0,I J 0] 39)).alloc (O #[B Z,B Z,I J 0,B Z,B Z,I J 0] 70):=⟨_,rfl⟩
 have hB2:Below w.heap.size w W2:=by rw[hW2];exact zA (zA (zR w) _) _
 have r4:W2.cell? ⟨w.heap.size,0,P⟩=U (I J 0)/\W2.cell? ⟨w.heap.size,1,P⟩=U (I J 0)/\W2.cell? ⟨w.heap.size,2,P⟩=U (I J 0)/\W2.cell? ⟨w.heap.size,3,P⟩=U (I J 0):=by rw[hW2];simp[go_sem]
 have r6:W2.cell? ⟨w.heap.size+1,0,P⟩=U (B Z)/\W2.cell? ⟨w.heap.size+1,1,P⟩=U (B Z)/\W2.cell? ⟨w.heap.size+1,2,P⟩=U (I J 0)/\W2.cell? ⟨w.heap.size+1,3,P⟩=U (B Z)/\W2.cell? ⟨w.heap.size+1,4,P⟩=U (B Z)/\W2.cell? ⟨w.heap.size+1,5,P⟩=U (I J 0):=by rw[hW2];simp[go_sem]
 have rf4:∀o,W2.frozen? ⟨w.heap.size,o,P⟩=Z:=fun o=>by rw[hW2];simp[go_sem]
 have rf6:∀o,W2.frozen? ⟨w.heap.size+1,o,P⟩=Z:=fun o=>by rw[hW2];simp[go_sem]
 have hsz:W2.heap.size=w.heap.size+2:=by rw[hW2];simp
 have HW:=jv t p W2 (h.grow hB2);have HR4:K _:=r4;have HR6:K _:=r6;have HF4:K _:=rf4;have HF6:K _:=rf6;have HB2:K _:=hB2;have e1:Pg.tFC S t p=if qq S t p≠0 then qq S t p else if (ygv (zt S t p)).t=M then 0 else 5:=rfl;have e2:Pg.tFM S t p=if Pg.tFC S t p=0 then(ygv (zt S t p)).map (ygw (zt S t p)) p else .zz:=rfl;have e3:Pg.tFE S t p=if Pg.tFC S t p=0 then ygv (zt S t p)else Pg.En.zero:=rfl;generalize Pg.tFC S t p=cc at*;generalize Pg.tFM S t p=mm at*;generalize Pg.tFE S t p=ee at*;generalize qq S t p=fc at*;generalize zt S t p=X at*;have HLM:=fun w=>jc (ygv X).t (ygv X).l (ygv X).r (ygv X).u (ygv X).d (ygv X).f (ygw X) p w;have HLM':∀w,kT q 72 #[kP #[B (ygv X).t,B (ygv X).l,I J (ygv X).r,B (ygv X).u,B (ygv X).d,I J (ygv X).f],I J (ygw X),I J p] w fun e w'=>e=A ((ygv X).map (ygw X) p).val/\Below w.heap.size w w':=HLM;clear h r4 r6 rf4 rf6 hB2 HLM;have HV:K (∀v,vV X v=kP #[v,B (ygv X).t,B (ygv X).l,I J (ygv X).r,B (ygv X).u,B (ygv X).d,I J (ygv X).f,I J (ygw X)]):=fun v=>rfl;generalize (ygv X).map (ygw X) p=lm at*;generalize ygv X=E at*;generalize ygw X=lv at*;obtain⟨et,el,er,eu,ed,ef⟩:=E;obtain⟨lp,ls,lf,lr⟩:=lm;simp only[Pg.Mp.val]at HLM' HV
 by_cases hfc:fc=0
 ·subst hfc
  rw[if_neg (by simp)]at e1;cases et
  ·have e1':cc=5:=by rw[e1];rfl
   subst e1';rw[if_neg (by decide)]at e2 e3;subst e2 e3;clear e1 HLM'
   go_enter Tryz.func29,Tryz.ntmps29
   go_wp2_with fail
   rw[<-hW2];refine HW.mono ?_;rintro e w1 ⟨⟨ad,cap,rfl,_⟩,hb1⟩;obtain⟨r0,r1,r2,r3⟩:=xc hb1 HR4.out;obtain⟨s0,s1,s2,s3,s4,s5⟩:=zQ hb1 HR6.out;have hl1:w.heap.size+1<w1.heap.size:=V _ _ s0
   have hl0:w.heap.size<w1.heap.size:=by omega
   have hn0:¬w.heap.size=w1.heap.size:=by omega
   have hn1:¬w.heap.size+1=w1.heap.size:=by omega
   have f4:∀o,w1.frozen? ⟨w.heap.size,o,P⟩=Z:=fun o=>(hb1.frozen (p:=⟨w.heap.size,o,P⟩) (by simp;omega)).trans (HF4.out o);have f6:∀o,w1.frozen? ⟨w.heap.size+1,o,P⟩=Z:=fun o=>(hb1.frozen (p:=⟨w.heap.size+1,o,P⟩) (by simp;omega)).trans (HF6.out o);have HB1:K (Below w.heap.size w w1):=zT HB2.out hb1;rw[HV.out];clear hb1 HW
   go_wp2_with fail
   refine y (v:=L #[kP #[I J 0,I J 0,I J 0,I J 0],kP #[B Z,B Z,I J 0,B Z,B Z,I J 0],I J 5]) ?_ rfl ⟨rfl,?_⟩
   ·simp[results,Tryz.results29,go_sem,r0,r1,r2,r3,s0,s1,s2,s3,s4,s5,hl1,hl0,hn0,hn1]
   ·exact zA ((((((((((HB1.out.setCell (by simp) _).setCell (by simp) _).setCell (by simp) _).setCell (by simp) _).setCell (by simp) _).setCell (by simp) _).setCell (by simp) _).setCell (by simp) _).setCell (by simp) _).setCell (by simp) _) _
  ·have e1':cc=0:=by rw[e1];rfl
   subst e1';rw[if_pos rfl]at e2 e3;subst e2 e3;clear e1
   go_enter Tryz.func29,Tryz.ntmps29
   go_wp2_with fail
   rw[<-hW2];refine HW.mono ?_;rintro e w1 ⟨⟨ad,cap,rfl,_⟩,hb1⟩;have K4:K _:=xc hb1 HR4.out;have K6:K _:=zQ hb1 HR6.out;have hl1:w.heap.size+1<w1.heap.size:=V _ _ K6.out.1
   have hl0:w.heap.size<w1.heap.size:=by omega
   have hn0:¬w.heap.size=w1.heap.size:=by omega
   have hn1:¬w.heap.size+1=w1.heap.size:=by omega
   have f4:K (∀o,w1.frozen? ⟨w.heap.size,o,P⟩=Z):=fun o=>(hb1.frozen (p:=⟨w.heap.size,o,P⟩) (by simp;omega)).trans (HF4.out o);have f6:K (∀o,w1.frozen? ⟨w.heap.size+1,o,P⟩=Z):=fun o=>(hb1.frozen (p:=⟨w.heap.size+1,o,P⟩) (by simp;omega)).trans (HF6.out o);have HB1:K (Below w.heap.size w w1):=zT HB2.out hb1;rw[HV.out];clear hb1 HW
   go_wp2_with fail
   obtain⟨r0,r1,r2,r3⟩:=K4.out;obtain⟨s0,s1,s2,s3,s4,s5⟩:=K6.out;have g4:=f4.out;have g6:=f6.out
   go_region_held3 (fun w'=>w'.cell? ⟨w1.heap.size,1,P⟩=U (B M)/\w'.cell? ⟨w1.heap.size,2,P⟩=U (B el)/\w'.cell? ⟨w1.heap.size,3,P⟩=U (I J er)/\w'.cell? ⟨w1.heap.size,4,P⟩=U (B eu)/\w'.cell? ⟨w1.heap.size,5,P⟩=U (B ed)/\w'.cell? ⟨w1.heap.size,6,P⟩=U (I J ef)/\w'.cell? ⟨w1.heap.size,7,P⟩=U (I J lv)) (go_keep) (first
    | (go_at_call 72;refine(HLM' _).mono ?_;rintro e w2 ⟨rfl,hb2⟩
       have t6:=zQ (b:=w.heap.size+1) hb2 (v0:=B Z) (v1:=B Z) (v2:=I J 0) (v3:=B Z) (v4:=B Z) (v5:=I J 0) (by simp[go_sem,s0,s1,s2,s3,s4,s5,hl1,hn1]);have t4:=xc (b:=w.heap.size) hb2 (v0:=I J 0) (v1:=I J 0) (v2:=I J 0) (v3:=I J 0) (by simp[go_sem,r0,r1,r2,r3,hl0,hn0]);have x4:∀o,w2.frozen? ⟨w.heap.size,o,P⟩=Z:=fun o=>(hb2.frozen (p:=⟨w.heap.size,o,P⟩) (by simp;omega)).trans (by simp[go_sem,g4,hl0,hn0]);have x6:∀o,w2.frozen? ⟨w.heap.size+1,o,P⟩=Z:=fun o=>(hb2.frozen (p:=⟨w.heap.size+1,o,P⟩) (by simp;omega)).trans (by simp[go_sem,g6,hl1,hn1]);have hc:∀o,w2.cell? ⟨w1.heap.size,o,P⟩=_:=fun o=>hb2.cell (p:=⟨w1.heap.size,o,P⟩) (by simp)
       have hz2:w1.heap.size<w2.heap.size:=by have:=hb2.size;simp at this;omega
       have HB3:K _:=hb2;obtain⟨t40,t41,t42,t43⟩:=t4;obtain⟨t60,t61,t62,t63,t64,t65⟩:=t6
       clear hb2))
   go_wp2_with fail
   refine y (v:=L #[kP #[I J lp,I J ls,I J lf,I J lr],kP #[B M,B el,I J er,B eu,B ed,I J ef],I J 0]) ?_ rfl ⟨rfl,?_⟩
   ·simp[results,Tryz.results29,go_sem,t40,t41,t42,t43,t60,t61,t62,t63,t64,t65,hl1,hl0,hn0,hn1]
   ·have hb3:=zT (zA HB1.out _).drew HB3.out
    exact(((((((((hb3.setCell (by simp) _).setCell (by simp) _).setCell (by simp) _).setCell (by simp) _).setCell (by simp) _).setCell (by simp) _).setCell (by simp) _).setCell (by simp) _).setCell (by simp) _).setCell (by simp) _
 ·have e1':cc=fc:=by rw[e1,if_pos hfc]
  subst e1';rw[if_neg hfc]at e2 e3;subst e2 e3;clear e1 HLM'
  go_enter Tryz.func29,Tryz.ntmps29
  go_wp2_with fail
  rw[<-hW2];refine HW.mono ?_;rintro e w1 ⟨⟨ad,cap,rfl,_⟩,hb1⟩;obtain⟨r0,r1,r2,r3⟩:=xc hb1 HR4.out;obtain⟨s0,s1,s2,s3,s4,s5⟩:=zQ hb1 HR6.out;have hl1:w.heap.size+1<w1.heap.size:=V _ _ s0
  have hl0:w.heap.size<w1.heap.size:=by omega
  have hn0:¬w.heap.size=w1.heap.size:=by omega
  have hn1:¬w.heap.size+1=w1.heap.size:=by omega
  have f4:∀o,w1.frozen? ⟨w.heap.size,o,P⟩=Z:=fun o=>(hb1.frozen (p:=⟨w.heap.size,o,P⟩) (by simp;omega)).trans (HF4.out o);have f6:∀o,w1.frozen? ⟨w.heap.size+1,o,P⟩=Z:=fun o=>(hb1.frozen (p:=⟨w.heap.size+1,o,P⟩) (by simp;omega)).trans (HF6.out o);have HB1:K (Below w.heap.size w w1):=zT HB2.out hb1;rw[HV.out];clear hb1 HW
  go_wp2_with fail
  refine y (v:=L #[kP #[I J 0,I J 0,I J 0,I J 0],kP #[B Z,B Z,I J 0,B Z,B Z,I J 0],I J cc]) ?_ rfl ⟨rfl,?_⟩
  ·simp[results,Tryz.results29,go_sem,r0,r1,r2,r3,s0,s1,s2,s3,s4,s5,hl1,hl0,hn0,hn1]
  ·exact zA ((((((((((HB1.out.setCell (by simp) _).setCell (by simp) _).setCell (by simp) _).setCell (by simp) _).setCell (by simp) _).setCell (by simp) _).setCell (by simp) _).setCell (by simp) _).setCell (by simp) _).setCell (by simp) _) _
structure yfB (w:kR) (b g0 n g j Y x R k:Nat) (vt:kC) (el:Bool) (r:Int) (eu ed:Bool) (ef lv tl lp ls lf W:Int):Prop where
 a0:w.cell? ⟨b,0,P⟩=U (D (U ⟨g0,0,P⟩) n n)
 a1:w.cell? ⟨Y,0,P⟩=U vt
 a2:w.cell? ⟨Y,7,P⟩=U (I J lv)
 a3:w.cell? ⟨g,j,P⟩=U (I J tl)
 y0:w.cell? ⟨x+1,0,P⟩=U (B M)
 y1:w.cell? ⟨x+1,1,P⟩=U (B el)
 y2:w.cell? ⟨x+1,2,P⟩=U (I J r)
 y3:w.cell? ⟨x+1,3,P⟩=U (B eu)
 y4:w.cell? ⟨x+1,4,P⟩=U (B ed)
 y5:w.cell? ⟨x+1,5,P⟩=U (I J ef)
 x0:w.cell? ⟨x,0,P⟩=U (I J lp)
 x1:w.cell? ⟨x,1,P⟩=U (I J ls)
 x2:w.cell? ⟨x,2,P⟩=U (I J lf)
 x3:w.cell? ⟨x,3,P⟩=U (I J r)
 z0:w.cell? ⟨R,0,P⟩=U (I J 0)
 z1:w.cell? ⟨R,1,P⟩=U (I J 0)
 z2:w.cell? ⟨R,2,P⟩=U (I J 0)
 z3:w.cell? ⟨R,3,P⟩=U (I J 0)
 cw:w.cell? ⟨g0,k,P⟩=U (I kY W)
 f0:∀o,w.frozen? ⟨g0,o,P⟩=Z
 fR:∀o,w.frozen? ⟨R,o,P⟩=Z
theorem yfB.later {w w':kR} {b g0 n g j Y x R k:Nat} {vt:kC} {el:Bool} {r:Int} {eu ed:Bool} {ef lv tl lp ls lf W:Int} (h:yfB w b g0 n g j Y x R k vt el r eu ed ef lv tl lp ls lf W) (hb:Below w.heap.size w w'):yfB w' b g0 n g j Y x R k vt el r eu ed ef lv tl lp ls lf W:=by
 have c:∀{a:Addr} {v:kC},w.cell? a=U v->w'.cell? a=U v:=fun{a v} e=>(hb.cell (p:=a) (V _ _ e)).trans e;have q0:g0<w.heap.size:=V _ _ h.cw;have q1:R<w.heap.size:=V _ _ h.z0;exact⟨c h.a0,c h.a1,c h.a2,c h.a3,c h.y0,c h.y1,c h.y2,c h.y3,c h.y4,c h.y5,c h.x0,c h.x1,c h.x2,c h.x3,c h.z0,c h.z1,c h.z2,c h.z3,c h.cw,fun o=>(hb.frozen (p:=⟨g0,o,P⟩) q0).trans (h.f0 o),fun o=>(hb.frozen (p:=⟨R,o,P⟩) q1).trans (h.fR o)⟩
theorem yd8 {X:List Pg.Sp} (h:1<=X.length):(tabs X).getD (X.length-1) 0=lastT X:=by
 unfold tabs lastT;rw[List.getLast?_eq_getElem?,List.getD,List.getElem?_map]
 cases X[X.length-1]? <;>rfl
theorem yaQ {b g0 g1:Nat} {vm:kC} {S:Pg.Fs} (t p r:Int) (w:kR) (h:zg w b g0 g1 vm S):
 kT q 99 #[kS (U ⟨b,0,P⟩),I J t,I J p,I J r] w fun e w'=>e=A (L #[(Pg.prM S t p r).val,I J (Pg.prC S t p r)])/\zg w' b g0 g1 vm (Pg.prS S t p r)/\But (zN b g0 g1 vm) w w':=by
 have HX:K _:=h
 by_cases hr:r<0\/7<r
 ·have e1:Pg.prC S t p r=1:=by rw[Pg.prC,if_pos hr]
  have e2:Pg.prM S t p r= .zz:=by rw[Pg.prM,e1,if_neg (by decide)]
  have e3:Pg.prS S t p r=S:=by rw[Pg.prS,e1,if_neg (by decide)]
  rw[e1,e2,e3];have fin:K (∀o:Obj,zg (w.alloc o) b g0 g1 vm S/\But (zN b g0 g1 vm) w (w.alloc o)):=fun o=>⟨h.grow (zA (zR _) _),But.ygr (zA (zR _) _)⟩;clear h e1 e2 e3 HX
  by_cases h0:r<0
  ·clear hr
   go_enter Tryz.func99,Tryz.ntmps99
   go_wp2_with fail
   refine y (v:=L #[kP #[I J 0,I J 0,I J 0,I J 0],I J 1]) ?_ rfl ⟨rfl,?_⟩
   ·simp[results,Tryz.results99,go_sem]
   ·exact fin.out _
  ·have h1:7<r:=by omega
   clear hr
   go_enter Tryz.func99,Tryz.ntmps99
   go_wp2_with fail
   refine y (v:=L #[kP #[I J 0,I J 0,I J 0,I J 0],I J 1]) ?_ rfl ⟨rfl,?_⟩
   ·simp[results,Tryz.results99,go_sem]
   ·exact fin.out _
 ·have h0:¬r<0:=by omega
  have h1:¬7<r:=by omega
  have HF:=fun o=>jE t p (w.alloc o) (h.grow (zA (zR _) o))
  have e1:Pg.prC S t p r=Pg.tFC S t p:=by rw[Pg.prC,if_neg hr]
  by_cases hc:Pg.tFC S t p=0
  ·have hz:qq S t p=0:=by
    by_cases hz:qq S t p=0
    ·exact hz
    ·rw[Pg.tFC,if_pos hz]at hc
     exact absurd hc hz
   obtain⟨lv,⟨et,el,er,eu,ed,ef⟩,tl,W⟩:=Pg.yix hz
   have ht:et=M:=by
    rw[Pg.tFC,hz,if_neg (by decide),W.ygv]at hc;cases et
    ·simp at hc
    ·rfl
   subst ht;have hlen:=W.len
   have hX1:1<=(zt S t p).length:=by
    cases hX:zt S t p with
    | nil=>
      have:=W.hasT;rw[<-W.lastT]at this;have h4:=W.len;rw[hX]at h4;have h5:=W.ygw;rw[hX]at h5;simp[ygw]at h5 h4;omega
    | cons a l=>simp
   have hidx:Pg.index p (lv:Int)=(Pg.ix p lv:Nat):=Pg.ygA W.below (by omega);have hix8:Pg.ix p lv<8:=Pg.yhs _ _
   have e2:Pg.prM S t p r=(Pg.tFM S t p).rts r:=by rw[Pg.prM,e1,if_pos hc]
   have e3:Pg.prS S t p r=S.store tl ((Pg.ix p lv:Nat):Int) (Pg.enc M el r eu ed ef (lv:Int)):=by
    rw[Pg.prS,e1,if_pos hc,W.lastT,W.ygw,W.ygv,hidx]
   have e5:Pg.tFE S t p=⟨M,el,er,eu,ed,ef⟩:=by rw[Pg.tFE,if_pos hc,W.ygv]
   rw[e1,e2,e3,hc];rw[e5,hc]at HF;generalize Pg.tFM S t p=mm at*;obtain⟨lp,ls,lf,lr⟩:=mm;have HF':∀o,kT q 29 #[kS (U ⟨b,0,P⟩),I J t,I J p] (w.alloc o) fun e w'=>e=A (L #[kP #[I J lp,I J ls,I J lf,I J lr],kP #[B M,B el,I J er,B eu,B ed,I J ef],I J 0])/\Below (w.alloc o).heap.size (w.alloc o) w':=HF
   have HW:∀W',Below w.heap.size w W'->kT q 71 #[kS (U ⟨b,0,P⟩),I J t,I J p] W' fun e w'=>(∃ad cap,e=A (L #[kP #[D ad (zt S t p).length cap,B M,B el,I J er,B eu,B ed,I J ef,I J (lv:Int)],I J 0])/\zh w' ad (tabs (zt S t p))/\∀g,ad=U ⟨g,0,P⟩->W'.heap.size<=g)/\Below W'.heap.size W' w':=by
    intro W' hW';refine(jv t p W' (h.grow hW')).mono ?_;rintro e w' ⟨⟨ad,cap,he,hi⟩,hb,hnew⟩;refine⟨⟨ad,cap,?_,hi,fun g hg=>hnew g _ _ _ (by rw[he,hg])⟩,hb⟩;rw[he,hz];simp only[vV,W.ygv,W.ygw]
   clear h e1 e2 e3 e5 HF hr hc;have WW:K _:=W;clear W
   go_enter Tryz.func99,Tryz.ntmps99
   go_wp2_with fail
   refine(HF' _).mono ?_;rintro e w1 ⟨rfl,hb1⟩;have hr:∀o,w1.cell? ⟨w.heap.size,o,P⟩=_:=fun o=>hb1.cell (p:=⟨w.heap.size,o,P⟩) (by simp);have hf:∀o,w1.frozen? ⟨w.heap.size,o,P⟩=_:=fun o=>hb1.frozen (p:=⟨w.heap.size,o,P⟩) (by simp);have hB:K (Below w.heap.size w w1):=zT (zA (zR _) _) hb1
   have hl0:w.heap.size<w1.heap.size:=by have:=hb1.size;simp at this;omega
   have hn0:¬w.heap.size=w1.heap.size:=by omega
   clear hb1 HF'
   go_wp2_with fail
   have kx:((w1.alloc (O #[I J lp,I J ls,I J lf,I J lr] 39)).alloc (O #[B M,B el,I J er,B eu,B ed,I J ef] 70)).cell? ⟨w1.heap.size,0,P⟩=U (I J lp)/\((w1.alloc (O #[I J lp,I J ls,I J lf,I J lr] 39)).alloc (O #[B M,B el,I J er,B eu,B ed,I J ef] 70)).cell? ⟨w1.heap.size,1,P⟩=U (I J ls)/\((w1.alloc (O #[I J lp,I J ls,I J lf,I J lr] 39)).alloc (O #[B M,B el,I J er,B eu,B ed,I J ef] 70)).cell? ⟨w1.heap.size,2,P⟩=U (I J lf)/\((w1.alloc (O #[I J lp,I J ls,I J lf,I J lr] 39)).alloc (O #[B M,B el,I J er,B eu,B ed,I J ef] 70)).cell? ⟨w1.heap.size,3,P⟩=U (I J lr):=by simp[go_sem]
   have ke:((w1.alloc (O #[I J lp,I J ls,I J lf,I J lr] 39)).alloc (O #[B M,B el,I J er,B eu,B ed,I J ef] 70)).cell? ⟨w1.heap.size+1,0,P⟩=U (B M)/\((w1.alloc (O #[I J lp,I J ls,I J lf,I J lr] 39)).alloc (O #[B M,B el,I J er,B eu,B ed,I J ef] 70)).cell? ⟨w1.heap.size+1,1,P⟩=U (B el)/\((w1.alloc (O #[I J lp,I J ls,I J lf,I J lr] 39)).alloc (O #[B M,B el,I J er,B eu,B ed,I J ef] 70)).cell? ⟨w1.heap.size+1,2,P⟩=U (I J er)/\((w1.alloc (O #[I J lp,I J ls,I J lf,I J lr] 39)).alloc (O #[B M,B el,I J er,B eu,B ed,I J ef] 70)).cell? ⟨w1.heap.size+1,3,P⟩=U (B eu)/\((w1.alloc (O #[I J lp,I J ls,I J lf,I J lr] 39)).alloc (O #[B M,B el,I J er,B eu,B ed,I J ef] 70)).cell? ⟨w1.heap.size+1,4,P⟩=U (B ed)/\((w1.alloc (O #[I J lp,I J ls,I J lf,I J lr] 39)).alloc (O #[B M,B el,I J er,B eu,B ed,I J ef] 70)).cell? ⟨w1.heap.size+1,5,P⟩=U (I J ef):=by simp[go_sem]
   have kr:∀o,((w1.alloc (O #[I J lp,I J ls,I J lf,I J lr] 39)).alloc (O #[B M,B el,I J er,B eu,B ed,I J ef] 70)).frozen? ⟨w1.heap.size,o,P⟩=Z/\((w1.alloc (O #[I J lp,I J ls,I J lf,I J lr] 39)).alloc (O #[B M,B el,I J er,B eu,B ed,I J ef] 70)).frozen? ⟨w1.heap.size+1,o,P⟩=Z/\((w1.alloc (O #[I J lp,I J ls,I J lf,I J lr] 39)).alloc (O #[B M,B el,I J er,B eu,B ed,I J ef] 70)).frozen? ⟨w.heap.size,o,P⟩=Z:=fun o=>by simp[go_sem,hf,hl0,hn0]
   have k0:((w1.alloc (O #[I J lp,I J ls,I J lf,I J lr] 39)).alloc (O #[B M,B el,I J er,B eu,B ed,I J ef] 70)).cell? ⟨w.heap.size,0,P⟩=U (I J 0)/\((w1.alloc (O #[I J lp,I J ls,I J lf,I J lr] 39)).alloc (O #[B M,B el,I J er,B eu,B ed,I J ef] 70)).cell? ⟨w.heap.size,1,P⟩=U (I J 0)/\((w1.alloc (O #[I J lp,I J ls,I J lf,I J lr] 39)).alloc (O #[B M,B el,I J er,B eu,B ed,I J ef] 70)).cell? ⟨w.heap.size,2,P⟩=U (I J 0)/\((w1.alloc (O #[I J lp,I J ls,I J lf,I J lr] 39)).alloc (O #[B M,B el,I J er,B eu,B ed,I J ef] 70)).cell? ⟨w.heap.size,3,P⟩=U (I J 0):=by simp[go_sem,hr,hl0,hn0]
   have kB:Below w.heap.size w ((w1.alloc (O #[I J lp,I J ls,I J lf,I J lr] 39)).alloc (O #[B M,B el,I J er,B eu,B ed,I J ef] 70)):=zA (zA hB.out _) _;generalize (w1.alloc (O #[I J lp,I J ls,I J lf,I J lr] 39)).alloc (O #[B M,B el,I J er,B eu,B ed,I J ef] 70)=W2 at*;clear hr hf hB;generalize w1.heap.size=x at*;refine(HW _ kB).mono ?_;rintro e w3 ⟨⟨ad,cap,rfl,hi,hnew⟩,hb3⟩;obtain⟨g,rfl,hg,hgc⟩:=hi ((zt S t p).length-1) (by rw[xM];omega);obtain⟨x0,x1,x2,x3⟩:=xc hb3 kx;obtain⟨y0,y1,y2,y3,y4,y5⟩:=zQ hb3 ke;obtain⟨z0,z1,z2,z3⟩:=xc hb3 k0;have xl:x<w3.heap.size:=V _ _ x0;have yl:x+1<w3.heap.size:=V _ _ y0;have xl2:x<W2.heap.size:=V _ _ kx.1;have yl2:x+1<W2.heap.size:=V _ _ ke.1;have u0:∀o,w3.frozen? ⟨x,o,P⟩=Z:=fun o=>(hb3.frozen (p:=⟨x,o,P⟩) xl2).trans (kr o).1;have u1:∀o,w3.frozen? ⟨x+1,o,P⟩=Z:=fun o=>(hb3.frozen (p:=⟨x+1,o,P⟩) yl2).trans (kr o).2.1;have u2:∀o,w3.frozen? ⟨w.heap.size,o,P⟩=Z:=fun o=>(hb3.frozen (p:=⟨w.heap.size,o,P⟩) (by show w.heap.size<_;omega)).trans (kr o).2.2;have B3:K (Below w.heap.size w w3):=zT kB hb3;have M3:K _:=HX.out.grow B3.out
   have hlt3:w.heap.size<w3.heap.size:=by omega
   have m1:¬x=w3.heap.size:=by omega
   have m2:¬x+1=w3.heap.size:=by omega
   have m3:¬w.heap.size=w3.heap.size:=by omega
   have htl:(tabs (zt S t p)).getD ((zt S t p).length-1) 0=tl:=by rw[yd8 hX1];exact WW.out.lastT
   rw[htl]at hgc;obtain⟨t0,t1,_⟩:=M3.out.ok.ygG WW.out.hasT;obtain⟨tn,rfl⟩:=kI t0
   have htn:tn<S.n:=by omega
   have hsm:=M3.out.ok.small
   have hgg:¬g=g0:=by
    intro e;have h1:=M3.out.raw.cw 0 ((zt S t p).length-1) (by omega) (by omega);rw[e,show(zt S t p).length-1=0*8+((zt S t p).length-1) by omega,h1]at hgc;simp at hgc
   have hl0w:=HX.out.raw.l0;have hlb:=HX.out.raw.lb;have hgx:W2.heap.size<=g:=hnew g rfl
   have gx0:¬g=x:=by omega
   have gx1:¬g=x+1:=by omega
   have gY:¬g=w3.heap.size:=by omega
   have hcw:=M3.out.raw.cw tn (Pg.ix p lv) htn hix8;have hf0:=M3.out.raw.f0;have hc0:=M3.out.raw.c0
   have nb0:¬b=x:=by omega
   have nb1:¬b=x+1:=by omega
   have nbY:¬b=w3.heap.size:=by omega
   have ng0:¬g0=x:=by omega
   have ng1:¬g0=x+1:=by omega
   have ngY:¬g0=w3.heap.size:=by omega
   have ngR:¬g0=w.heap.size:=by omega
   have lb3:b<w3.heap.size:=by omega
   have lg3:g0<w3.heap.size:=by omega
   clear kx ke kr k0 kB HW hi hnew;generalize hV:kN (U ⟨g,0,P⟩) (zt S t p).length cap=vt
   have P4:yfB (((w3.setCell ⟨x+1,2,P⟩ (I J r)).setCell ⟨x,3,P⟩ (I J r)).alloc (O #[vt,B M,B el,I J er,B eu,B ed,I J ef,I J (lv:Int)] 142)) b g0 S.n g ((zt S t p).length-1) w3.heap.size x w.heap.size (tn*8+Pg.ix p lv) vt el r eu ed ef (lv:Int) (tn:Int) lp ls lf (S.word tn (Pg.ix p lv)):=by
    constructor<;>first
     | (simp[go_sem,hc0,hgc,x0,x1,x2,x3,y0,y1,y2,y3,y4,y5,z0,z1,z2,z3,hcw,xl,yl,hg,lb3,lg3,hlt3,gx0,gx1,nb0,nb1,ng0,ng1,hn0,hl0,m1,m2,m3,gY,nbY,ngY,ngR];done)
     | (intro o;simp[go_sem,hf0,u2,lg3,hlt3];done)
   subst hV;have b4:Below w.heap.size w (((w3.setCell ⟨x+1,2,P⟩ (I J r)).setCell ⟨x,3,P⟩ (I J r)).alloc (O #[kN (U ⟨g,0,P⟩) (zt S t p).length cap,B M,B el,I J er,B eu,B ed,I J ef,I J (lv:Int)] 142)):=zA ((B3.out.setCell (by show w.heap.size<=x+1;omega) _).setCell (by show w.heap.size<=x;omega) _) _;have HB4:K _:=b4;have HP4:K _:=P4;clear b4 P4
   go_wp2_with fail
   generalize hW4:(((w3.setCell ⟨x+1,2,P⟩ (I J r)).setCell ⟨x,3,P⟩ (I J r)).alloc (O #[kN (U ⟨g,0,P⟩) (zt S t p).length cap,B M,B el,I J er,B eu,B ed,I J ef,I J (lv:Int)] 142))=W4 at*;have hY4:w3.heap.size<W4.heap.size:=V _ _ HP4.out.a1;clear hW4 x0 x1 x2 x3 y0 y1 y2 y3 y4 y5 z0 z1 z2 z3 u0 u1 u2 hgc hcw hf0 hc0 hb3;generalize hYY:w3.heap.size=Y at*;clear hYY;have HIx:=zG p (lv:Int);rw[hidx]at HIx;have HWo:=qR M el r eu ed ef (lv:Int);have hv0:K (0<=Pg.enc M el r eu ed ef (lv:Int)/\Pg.enc M el r eu ed ef (lv:Int)<18446744073709551616):=Pg.yh9 _ _ _ _ _ _ _;generalize hve:Pg.enc M el r eu ed ef (lv:Int)=v at*;have HVE:K _:=hve;clear hve;generalize Pg.ygu M el r eu ed ef (lv:Int)=fl at*;generalize hii:Pg.ix p lv=i at*;have HII:K _:=hii;clear hii;generalize S.word tn i=W at*;generalize (zt S t p).length=len at*;obtain⟨j,rfl⟩:∃j,len=j+1:=⟨len-1,by omega⟩;rw[Nat.add_sub_cancel]at HP4
   have i0:(0:Int)<=(tn:Int):=by omega
   have i1:(tn:Int)<(S.n:Int):=by omega
   have i2:(0:Int)<=(i:Int):=by omega
   have i3:(i:Int)<8:=by omega
   have i4:(0:Int)<=(j:Int):=by omega
   have i5:(j:Int)<(j:Int)+1:=by omega
   have i6:((j+1:Nat):Int)-1=(j:Int):=by omega
   have n0:¬g0=b:=HX.out.raw.n0;have n0':¬b=g0:=fun e=>n0 e.symm;have ngg:¬g0=g:=fun e=>hgg e.symm;have i7:IntKind.i64.wrap (j:Int)=(j:Int):=qc (by omega) (by omega);obtain⟨p0,p1,p2,p3,p4,p5,p6,p7,p8,p9,p10,p11,p12,p13,p14,p15,p16,p17,p18,p19,p20⟩:=HP4.out
   go_region_held3 (fun w'=>w'.cell? ⟨b,0,P⟩=U (D (U ⟨g0,0,P⟩) S.n S.n)/\w'.cell? ⟨Y,0,P⟩=U (D (U ⟨g,0,P⟩) (j+1) cap)/\w'.cell? ⟨Y,7,P⟩=U (I J (lv:Int))/\w'.cell? ⟨g,j,P⟩=U (I J (tn:Int))/\w'.cell? ⟨x+1,0,P⟩=U (B M)/\w'.cell? ⟨x+1,1,P⟩=U (B el)/\w'.cell? ⟨x+1,2,P⟩=U (I J r)/\w'.cell? ⟨x+1,3,P⟩=U (B eu)/\w'.cell? ⟨x+1,4,P⟩=U (B ed)/\w'.cell? ⟨x+1,5,P⟩=U (I J ef)) (go_keep) (first
    | (go_at_call 104;refine(HIx _).mono ?_;rintro e w5 ⟨rfl,hb5⟩
       have HB5:K (Below W4.heap.size W4 w5):=zT (zR W4).drew hb5;have HP5:K _:=HP4.out.later HB5.out;obtain⟨q0,q1,q2,q3,q4,q5,q6,q7,q8,q9,q10,q11,q12,q13,q14,q15,q16,q17,q18,q19,q20⟩:=HP5.out
       clear hb5)
    | (go_at_call 108;refine(HWo _).mono ?_;rintro e w6 ⟨rfl,hb6⟩
       have HB6:K (Below w5.heap.size w5 w6):=hb6;have HP6:K _:=HP5.out.later HB6.out;obtain⟨o0,o1,o2,o3,o4,o5,o6,o7,o8,o9,o10,o11,o12,o13,o14,o15,o16,o17,o18,o19,o20⟩:=HP6.out
       clear hb6))
   have r0:¬x=g0:=fun e=>ng0 e.symm;have r1:¬w.heap.size=g0:=fun e=>ngR e.symm
   have hat:S.at' (tn:Int) (i:Int)=M:=by
    have:=WW.out.hasT;simp only[Pg.Fs.at',this,kZ,kQ,decide_eq_true_eq];exact⟨i2,i3⟩
   have fin:K (∀a0 a1 a2 a3:kC,zg (((((w6.setCell ⟨g0,tn*8+i,P⟩ (I kY v)).setCell ⟨w.heap.size,0,P⟩ a0).setCell ⟨w.heap.size,1,P⟩ a1).setCell ⟨w.heap.size,2,P⟩ a2).setCell ⟨w.heap.size,3,P⟩ a3) b g0 g1 vm (S.store (tn:Int) (i:Int) v)/\But (zN b g0 g1 vm) w (((((w6.setCell ⟨g0,tn*8+i,P⟩ (I kY v)).setCell ⟨w.heap.size,0,P⟩ a0).setCell ⟨w.heap.size,1,P⟩ a1).setCell ⟨w.heap.size,2,P⟩ a2).setCell ⟨w.heap.size,3,P⟩ a3)):=by
    intro a0 a1 a2 a3;have B6:Below w.heap.size w w6:=zT (zT HB4.out HB5.out) HB6.out;have M6:=HX.out.grow B6
    have hS:S.store (tn:Int) (i:Int) v={S with word:=Pg.Fs.put S.word tn i v}:=by simp[Pg.Fs.store,hat]
    have M7:zg (w6.setCell ⟨g0,tn*8+i,P⟩ (I kY v)) b g0 g1 vm (S.store (tn:Int) (i:Int) v):=⟨by rw[hS];exact M6.raw.put htn hix8 v,M6.ok.store _ _ hv0.out.1 hv0.out.2⟩
    have hF:∀k,zN b g0 g1 vm k->¬k=w.heap.size:=fun k hk=>by have:=HX.out.raw.lt hk;omega
    refine⟨M7.keep (F:=fun k=>k=w.heap.size) ?_ hF,?_⟩
    ·iterate 4 refine But.setCell ?_ (by first|exact .inr rfl) _
     exact But.refl _ _
    ·iterate 4 refine But.setCell ?_ (by exact .inl (kV _)) _
     refine But.setCell ?_ (by exact .inr (.inr (.inl rfl))) _;exact But.ygr B6
   clear hat HX WW HB4 HB5 HB6
   go_wp2_with fail
   refine y (v:=L #[kP #[I J lp,I J ls,I J lf,I J r],I J 0]) ?_ rfl ⟨rfl,?_⟩
   ·simp[results,Tryz.results99,go_sem,o14,o15,o16,o17,r0,r1,ng0,ngR]
   ·rw[HII.out,HVE.out]
    exact fin.out _ _ _ _
  ·have e2:Pg.prM S t p r= .zz:=by rw[Pg.prM,e1,if_neg hc]
   have e3:Pg.prS S t p r=S:=by rw[Pg.prS,e1,if_neg hc]
   rw[e1,e2,e3]
   have e4:Pg.tFM S t p= .zz:=by rw[Pg.tFM,if_neg hc]
   have e5:Pg.tFE S t p=Pg.En.zero:=by rw[Pg.tFE,if_neg hc]
   rw[e4,e5]at HF;clear h e1 e2 e3 e4 e5 hr;generalize Pg.tFC S t p=c at*;have HF':∀o,kT q 29 #[kS (U ⟨b,0,P⟩),I J t,I J p] (w.alloc o) fun e w'=>e=A (L #[kP #[I J 0,I J 0,I J 0,I J 0],kP #[B Z,B Z,I J 0,B Z,B Z,I J 0],I J c])/\Below (w.alloc o).heap.size (w.alloc o) w':=HF;clear HF
   go_enter Tryz.func99,Tryz.ntmps99
   go_wp2_with fail
   refine(HF' _).mono ?_;rintro e w1 ⟨rfl,hb1⟩;have hr:∀o,w1.cell? ⟨w.heap.size,o,P⟩=_:=fun o=>hb1.cell (p:=⟨w.heap.size,o,P⟩) (by simp);have hf:∀o,w1.frozen? ⟨w.heap.size,o,P⟩=_:=fun o=>hb1.frozen (p:=⟨w.heap.size,o,P⟩) (by simp);have hB:K (Below w.heap.size w w1):=zT (zA (zR _) _) hb1
   have hl0:w.heap.size<w1.heap.size:=by have:=hb1.size;simp at this;omega
   have hn0:¬w.heap.size=w1.heap.size:=by omega
   clear hb1 HF'
   go_wp2_with fail
   refine y (v:=L #[kP #[I J 0,I J 0,I J 0,I J 0],I J c]) ?_ rfl ⟨rfl,?_⟩
   ·simp[results,Tryz.results99,go_sem,hr,hl0,hn0]
   ·have hB':=zA (zA (zq hB.out w.heap.size (kV _) (I J 0) (I J 0) (I J 0) (I J 0)) (O #[I J 0,I J 0,I J 0,I J 0] 39)) (O #[B Z,B Z,I J 0,B Z,B Z,I J 0] 70)
    exact⟨HX.out.grow hB',But.ygr hB'⟩
theorem zg.word {w:kR} {b g0 g1:Nat} {vm:kC} {S:Pg.Fs} (h:zg w b g0 g1 vm S) {tn i:Nat} (ht:S.has (tn:Int)=M) (hi:i<8) {v:Int} (hv0:0<=v) (hv1:v<18446744073709551616):zg (w.setCell ⟨g0,tn*8+i,P⟩ (I kY v)) b g0 g1 vm (S.store (tn:Int) (i:Int) v):=by
 have hat:S.at' (tn:Int) (i:Int)=M:=by
  simp only[Pg.Fs.at',ht,kZ,kQ,decide_eq_true_eq];omega
 have hS:S.store (tn:Int) (i:Int) v={S with word:=Pg.Fs.put S.word tn i v}:=by simp[Pg.Fs.store,hat]
 have hn:tn<S.n:=by have:=h.ok.ygG ht;omega
 exact⟨by rw[hS];exact h.raw.put hn hi v,h.ok.store _ _ hv0 hv1⟩
theorem ycX (p:Int) (s:Nat) (S:Pg.Fs) (t:Int):Pg.insW p s s S t=(S,t):=by
 cases s with
 | zero=>rfl
 | succ s=>simp[Pg.insW]
theorem ycY (p:Int) (s m:Nat) (S:Pg.Fs) (t:Int) (h:s<=m):Pg.insW p s (m+1) S t=Pg.insW p s m (S.take.store t (Pg.index p ((m+1:Nat):Int)) (Pg.enc M Z 7 Z Z S.takeN ((m+1:Nat):Int))) S.takeN:=by
 rw[Pg.insW,if_neg (by omega)]
structure yeZ (W5 wr:kR) (b g0 g1:Nat) (vm vi:kC) (S Si:Pg.Fs) (p:Int) (sn lv lvn:Nat) (tl:Int) (ti:Nat):Prop where
 mem:zg wr b g0 g1 vi Si
 but:But (zN b g0 g1 vm) W5 wr
 own:vi.ownBlock=vm.ownBlock
 ins:Pg.insW p sn lvn Si (ti:Int)=Pg.insW p sn lv S tl
 has:Si.has (ti:Int)=M
 free:(lvn:Int)-(sn:Int)<=Si.free
theorem ybi {b g0 g1:Nat} {vm:kC} {S:Pg.Fs} (t:Int) (m:Pg.Mp) (w:kR) (h:zg w b g0 g1 vm S):
 kT q 97 #[kS (U ⟨b,0,P⟩),I J t,m.val] w fun en w'=>en=A (I J (Pg.insC S t m))/\∃vm',zg w' b g0 g1 vm' (Pg.insS S t m)/\But (zN b g0 g1 vm) w w'/\vm'.ownBlock=vm.ownBlock:=by
 obtain⟨p,s,f,r⟩:=m;have HC:=jS p s f r;have eC:Pg.Mp.code ⟨p,s,f,r⟩=Pg.check p s f r:=rfl;rw[<-eC]at HC;simp only[Pg.Mp.val];have H:K _:=h;obtain⟨W1,hW1⟩:∃W1,W1=w.alloc (O #[I J p,I J s,I J f,I J r] 39):=⟨_,rfl⟩
 have hB1:Below w.heap.size w W1:=by rw[hW1];exact zA (zR w) _
 have r4:W1.cell? ⟨w.heap.size,0,P⟩=U (I J p)/\W1.cell? ⟨w.heap.size,1,P⟩=U (I J s)/\W1.cell? ⟨w.heap.size,2,P⟩=U (I J f)/\W1.cell? ⟨w.heap.size,3,P⟩=U (I J r):=by rw[hW1];simp[go_sem]
 have HB1:K _:=hB1;obtain⟨x0,x1,x2,x3⟩:=r4;have fin0:K (∀w',Below w.heap.size w w'->∃vm',zg w' b g0 g1 vm' S/\But (zN b g0 g1 vm) w w'/\vm'.ownBlock=vm.ownBlock):=fun w' hb=>⟨vm,H.out.grow hb,But.ygr hb,rfl⟩;have HW:=fun w2 (hb:Below w.heap.size w w2)=>jv t p w2 (h.grow hb);clear hB1 eC
 by_cases hc:Pg.Mp.code ⟨p,s,f,r⟩=0
 ·rw[hc]at HC
  by_cases hz:qq S t p=0
  ·obtain⟨Y,sp,lv,hY,W,hsl,hl3,hY3,hpl,hix⟩:=qK hz
   have hs:0<=s/\s<=2:=by
    have hc':Pg.check p s f r=0:=hc
    have hsp:Pg.span s≠0:=by
     intro e;rw[Pg.check,if_pos e]at hc';omega
    unfold Pg.span at hsp
    by_cases h0:s=0
    ·omega
    ·by_cases h1:s=1
     ·omega
     ·by_cases h2:s=2
      ·omega
      ·simp[h0,h1,h2]at hsp
   obtain⟨sn,rfl⟩:=kI hs.1
   have hs2:sn<=2:=by omega
   have eI:Pg.insC S t ⟨p,sn,f,r⟩=if sp.e.t=M\/(lv:Int)<(sn:Int)then 4 else if S.free<(lv:Int)-(sn:Int)then 6 else 0:=by
    rw[Pg.insC,if_neg (by simp[hc]),if_neg (by simp[hz]),hY,W.ygv,W.ygw]
   have eS:Pg.insS S t ⟨p,sn,f,r⟩=if Pg.insC S t ⟨p,sn,f,r⟩=0 then(Pg.insW p sn lv S sp.table).1.store (Pg.insW p sn lv S sp.table).2 (Pg.index p (sn:Int)) (Pg.enc M M r Z Z f (sn:Int))else S:=by
    rw[Pg.insS,hY,W.ygw,W.lastT];rfl
   have HW2:∀W',Below w.heap.size w W'->kT q 71 #[kS (U ⟨b,0,P⟩),I J t,I J p] W' fun e w'=>(∃ad cap,e=A (L #[kP #[D ad (Y.length+1) cap,B sp.e.t,B sp.e.l,I J sp.e.r,B sp.e.u,B sp.e.d,I J sp.e.f,I J (lv:Int)],I J 0])/\zh w' ad (tabs (Y++[sp]))/\∀g,ad=U ⟨g,0,P⟩->W'.heap.size<=g)/\Below W'.heap.size W' w':=by
    intro W' hW';refine(HW W' hW').mono ?_;rintro e w' ⟨⟨ad,cap,he,hi⟩,hb,hnew⟩;rw[hY]at hi;refine⟨⟨ad,cap,?_,hi,fun g hg=>hnew g _ _ _ (by rw[he,hg])⟩,hb⟩;rw[he,hz,hY];simp only[vV,W.ygv,W.ygw,kJ,z]
   have hfree:=h.ok.yio;have hFr:=fun w2 (hb:Below w.heap.size w w2)=>vz w2 (h.grow hb);have hasT:=W.hasT
   have hlenX:lv+(Y.length+1)=4:=by have:=W.len;rw[kJ,z]at this;exact this
   have htl:(tabs (Y++[sp])).getD Y.length 0=sp.table:=by simp[tabs]
   have hltl:(tabs (Y++[sp])).length=Y.length+1:=by rw[xM];simp
   have hbel:=W.below;clear hc hz W hY hsl hpl hix h hs HW;generalize tabs (Y++[sp])=T at*;generalize Y.length=N at*;obtain⟨st,_,_,_,⟨et,el,er,eu,ed,ef⟩⟩:=sp;simp only at eI eS HW2 hasT htl;clear Y;generalize Pg.insC S t ⟨p,sn,f,r⟩=ic at*;generalize Pg.insS S t ⟨p,sn,f,r⟩=iS at*
   by_cases hE:et=M\/(lv:Int)<(sn:Int)
   ·rw[if_pos hE]at eI
    rw[eI,if_neg (by decide)]at eS;rw[eI,eS];clear eI eS;cases et
    ·have hlt':(lv:Int)<(sn:Int):=by
      rcases hE with h|h
      ·cases h
      ·exact h
     clear hE
     go_enter Tryz.func97,Tryz.ntmps97
     go_wp2_with fail
     rw[<-hW1];clear hW1;refine(HC _).mono ?_;rintro en w2 ⟨rfl,hb2⟩;have y0:=C hb2 x0;have y1:=C hb2 x1;have y2:=C hb2 x2;have y3:=C hb2 x3;have HB2:K (Below w.heap.size w w2):=zT HB1.out hb2;clear hb2 HC x0 x1 x2 x3
     go_wp2_with fail
     refine(HW2 _ HB2.out).mono ?_;rintro en w3 ⟨⟨ad,cap,rfl,hi,hnew⟩,hb3⟩;have z0:=C hb3 y0;have z1:=C hb3 y1;have z2:=C hb3 y2;have z3:=C hb3 y3;have hlx:w.heap.size<w3.heap.size:=V _ _ z0;have HB3:K (Below w.heap.size w w3):=zT HB2.out hb3
     have hnx:¬w.heap.size=w3.heap.size:=by omega
     clear hb3 HW2 y0 y1 y2 y3
     go_wp2_with fail
     go_ret
     exact⟨rfl,fin0.out _ (zA HB3.out _)⟩
    ·clear hE
     go_enter Tryz.func97,Tryz.ntmps97
     go_wp2_with fail
     rw[<-hW1];clear hW1;refine(HC _).mono ?_;rintro en w2 ⟨rfl,hb2⟩;have y0:=C hb2 x0;have y1:=C hb2 x1;have y2:=C hb2 x2;have y3:=C hb2 x3;have HB2:K (Below w.heap.size w w2):=zT HB1.out hb2;clear hb2 HC x0 x1 x2 x3
     go_wp2_with fail
     refine(HW2 _ HB2.out).mono ?_;rintro en w3 ⟨⟨ad,cap,rfl,hi,hnew⟩,hb3⟩;have z0:=C hb3 y0;have z1:=C hb3 y1;have z2:=C hb3 y2;have z3:=C hb3 y3;have hlx:w.heap.size<w3.heap.size:=V _ _ z0;have HB3:K (Below w.heap.size w w3):=zT HB2.out hb3
     have hnx:¬w.heap.size=w3.heap.size:=by omega
     clear hb3 HW2 y0 y1 y2 y3
     go_wp2_with fail
     go_ret
     exact⟨rfl,fin0.out _ (zA HB3.out _)⟩
   ·rw[if_neg hE]at eI
    have hef:et=Z:=by
     cases et
     ·rfl
     ·exact absurd (.inl rfl) hE
    have hle:sn<=lv:=by omega
    subst hef;clear hE
    have dd0:decide ((lv:Int)<(sn:Int))=Z:=by simp;omega
    have dd0':decide (lv<sn)=Z:=by simp;omega
    have hwr:IntKind.i64.wrap ((lv:Int)-(sn:Int))=(lv:Int)-(sn:Int):=qc (by omega) (by omega)
    by_cases hfu:S.free<(lv:Int)-(sn:Int)
    ·rw[if_pos hfu]at eI
     rw[eI,if_neg (by decide)]at eS;rw[eI,eS];clear eI eS
     go_enter Tryz.func97,Tryz.ntmps97
     go_wp2_with fail
     rw[<-hW1];clear hW1;refine(HC _).mono ?_;rintro en w2 ⟨rfl,hb2⟩;have y0:=C hb2 x0;have y1:=C hb2 x1;have y2:=C hb2 x2;have y3:=C hb2 x3;have HB2:K (Below w.heap.size w w2):=zT HB1.out hb2;clear hb2 HC x0 x1 x2 x3
     go_wp2_with fail
     refine(HW2 _ HB2.out).mono ?_;rintro en w3 ⟨⟨ad,cap,rfl,hi,hnew⟩,hb3⟩;have z0:=C hb3 y0;have z1:=C hb3 y1;have z2:=C hb3 y2;have z3:=C hb3 y3;have hlx:w.heap.size<w3.heap.size:=V _ _ z0;have HB3:K (Below w.heap.size w w3):=zT HB2.out hb3
     have hnx:¬w.heap.size=w3.heap.size:=by omega
     clear hb3 HW2 y0 y1 y2 y3
     go_wp2_with fail
     try simp only[dd0,dd0']
     obtain⟨W4,hW4⟩:∃W4,W4=w3.alloc (O #[D ad (N+1) cap,B Z,B el,I J er,B eu,B ed,I J ef,I J (lv:Int)] 142):=⟨_,rfl⟩
     have hb4:Below w3.heap.size w3 W4:=by rw[hW4];exact zA (zR _) _
     have c0:W4.cell? ⟨w3.heap.size,0,P⟩=U (D ad (N+1) cap):=by rw[hW4];simp[go_sem]
     have c7:W4.cell? ⟨w3.heap.size,7,P⟩=U (I J (lv:Int)):=by rw[hW4];simp[go_sem]
     have q0:=C hb4 z0;have q1:=C hb4 z1;have q2:=C hb4 z2;have q3:=C hb4 z3;have hi4:=hi.below hb4;have HB4:K (Below w.heap.size w W4):=zT HB3.out hb4;have hl4:w3.heap.size<W4.heap.size:=V _ _ c0;have HFr:=fun W' (hb:Below W4.heap.size W4 W')=>hFr W' (zT HB4.out hb);rw[<-hW4];clear hW4 hb4 hi z0 z1 z2 z3 hFr
     go_region_held3 (fun w'=>w'.cell? ⟨w3.heap.size,7,P⟩=U (I J (lv:Int))/\w'.cell? ⟨w.heap.size,1,P⟩=U (I J (sn:Int))) (go_keep) (
      (go_at_call 22;refine(HFr _ (by first|exact(zR W4).drew|exact zR W4)).mono ?_;rintro en w5 ⟨rfl,hb5⟩
       have HB5:K (Below W4.heap.size W4 w5):=zT (zR W4).drew hb5;have u7:=C HB5.out c7;have u1:=C HB5.out q1
       clear hb5))
     go_wp2_with fail
     go_ret
     exact⟨rfl,fin0.out _ (zT HB4.out HB5.out)⟩
    ·rw[if_neg hfu]at eI
     rw[eI,if_pos rfl]at eS;rw[eI,eS];clear eI eS
     have dd1:decide (S.free<(lv:Int)-(sn:Int))=Z:=by simp;omega
     go_enter Tryz.func97,Tryz.ntmps97
     go_wp2_with fail
     rw[<-hW1];clear hW1;refine(HC _).mono ?_;rintro en w2 ⟨rfl,hb2⟩;have y0:=C hb2 x0;have y1:=C hb2 x1;have y2:=C hb2 x2;have y3:=C hb2 x3;have HB2:K (Below w.heap.size w w2):=zT HB1.out hb2;clear hb2 HC x0 x1 x2 x3
     go_wp2_with fail
     refine(HW2 _ HB2.out).mono ?_;rintro en w3 ⟨⟨ad,cap,rfl,hi,hnew⟩,hb3⟩;have z0:=C hb3 y0;have z1:=C hb3 y1;have z2:=C hb3 y2;have z3:=C hb3 y3;have hlx:w.heap.size<w3.heap.size:=V _ _ z0;have HB3:K (Below w.heap.size w w3):=zT HB2.out hb3
     have hnx:¬w.heap.size=w3.heap.size:=by omega
     clear hb3 HW2 y0 y1 y2 y3
     go_wp2_with fail
     try simp only[dd0,dd0']
     obtain⟨W4,hW4⟩:∃W4,W4=w3.alloc (O #[D ad (N+1) cap,B Z,B el,I J er,B eu,B ed,I J ef,I J (lv:Int)] 142):=⟨_,rfl⟩
     have hb4:Below w3.heap.size w3 W4:=by rw[hW4];exact zA (zR _) _
     have c0:W4.cell? ⟨w3.heap.size,0,P⟩=U (D ad (N+1) cap):=by rw[hW4];simp[go_sem]
     have c7:W4.cell? ⟨w3.heap.size,7,P⟩=U (I J (lv:Int)):=by rw[hW4];simp[go_sem]
     have q0:=C hb4 z0;have q1:=C hb4 z1;have q2:=C hb4 z2;have q3:=C hb4 z3;have hi4:=hi.below hb4;have HB4:K (Below w.heap.size w W4):=zT HB3.out hb4;have hl4:w3.heap.size<W4.heap.size:=V _ _ c0;have HFr:=fun W' (hb:Below W4.heap.size W4 W')=>hFr W' (zT HB4.out hb);rw[<-hW4];clear hW4 hb4 hi z0 z1 z2 z3 hFr
     go_region_held3 (fun w'=>w'.cell? ⟨w3.heap.size,7,P⟩=U (I J (lv:Int))/\w'.cell? ⟨w.heap.size,1,P⟩=U (I J (sn:Int))) (go_keep) (
      (go_at_call 22;refine(HFr _ (by first|exact(zR W4).drew|exact zR W4)).mono ?_;rintro en w5 ⟨rfl,hb5⟩
       have HB5:K (Below W4.heap.size W4 w5):=zT (zR W4).drew hb5;have u7:=C HB5.out c7;have u1:=C HB5.out q1
       clear hb5))
     have u0:=C HB5.out c0;obtain⟨g,rfl,hg5,hgc⟩:=(hi4.below HB5.out) N (by omega);rw[htl]at hgc;obtain⟨t0,t1,_⟩:=H.out.ok.ygG hasT;obtain⟨tn,rfl⟩:=kI t0
     have i4:(0:Int)<=(N:Int):=by omega
     have i5:(N:Int)<(N:Int)+1:=by omega
     have B5:K (Below w.heap.size w w5):=zT HB4.out HB5.out;have X5:K (w5.cell? ⟨w.heap.size,0,P⟩=U (I J p)/\w5.cell? ⟨w.heap.size,1,P⟩=U (I J (sn:Int))/\w5.cell? ⟨w.heap.size,2,P⟩=U (I J f)/\w5.cell? ⟨w.heap.size,3,P⟩=U (I J r)):=⟨C HB5.out q0,u1,C HB5.out q2,C HB5.out q3⟩;have M5:K _:=H.out.grow B5.out;have hlx5:w.heap.size<w5.heap.size:=V _ _ X5.out.1;have hmF:K (∀j,zN b g0 g1 vm j->j<w.heap.size):=fun j hj=>H.out.raw.lt hj;have HT:K _:=hasT;clear hasT q0 q1 q2 q3 c0 c7 HFr HB5 HB4 hi4 hnew
     go_wp2_with fail
     try simp only[dd1]
     clear u7 u1 u0 hgc
     go_loopw [10,11] (fun tv lvv wr=>∃(lvn:Nat) (Si:Pg.Fs) (ti:Nat) (vi:kC),sn<=lvn/\lvn<=lv/\tv=I J (ti:Int)/\lvv=I J (lvn:Int)/\K (yeZ w5 wr b g0 g1 vm vi S Si p sn lv lvn (tn:Int) ti)) (fun _ lvv _=>(intOf lvv).toNat)
     case atStart=>exact⟨lv,S,tn,vm,hle,kV _,rfl,rfl,M5.out,But.refl _ _,rfl,rfl,HT.out,by omega⟩
     case round=>
      obtain⟨lvn,Si,ti,vi,h1,h2,rfl,rfl,HI⟩:=hrel
      have hbx:wr.heap[w.heap.size]?=w5.heap[w.heap.size]?:=HI.out.but.block _ hlx5 fun h=>by have:=hmF.out _ h;omega
      have b0:=(Q hbx).trans X5.out.1;have b1:=(Q hbx).trans X5.out.2.1;have b2:=(Q hbx).trans X5.out.2.2.1;have b3:=(Q hbx).trans X5.out.2.2.2;have hlxr:w.heap.size<wr.heap.size:=V _ _ b0
      have hmi:K (∀j,zN b g0 g1 vi j->zN b g0 g1 vm j):=fun j hj=>by unfold zN at hj ⊢;rw[HI.out.own]at hj;exact hj
      have hg0x:¬g0=w.heap.size:=by have:=hmF.out g0 (.inr (.inl rfl));omega
      have hbx0:¬b=w.heap.size:=by have:=hmF.out b (.inl rfl);omega
      have hx0:¬w.heap.size=g0:=fun e=>hg0x e.symm;have hxb:¬w.heap.size=b:=fun e=>hbx0 e.symm;clear hbx
      by_cases hlt2:sn<lvn
      ·obtain⟨lm,rfl⟩:∃lm,lvn=lm+1:=⟨lvn-1,by omega⟩
       have j1:(sn:Int)<((lm+1:Nat):Int):=by omega
       obtain⟨kn,hk1,hk2,hk3,hk4,hk5,hk6,hk7⟩:=Pg.take_some HI.out.mem.ok (by have:=HI.out.free;omega);have HTk:=jd wr HI.out.mem
       have e10:K (Pg.insW p sn lm (Si.take.store (ti:Int) (Pg.index p ((lm+1:Nat):Int)) (Pg.enc M Z 7 Z Z (kn:Int) ((lm+1:Nat):Int))) (kn:Int)=Pg.insW p sn lv S (tn:Int)):=by rw[K,<-hk2,<-ycY p sn lm Si ti (by omega)];exact HI.out.ins
       rw[hk2]at HTk;have hidx:Pg.index p ((lm+1:Nat):Int)=(Pg.ix p (lm+1):Nat):=Pg.ygA hbel (by omega);have hix8:Pg.ix p (lm+1)<8:=Pg.yhs _ _;have hti:=hk5 _ HI.out.has;have hfr:=HI.out.free;have HHas:K _:=hti;have HK4:K _:=hk4
       have HFr2:K (((lm:Nat):Int)-(sn:Int)<=Si.take.free):=by rw[K,hk6];omega
       have HIx:=zG p ((lm+1:Nat):Int);have HWo:=qR M Z 7 Z Z (kn:Int) ((lm+1:Nat):Int);have hv0:K (0<=Pg.enc M Z 7 Z Z (kn:Int) ((lm+1:Nat):Int)/\Pg.enc M Z 7 Z Z (kn:Int) ((lm+1:Nat):Int)<18446744073709551616):=Pg.yh9 _ _ _ _ _ _ _;rw[hidx]at HIx e10;generalize Pg.enc M Z 7 Z Z (kn:Int) ((lm+1:Nat):Int)=v at*;generalize Pg.ygu M Z 7 Z Z (kn:Int) ((lm+1:Nat):Int)=fl at*;generalize Pg.ix p (lm+1)=i at*;generalize Si.take=S2 at*;clear hk1 hk2 hk3 hk4 hk5 hk6 hk7 hti hfr hidx
       go_wp2_with fail
       refine HTk.mono ?_;rintro en w6 ⟨rfl,vi',hm6,hb6,ho6⟩;have M6:K _:=hm6;have B6:K (But (zN b g0 g1 vm) w5 w6):=HI.out.but.trans hb6 fun j _ hj=>hmi.out j hj;have O6:K (vi'.ownBlock=vm.ownBlock):=ho6.trans HI.out.own
       have hbx6:w6.heap[w.heap.size]?=wr.heap[w.heap.size]?:=hb6.block _ hlxr fun h=>by have:=hmF.out _ (hmi.out _ h);omega
       have d0:=(Q hbx6).trans b0;have hc0:=hm6.raw.c0;obtain⟨_,htlt,_⟩:=hm6.ok.ygG HHas.out
       have htn2:ti<S2.n:=by omega
       have hcw:=hm6.raw.cw ti i htn2 hix8;have hf0:=hm6.raw.f0;have hsm:=hm6.ok.small
       have i0:(0:Int)<=(ti:Int):=by omega
       have i1:(ti:Int)<(S2.n:Int):=by omega
       have i2:(0:Int)<=(i:Int):=by omega
       have i3:(i:Int)<8:=by omega
       have n0:¬g0=b:=hm6.raw.n0;have n0':¬b=g0:=fun e=>n0 e.symm;have lx6:w.heap.size<w6.heap.size:=V _ _ d0;have lb6:b<w6.heap.size:=hm6.raw.lb;have lg6:g0<w6.heap.size:=hm6.raw.l0;clear hm6 hb6 ho6 hbx6 HTk b0 b1 b2 b3 HI;generalize S2.word ti i=wo at*
       go_wp2_with fail
       go_region_held3 (fun w'=>w'.cell? ⟨b,0,P⟩=U (D (U ⟨g0,0,P⟩) S2.n S2.n)/\w'.cell? ⟨w.heap.size,0,P⟩=U (I J p)) (go_keep) (first
        | (go_at_call 104;refine(HIx _).mono ?_;rintro e w7 ⟨rfl,hb7⟩
           have HB7:K (Below w6.heap.size w6 w7):=zT (zR w6).drew hb7;have s0:=C HB7.out hc0;have s1:=C HB7.out d0
           clear hb7)
        | (go_at_call 108;refine(HWo _).mono ?_;rintro e w8 ⟨rfl,hb8⟩
           have HB8:K (Below w6.heap.size w6 w8):=zT HB7.out hb8;have v0:=C HB8.out hc0;have v1:=C HB8.out d0;have v2:=C HB8.out hcw;have v3:∀o,w8.frozen? ⟨g0,o,P⟩=Z:=fun o=>(HB8.out.frozen (p:=⟨g0,o,P⟩) lg6).trans (hf0 o)
           clear hb8))
       have fin:K (yeZ w5 (w8.setCell ⟨g0,ti*8+i,P⟩ (I kY v)) b g0 g1 vm vi' S (S2.store (ti:Int) (i:Int) v) p sn lv lm (tn:Int) kn):=by
        have M8:=(M6.out.grow HB8.out).word HHas.out hix8 hv0.out.1 hv0.out.2;refine⟨M8,?_,O6.out,e10.out,by rw[Pg.yhi];exact HK4.out,by rw[Pg.store_free];exact HFr2.out⟩;refine But.setCell ?_ (by exact .inr (.inr (.inl rfl))) _;exact B6.out.trans (But.ygr (F:=fun _=>False) HB8.out) fun _ _ h=>h.elim
       have hlm1:(1:Int)<=((lm+1:Nat):Int):=by omega
       go_wp2_with fail
       exact⟨⟨lm,_,kn,vi',by omega,by omega,rfl,by go_num,fin.out⟩,by simp[intOf]⟩
      ·have hee:lvn=sn:=by omega
       subst hee
       have j1:¬(lvn:Int)<(lvn:Int):=by omega
       have hins:=HI.out.ins;rw[ycX]at hins;have HIN:K _:=hins;have hidx:Pg.index p (lvn:Int)=(Pg.ix p lvn:Nat):=Pg.ygA hbel (by omega);have hix8:Pg.ix p lvn<8:=Pg.yhs _ _;have HIx:=zG p (lvn:Int);have HWo:=qR M M r Z Z f (lvn:Int);have hv0:K (0<=Pg.enc M M r Z Z f (lvn:Int)/\Pg.enc M M r Z Z f (lvn:Int)<18446744073709551616):=Pg.yh9 _ _ _ _ _ _ _
       have HPost:K ((Pg.insW p lvn lv S (tn:Int)).1.store (Pg.insW p lvn lv S (tn:Int)).2 (Pg.index p (lvn:Int)) (Pg.enc M M r Z Z f (lvn:Int))=Si.store (ti:Int) (Pg.ix p lvn:Nat) (Pg.enc M M r Z Z f (lvn:Int))):=by rw[K,<-hins,hidx]
       rw[hidx]at HIx;generalize hve:Pg.enc M M r Z Z f (lvn:Int)=v at*;have HVE:K _:=hve;clear hve;generalize Pg.ygu M M r Z Z f (lvn:Int)=fl at*;generalize Pg.ix p lvn=i at*;have M6:K _:=HI.out.mem;have B6:K _:=HI.out.but;have O6:K _:=HI.out.own;have HHas:K _:=HI.out.has;have hc0:=HI.out.mem.raw.c0;obtain⟨_,htlt,_⟩:=HI.out.mem.ok.ygG HHas.out
       have htn2:ti<Si.n:=by omega
       have hcw:=HI.out.mem.raw.cw ti i htn2 hix8;have hf0:=HI.out.mem.raw.f0;have hsm:=HI.out.mem.ok.small
       have i0:(0:Int)<=(ti:Int):=by omega
       have i1:(ti:Int)<(Si.n:Int):=by omega
       have i2:(0:Int)<=(i:Int):=by omega
       have i3:(i:Int)<8:=by omega
       have n0:¬g0=b:=HI.out.mem.raw.n0;have n0':¬b=g0:=fun e=>n0 e.symm;have lb6:b<wr.heap.size:=HI.out.mem.raw.lb;have lg6:g0<wr.heap.size:=HI.out.mem.raw.l0;clear hins HI hidx;generalize Si.word ti i=wo at*
       go_wp2_with fail
       go_region_held3 (fun w'=>w'.cell? ⟨b,0,P⟩=U (D (U ⟨g0,0,P⟩) Si.n Si.n)/\w'.cell? ⟨w.heap.size,0,P⟩=U (I J p)/\w'.cell? ⟨w.heap.size,1,P⟩=U (I J (lvn:Int))/\w'.cell? ⟨w.heap.size,2,P⟩=U (I J f)/\w'.cell? ⟨w.heap.size,3,P⟩=U (I J r)) (go_keep) (first
        | (go_at_call 104;refine(HIx _).mono ?_;rintro e w7 ⟨rfl,hb7⟩
           have HB7:K (Below wr.heap.size wr w7):=zT (zR wr).drew hb7;have s0:=C HB7.out hc0;have s1:=C HB7.out b0;have s2:=C HB7.out b1;have s3:=C HB7.out b2;have s4:=C HB7.out b3
           clear hb7)
        | (go_at_call 108;refine(HWo _).mono ?_;rintro e w8 ⟨rfl,hb8⟩
           have HB8:K (Below wr.heap.size wr w8):=zT HB7.out hb8;have v0:=C HB8.out hc0;have v1:=C HB8.out b0;have v2:=C HB8.out b1;have v3:=C HB8.out b2;have v4:=C HB8.out b3;have v5:=C HB8.out hcw;have v6:∀o,w8.frozen? ⟨g0,o,P⟩=Z:=fun o=>(HB8.out.frozen (p:=⟨g0,o,P⟩) lg6).trans (hf0 o)
           clear hb8))
       have fin:K (zg (w8.setCell ⟨g0,ti*8+i,P⟩ (I kY v)) b g0 g1 vi (Si.store (ti:Int) (i:Int) v)/\But (zN b g0 g1 vm) w (w8.setCell ⟨g0,ti*8+i,P⟩ (I kY v))/\vi.ownBlock=vm.ownBlock):=by
        refine⟨(M6.out.grow HB8.out).word HHas.out hix8 hv0.out.1 hv0.out.2,?_,O6.out⟩;refine But.setCell ?_ (by exact .inr (.inr (.inl rfl))) _;exact((But.ygr B5.out).trans B6.out fun _ _ h=>h).trans (But.ygr (F:=fun _=>False) HB8.out) fun _ _ h=>h.elim
       go_wp2_with fail
       go_ret
       refine⟨rfl,vi,?_,fin.out.2⟩;rw[HVE.out,HPost.out];exact fin.out.1
  ·have e1:Pg.insC S t ⟨p,s,f,r⟩=qq S t p:=by rw[Pg.insC,if_neg (by simp[hc]),if_pos hz]
   have e2:Pg.insS S t ⟨p,s,f,r⟩=S:=by rw[Pg.insS,e1,if_neg hz]
   rw[e1,e2];clear e1 e2 h;generalize qq S t p=cc at*
   have hcb:(cc !=0)=M:=by simp[hz]
   clear hz hc
   go_enter Tryz.func97,Tryz.ntmps97
   go_wp2_with fail
   rw[<-hW1];clear hW1;refine(HC _).mono ?_;rintro en w2 ⟨rfl,hb2⟩;have y0:=C hb2 x0;have HB2:K (Below w.heap.size w w2):=zT HB1.out hb2;clear hb2
   go_wp2_with fail
   refine(HW _ HB2.out).mono ?_;rintro en w3 ⟨⟨ad,cap,rfl,_⟩,hb3,_⟩;have HB3:K (Below w.heap.size w w3):=zT HB2.out hb3;clear hb3;unfold vV
   go_wp2_with fail
   go_ret
   exact⟨rfl,fin0.out _ (zA HB3.out _)⟩
 ·have e1:Pg.insC S t ⟨p,s,f,r⟩=Pg.Mp.code ⟨p,s,f,r⟩:=by rw[Pg.insC,if_pos hc]
  have e2:Pg.insS S t ⟨p,s,f,r⟩=S:=by rw[Pg.insS,e1,if_neg hc]
  rw[e1,e2];clear e1 e2 h HW;generalize Pg.Mp.code ⟨p,s,f,r⟩=cc at*
  have hcb:(cc !=0)=M:=by simp[hc]
  clear hc
  go_enter Tryz.func97,Tryz.ntmps97
  go_wp2_with fail
  rw[<-hW1];clear hW1;refine(HC _).mono ?_;rintro en w2 ⟨rfl,hb2⟩;have HB2:K (Below w.heap.size w w2):=zT HB1.out hb2;clear hb2
  go_wp2_with fail
  go_ret
  exact⟨rfl,fin0.out _ HB2.out⟩
attribute [local go_sem] Loose.gent ydb
structure yaA (w:kR) (b g0 g1:Nat) (vm:kC) (S':Pg.Fs) (m:Pg.Mp) (G:List Int) (c:Int) (en:Ending) (w':kR):Prop where
 body:∃ad cap,en=A (L #[m.val,D ad G.length cap,I J c])/\zh w' ad G/\zg w' b g0 g1 vm S'/\But (zN b g0 g1 vm) w w'/\∀g,ad=U ⟨g,0,P⟩->w.heap.size<=g
structure ye1 (W5 wr:kR) (b g0 g1:Nat) (vm:kC) (Si:Pg.Fs) (T:List Int) (k:Nat) (p:Int) (vg:kC) (Gi:List Int) (R:Pg.Fs×List Int):Prop where
 mem:zg wr b g0 g1 vm Si
 but:But (zN b g0 g1 vm) W5 wr
 own:wr.ownsRow W5.heap.size 3 1 vg Gi.length (zr Gi)
 has:∀x,x ∈ T->Si.has x=M
 rest:Pg.rmW p T (k+1) Si Gi=R
theorem yav {w W6 W8 w9:kR} {b g0 g1:Nat} {vm:kC} {S S':Pg.Fs} {Gi:List Int} {ga:Option Addr} {gc:Nat} (H:zg w b g0 g1 vm S) (B6:Below w.heap.size w W6) (M8:zg W8 b g0 g1 vm S') (B8:But (zN b g0 g1 vm) W6 W8) (O8:W8.ownsRow W6.heap.size 3 1 (D ga Gi.length gc) Gi.length (zr Gi)) (hb:Below W8.heap.size W8 w9) (hlw:w.heap.size<W6.heap.size) (a0 a1 a2 a3:kC) (m:Pg.Mp) (c:Int):
 yaA w b g0 g1 vm S' m Gi c (A (L #[m.val,D ga Gi.length gc,I J c])) ((((w9.setCell ⟨w.heap.size,0,P⟩ a0).setCell ⟨w.heap.size,1,P⟩ a1).setCell ⟨w.heap.size,2,P⟩ a2).setCell ⟨w.heap.size,3,P⟩ a3):=by
 have hbt:But (fun j=>j=w.heap.size) W8 ((((w9.setCell ⟨w.heap.size,0,P⟩ a0).setCell ⟨w.heap.size,1,P⟩ a1).setCell ⟨w.heap.size,2,P⟩ a2).setCell ⟨w.heap.size,3,P⟩ a3):=by
  iterate 4 refine But.setCell ?_ (by exact .inr rfl) _
  exact But.ygr hb
 refine⟨ga,gc,rfl,?_,M8.keep hbt fun j hj e=> ?_,?_,fun g hg=> ?_⟩
 ·exact qb (cap:=gc) (n:=Gi.length) (zb O8 hbt fun j hj e=>by have:=(O8.lt j hj).1;omega)
 ·have:=H.raw.lt hj;omega
 ·exact((But.ygr B6).trans B8 fun _ _ h=>h).trans hbt fun i hi e=>by omega
 ·subst hg
  have:=(O8.lt g rfl).1;omega
theorem ycr (S:Pg.Fs) (tn:Nat):yeW (S.word tn 0) (S.word tn 1) (S.word tn 2) (S.word tn 3) (S.word tn 4) (S.word tn 5) (S.word tn 6) (S.word tn 7)=Pg.yg1 S (tn:Int):=by
 unfold yeW Pg.yg1;simp[List.range,List.range.loop]
theorem vS {b g0 g1:Nat} {vm:kC} {S:Pg.Fs} (t p:Int) (w:kR) (h:zg w b g0 g1 vm S):
 kT q 98 #[kS (U ⟨b,0,P⟩),I J t,I J p] w fun en w'=>yaA w b g0 g1 vm (Pg.rmR S t p).1 (Pg.tFM S t p) (Pg.rmR S t p).2 (Pg.tFC S t p) en w':=by
 have H:K _:=h;obtain⟨W1,hW1⟩:∃W1,W1=w.alloc (O #[I J 0,I J 0,I J 0,I J 0] 39):=⟨_,rfl⟩
 have hB1:Below w.heap.size w W1:=by rw[hW1];exact zA (zR w) _
 have r4:W1.cell? ⟨w.heap.size,0,P⟩=U (I J 0)/\W1.cell? ⟨w.heap.size,1,P⟩=U (I J 0)/\W1.cell? ⟨w.heap.size,2,P⟩=U (I J 0)/\W1.cell? ⟨w.heap.size,3,P⟩=U (I J 0):=by rw[hW1];simp[go_sem]
 have rf4:∀o,W1.frozen? ⟨w.heap.size,o,P⟩=Z:=fun o=>by rw[hW1];simp[go_sem]
 have HR4:K _:=r4;have HF4:K _:=rf4;have HB1:K _:=hB1;have hlw:w.heap.size<W1.heap.size:=V _ _ r4.1;have HFi:=jE t p W1 (h.grow hB1)
 by_cases hc:Pg.tFC S t p=0
 ·have hz:qq S t p=0:=by
   by_cases hz:qq S t p=0
   ·exact hz
   ·rw[Pg.tFC,if_pos hz]at hc
    exact absurd hc hz
  obtain⟨Y,s,lv,hY,W,hsl,hl3,hY3,hpl,hix⟩:=qK hz;have hhas:=W.has
  have hlenX:lv+(Y.length+1)=4:=by have:=W.len;rw[kJ,z]at this;exact this
  have hbel:=W.below
  have eR:Pg.rmR S t p=Pg.rmW p (tabs (Y++[s])) (Y.length+1) S []:=by rw[Pg.rmR,if_pos hc,hY];simp
  have hlT:(tabs (Y++[s])).length=Y.length+1:=by rw[xM];simp
  have HW2:∀W',Below w.heap.size w W'->kT q 71 #[kS (U ⟨b,0,P⟩),I J t,I J p] W' fun e w'=>(∃ad cap,e=A (L #[kP #[D ad (Y.length+1) cap,B s.e.t,B s.e.l,I J s.e.r,B s.e.u,B s.e.d,I J s.e.f,I J (lv:Int)],I J 0])/\zh w' ad (tabs (Y++[s]))/\∀g,ad=U ⟨g,0,P⟩->W'.heap.size<=g)/\Below W'.heap.size W' w':=by
   intro W' hW';refine(jv t p W' (h.grow hW')).mono ?_;rintro e w' ⟨⟨ad,cap,he,hi⟩,hb,hnew⟩;rw[hY]at hi;refine⟨⟨ad,cap,?_,hi,fun g hg=>hnew g _ _ _ (by rw[he,hg])⟩,hb⟩;rw[he,hz,hY];simp only[vV,W.ygv,W.ygw,kJ,z]
  rw[hc,eR];rw[hc]at HFi;clear hc hz W hY hsl hpl hix h eR r4 rf4 hB1;generalize tabs (Y++[s])=T at*;generalize Y.length=N at*;generalize s.e=e at*;generalize Pg.tFM S t p=mm at*;generalize Pg.tFE S t p=ee at*;obtain⟨mp,ms,mf,mr⟩:=mm;obtain⟨et,el,er,eu,ed,ef⟩:=e;obtain⟨e't,e'l,e'r,e'u,e'd,e'f⟩:=ee;simp only[Pg.Mp.val,Pg.En.val]at HFi;simp only at HW2
  go_enter Tryz.func98,Tryz.ntmps98
  go_wp2_with fail
  rw[<-hW1];clear hW1;refine HFi.mono ?_;rintro en w3 ⟨rfl,hb3⟩;have HB3:K (Below W1.heap.size W1 w3):=hb3;clear hb3 HFi
  go_wp2_with fail
  obtain⟨W4,hW4⟩:∃W4,W4=(w3.alloc (O #[I J mp,I J ms,I J mf,I J mr] 39)).alloc (O #[B e't,B e'l,I J e'r,B e'u,B e'd,I J e'f] 70):=⟨_,rfl⟩
  have hb4:Below w3.heap.size w3 W4:=by rw[hW4];exact zA (zA (zR _) _) _
  have m4:W4.cell? ⟨w3.heap.size,0,P⟩=U (I J mp)/\W4.cell? ⟨w3.heap.size,1,P⟩=U (I J ms)/\W4.cell? ⟨w3.heap.size,2,P⟩=U (I J mf)/\W4.cell? ⟨w3.heap.size,3,P⟩=U (I J mr):=by rw[hW4];simp[go_sem]
  have HB4:K (Below W1.heap.size W1 W4):=zT HB3.out hb4;have M4:K _:=m4;rw[<-hW4];clear hW4 hb4 m4;refine(HW2 _ (zT HB1.out HB4.out)).mono ?_;rintro en w5 ⟨⟨ad,cap,rfl,hi,hnew⟩,hb5⟩;have HB5:K (Below W4.heap.size W4 w5):=hb5;clear hb5 HW2;obtain⟨W6,hW6⟩:∃W6,W6=w5.alloc (O #[D ad (N+1) cap,B et,B el,I J er,B eu,B ed,I J ef,I J (lv:Int)] 142):=⟨_,rfl⟩
  have hb6:Below w5.heap.size w5 W6:=by rw[hW6];exact zA (zR _) _
  have c0:W6.cell? ⟨w5.heap.size,0,P⟩=U (D ad (N+1) cap):=by rw[hW6];simp[go_sem]
  have hi6:=hi.below hb6;have HB6:K (Below W4.heap.size W4 W6):=zT HB5.out hb6;have B6:K (Below w.heap.size w W6):=zT HB1.out (zT HB4.out HB6.out);have Z6:K _:=xc (zT HB4.out HB6.out) HR4.out;have ZF6:K (∀o,W6.frozen? ⟨w.heap.size,o,P⟩=Z):=fun o=>((zT HB4.out HB6.out).frozen (p:=⟨w.heap.size,o,P⟩) hlw).trans (HF4.out o);have M6:K _:=xc HB6.out M4.out;have hl6:w5.heap.size<W6.heap.size:=V _ _ c0;have hl36:w3.heap.size<W6.heap.size:=V _ _ M6.out.1;have hmF:K (∀j,zN b g0 g1 vm j->j<w.heap.size):=fun j hj=>H.out.raw.lt hj;obtain⟨g,rfl,hg6,_⟩:=hi6 N (by omega);have hgnew:=hnew g rfl;have hs13:W1.heap.size<=w3.heap.size:=HB3.out.size
  have hs14:w3.heap.size<=w5.heap.size:=by have h1:=V _ _ M4.out.1;have h2:=HB5.out.size;simp only at h1;omega
  have hs44:W1.heap.size<=W4.heap.size:=HB4.out.size;have HI6:K (zh W6 (U ⟨g,0,P⟩) T):=hi6;have C0:K _:=c0;generalize hR:Pg.rmW p T (N+1) S []=R at*;have HRR:K _:=hR;have HHS:K _:=hhas
  have hNI:((N+1:Nat):Int)-1=(N:Int):=by omega
  clear hR hhas hi hb6 hnew HR4 HF4 HB3 HB5
  go_wp2_with fail
  rw[<-hW6];clear hW6
  go_wp2_with fail
  clear c0 hi6
  go_loopw [14,15] (fun vg kv wr=>∃(kk:Nat) (Si:Pg.Fs) (Gi:List Int),Gi.length+kk=N/\kv=I J (kk:Int)/\K (ye1 W6 wr b g0 g1 vm Si T kk p vg Gi R)) (fun _ kv _=>(intOf kv).toNat)
  case atStart=>exact⟨N,S,[],by simp,by simp,H.out.grow B6.out,But.refl _ _,World.ownsRow_nil _ _ _ _,HHS.out,HRR.out⟩
  case round=>
   obtain⟨kk,Si,Gi,hgk,rfl,HI⟩:=hrel
   have k0:(0:Int)<=(kk:Int):=by omega
   obtain⟨ga,gc,hvg⟩:=zF HI.out.own;subst hvg
   have hin:T.getD kk 0 ∈ T:=by
    have:kk<T.length:=by omega
    simp[List.getD,this]
   have hhT:=HI.out.has _ hin;obtain⟨t0,t1,_⟩:=HI.out.mem.ok.ygG hhT;obtain⟨tn,htn⟩:=kI t0;obtain⟨g',eg,_,hgc0⟩:=HI6.out kk (by omega);cases eg
   have nF:∀j,w.heap.size<=j->¬zN b g0 g1 vm j:=fun j hj h=>by have:=hmF.out j h;omega
   have hbw:wr.heap[w5.heap.size]?=W6.heap[w5.heap.size]?:=HI.out.but.block _ hl6 (nF _ (by omega));have hbg:wr.heap[g]?=W6.heap[g]?:=HI.out.but.block _ hg6 (nF _ (by omega));have y0:=(Q hbw).trans C0.out;have y1:=(Q hbg).trans hgc0;rw[htn]at hhT y1 t1
   have hidx:Pg.index p (3-(kk:Int))=(Pg.ix p (3-kk):Nat):=by rw[show(3-(kk:Int))=((3-kk:Nat):Int) by omega];exact Pg.ygA hbel (by omega)
   have hix8:Pg.ix p (3-kk)<8:=Pg.yhs _ _;have HIx:=zG p (3-(kk:Int));rw[hidx]at HIx;have hrest:=HI.out.rest;rw[yaS,htn,hidx]at hrest;have HRE:K _:=hrest;have HTN:K _:=htn;generalize Pg.ix p (3-kk)=i at*;have hw3:IntKind.i64.wrap (3-(kk:Int))=3-(kk:Int):=qc (by omega) (by omega);have hc0:=HI.out.mem.raw.c0
   have htl:tn<Si.n:=by omega
   have hcw:=HI.out.mem.raw.cw tn i htl hix8;have hf0:=HI.out.mem.raw.f0;have hsm:=HI.out.mem.ok.small
   have i0:(0:Int)<=(tn:Int):=by omega
   have i1:(tn:Int)<(Si.n:Int):=by omega
   have i2:(0:Int)<=(i:Int):=by omega
   have i3:(i:Int)<8:=by omega
   have i4:(kk:Int)<(N:Int)+1:=by omega
   have n0:¬g0=b:=HI.out.mem.raw.n0;have n0':¬b=g0:=fun e=>n0 e.symm;have hg0w:g0<w.heap.size:=hmF.out g0 (.inr (.inl rfl));have hbw0:b<w.heap.size:=hmF.out b (.inl rfl)
   have e1:¬g0=g:=by omega
   have e2:¬g=g0:=by omega
   have e3:¬g0=w5.heap.size:=by omega
   have e4:¬w5.heap.size=g0:=by omega
   have lg6:g0<wr.heap.size:=HI.out.mem.raw.l0;have HHas:K _:=hhT;clear hbw hbg hgc0 hrest hhT hidx t0 t1 nF htn;generalize Si.word tn i=wo at*
   go_wp2_with fail
   go_region_held3 (fun w'=>w'.cell? ⟨b,0,P⟩=U (D (U ⟨g0,0,P⟩) Si.n Si.n)/\w'.cell? ⟨w5.heap.size,0,P⟩=U (D (U ⟨g,0,P⟩) (N+1) cap)/\w'.cell? ⟨g,kk,P⟩=U (I J (tn:Int))) (go_keep) (
    (go_at_call 104;refine(HIx _).mono ?_;rintro e w7 ⟨rfl,hb7⟩
     have HB7:K (Below wr.heap.size wr w7):=zT (zR wr).drew hb7;have s0:=C HB7.out hc0;have s1:=C HB7.out y0;have s2:=C HB7.out y1;have s3:=C HB7.out hcw;have s4:∀o,w7.frozen? ⟨g0,o,P⟩=Z:=fun o=>(HB7.out.frozen (p:=⟨g0,o,P⟩) lg6).trans (hf0 o)
     clear hb7))
   have M8:K (zg (w7.setCell ⟨g0,tn*8+i,P⟩ (I kY 0)) b g0 g1 vm (Si.store (tn:Int) (i:Int) 0)):=(HI.out.mem.grow HB7.out).word HHas.out hix8 (by decide) (by decide)
   have B8:K (But (zN b g0 g1 vm) W6 (w7.setCell ⟨g0,tn*8+i,P⟩ (I kY 0))):=by
    refine But.setCell ?_ (by exact .inr (.inr (.inl rfl))) _;exact HI.out.but.trans (But.ygr (F:=fun _=>False) HB7.out) fun _ _ h=>h.elim
   have O8:K ((w7.setCell ⟨g0,tn*8+i,P⟩ (I kY 0)).ownsRow W6.heap.size 3 1 (D ga Gi.length gc) Gi.length (zr Gi)):=by
    have hb:But (fun j=>j=g0) wr (w7.setCell ⟨g0,tn*8+i,P⟩ (I kY 0)):=by
     refine But.setCell ?_ (by exact .inr rfl) _;exact But.ygr HB7.out
    exact zb HI.out.own hb fun j hj e=>by have:=(HI.out.own.lt j hj).1;omega
   have S8:K (∀x,x ∈ T->(Si.store (tn:Int) (i:Int) 0).has x=M):=fun x hx=>by rw[Pg.yhi];exact HI.out.has x hx
   have hn8:(Si.store (tn:Int) (i:Int) 0).n=Si.n:=(Pg.yh5 _ _ _ _).1;have HN8:K _:=hn8
   have j0:(w7.setCell ⟨g0,tn*8+i,P⟩ (I kY 0)).cell? ⟨b,0,P⟩=U (D (U ⟨g0,0,P⟩) Si.n Si.n):=by have:=M8.out.raw.c0;rw[hn8]at this;exact this
   have j1:(w7.setCell ⟨g0,tn*8+i,P⟩ (I kY 0)).cell? ⟨w5.heap.size,0,P⟩=U (D (U ⟨g,0,P⟩) (N+1) cap):=by simp[go_sem,s1,e3]
   have j2:(w7.setCell ⟨g0,tn*8+i,P⟩ (I kY 0)).cell? ⟨g,kk,P⟩=U (I J (tn:Int)):=by simp[go_sem,s2,e1]
   go_wp2_with fail
   generalize (w7.setCell ⟨g0,tn*8+i,P⟩ (I kY 0))=W8 at*;generalize Si.store (tn:Int) (i:Int) 0=S' at*;clear s0 s1 s2 s3 s4 HI HB7 hc0 hcw hf0 y0 y1 lg6 HIx hn8
   by_cases hk0:kk=0
   ·have hkb:((kk:Int)==0)=M:=by simp[hk0]
    have HFin:K (R=(S',Gi)):=by rw[K,<-HRE.out,qJ,if_pos (by left;omega)]
    have hbw:W8.heap[w.heap.size]?=W6.heap[w.heap.size]?:=B8.out.block _ (by omega) fun h=>by have:=hmF.out _ h;omega
    have hbm:W8.heap[w3.heap.size]?=W6.heap[w3.heap.size]?:=B8.out.block _ hl36 fun h=>by have:=hmF.out _ h;omega
    have z0:=(Q hbw).trans Z6.out.1;have z1:=(Q hbw).trans Z6.out.2.1;have z2:=(Q hbw).trans Z6.out.2.2.1;have z3:=(Q hbw).trans Z6.out.2.2.2;have zf:∀o,W8.frozen? ⟨w.heap.size,o,P⟩=Z:=fun o=>(kF hbw).trans (ZF6.out o);have m0:=(Q hbm).trans M6.out.1;have m1:=(Q hbm).trans M6.out.2.1;have m2:=(Q hbm).trans M6.out.2.2.1;have m3:=(Q hbm).trans M6.out.2.2.2;have fin:K (∀nq,yaA w b g0 g1 vm S' ⟨mp,ms,mf,mr⟩ Gi 0 (A (L #[(Pg.Mp.mk mp ms mf mr).val,D ga Gi.length gc,I J 0])) (((((W8.drewN nq).setCell ⟨w.heap.size,0,P⟩ (I J mp)).setCell ⟨w.heap.size,1,P⟩ (I J ms)).setCell ⟨w.heap.size,2,P⟩ (I J mf)).setCell ⟨w.heap.size,3,P⟩ (I J mr))):=fun nq=>yav H.out B6.out M8.out B8.out O8.out (below_drewN (zR _) nq) (by omega) _ _ _ _ ⟨mp,ms,mf,mr⟩ 0;clear hbw hbm
    go_quiet (fail)
    go_wp2_with fail
    refine y (v:=L #[kP #[I J mp,I J ms,I J mf,I J mr],D ga Gi.length gc,I J 0]) ?_ rfl ?_
    ·simp[results,Tryz.results98,go_sem,z0,z1,z2,z3]
    ·rw[HRR.out,HFin.out]
     exact fin.out _
   ·have hkb:((kk:Int)==0)=Z:=by simp[hk0]
    have htl8:tn<S'.n:=by rw[HN8.out];exact htl
    have w0:W8.cell? ⟨g0,tn*8,P⟩=_:=M8.out.raw.cw tn 0 htl8 (by omega);have w1:=M8.out.raw.cw tn 1 htl8 (by omega);have w2:=M8.out.raw.cw tn 2 htl8 (by omega);have w3':=M8.out.raw.cw tn 3 htl8 (by omega);have w4:=M8.out.raw.cw tn 4 htl8 (by omega);have w5':=M8.out.raw.cw tn 5 htl8 (by omega);have w6:=M8.out.raw.cw tn 6 htl8 (by omega);have w7':=M8.out.raw.cw tn 7 htl8 (by omega);have hz8:=ycr S' tn;generalize S'.word tn 0=q0 at*;generalize S'.word tn 1=q1 at*;generalize S'.word tn 2=q2 at*;generalize S'.word tn 3=q3 at*;generalize S'.word tn 4=q4 at*;generalize S'.word tn 5=q5 at*;generalize S'.word tn 6=q6 at*;generalize S'.word tn 7=q7 at*;cases hem:Pg.yg1 S' (tn:Int)
    ·have HFin:K (R=(S',Gi)):=by rw[K,<-HRE.out,qJ,if_pos (by right;rw[show kk+1-1=kk from rfl,HTN.out];exact hem)]
     rw[hem]at hz8
     have hbw:W8.heap[w.heap.size]?=W6.heap[w.heap.size]?:=B8.out.block _ (by omega) fun h=>by have:=hmF.out _ h;omega
     have hbm:W8.heap[w3.heap.size]?=W6.heap[w3.heap.size]?:=B8.out.block _ hl36 fun h=>by have:=hmF.out _ h;omega
     have z0:=(Q hbw).trans Z6.out.1;have z1:=(Q hbw).trans Z6.out.2.1;have z2:=(Q hbw).trans Z6.out.2.2.1;have z3:=(Q hbw).trans Z6.out.2.2.2;have zf:∀o,W8.frozen? ⟨w.heap.size,o,P⟩=Z:=fun o=>(kF hbw).trans (ZF6.out o);have m0:=(Q hbm).trans M6.out.1;have m1:=(Q hbm).trans M6.out.2.1;have m2:=(Q hbm).trans M6.out.2.2.1;have m3:=(Q hbm).trans M6.out.2.2.2;have fin:K (∀nq,yaA w b g0 g1 vm S' ⟨mp,ms,mf,mr⟩ Gi 0 (A (L #[(Pg.Mp.mk mp ms mf mr).val,D ga Gi.length gc,I J 0])) (((((W8.drewN nq).setCell ⟨w.heap.size,0,P⟩ (I J mp)).setCell ⟨w.heap.size,1,P⟩ (I J ms)).setCell ⟨w.heap.size,2,P⟩ (I J mf)).setCell ⟨w.heap.size,3,P⟩ (I J mr))):=fun nq=>yav H.out B6.out M8.out B8.out O8.out (below_drewN (zR _) nq) (by omega) _ _ _ _ ⟨mp,ms,mf,mr⟩ 0;clear hbw hbm
     go_quiet (fail)
     go_wp2_with fail
     refine y (v:=L #[kP #[I J mp,I J ms,I J mf,I J mr],D ga Gi.length gc,I J 0]) ?_ rfl ?_
     ·simp[results,Tryz.results98,go_sem,z0,z1,z2,z3]
     ·rw[HRR.out,HFin.out]
      exact fin.out _
    ·rw[hem]at hz8
     obtain⟨m,hkm⟩:∃m,kk=m+1:=⟨kk-1,by omega⟩
     have HNext:K (Pg.rmW p T (m+1) S' (Gi++[(tn:Int)])=R):=by
      rw[K,<-HRE.out,qJ,if_neg (by
       intro hh;rcases hh with h|h
       ·omega
       ·rw[show kk+1-1=kk from rfl,HTN.out,hem]at h;cases h)]
      rw[show kk+1-1=kk from rfl,HTN.out,hkm]
     have hkI:(kk:Int)-1=(m:Int):=by omega
     have HKM:K _:=hkm;clear hkm
     have hgl:Gi.length+1<=4:=by omega
     have hlm1:(1:Int)<=(kk:Int):=by omega
     go_quiet (fail)
     have hown9:(W8.drewN nq).ownsRow W6.heap.size 3 1 (D ga Gi.length gc) Gi.length (zr Gi):=zj O8.out (below_drewN (zR _) nq);have hs69:W6.heap.size<=W8.heap.size:=B8.out.size;obtain⟨p0,hq,hz0,hz1,hz2⟩:=info_parts qu
     go_wp2_with (first
      | (at_builtin;refine wpList_append_lies _ rfl _ _ 45 rfl W6.heap.size 3 p0 (I J 0) 1 8 Tryz.underlying45 hq hz0 hz1 hz2 rfl (by decide) _ _ _ rfl (hown9.alloc _) ⟨W8.heap.size,0,P⟩ 1 1 [I J (tn:Int)] rfl rfl ?c1 ?c2 (by decide) ?c3 ?c4 ?c5 (W8.heap.size+1) (by simp) ?_))
     case c1=>
      intro j u hj;exact World.news_of_block (cs:=#[I J (tn:Int)]) (heap_alloc_new (W8.drewN nq) _) j u hj
     case c2=>intro u hu;simp at hu;subst hu;rfl
     case c3=>unfold maxLen;omega
     case c4=>omega
     case c5=>simp;omega
     intro g9 cap9 w9 hown9' hgrow9 hat9 hlt9;have hB9:But (fun j=>(kN ga Gi.length gc).ownBlock=U j) W8 w9:=(But.ygr (zA (below_drewN (zR W8) nq) _)).grown hgrow9 fun k hk=> .inr hk
     have fin:K (ye1 W6 w9 b g0 g1 vm S' T m p (D (U ⟨g9,0,P⟩) (Gi.length+1) cap9) (Gi++[(tn:Int)]) R):=by
      have hlt:∀j,(kN ga Gi.length gc).ownBlock=U j->W6.heap.size<=j:=fun j hj=>(O8.out.lt j hj).1;refine⟨M8.out.keep hB9 fun j hj e=> ?_,B8.out.trans hB9 fun i hi h=> ?_,?_,S8.out,HNext.out⟩
      ·have:=hlt j e
       have:=hmF.out j hj;have:=B6.out.size;omega
      ·have:=hlt i h;omega
      ·rw[kJ,z,jm]
       exact hown9'
     clear hown9 hown9' hgrow9 hat9 hlt9 hB9
     go_wp2_with fail
     exact⟨⟨m,_,Gi++[(tn:Int)],by have:=HKM.out;simp;omega,by first|go_num|simp[hkI]|rfl,fin.out⟩,by have:=HKM.out;simp[intOf];omega⟩
 ·have e2:Pg.tFM S t p= .zz:=by rw[Pg.tFM,if_neg hc]
  have e4:Pg.tFE S t p=Pg.En.zero:=by rw[Pg.tFE,if_neg hc]
  have e3:Pg.rmR S t p=(S,[]):=by rw[Pg.rmR,if_neg hc]
  rw[e2,e3];rw[e2,e4]at HFi;clear h e2 e3 r4 rf4 hB1 e4;generalize Pg.tFC S t p=cc at*
  have hcb:(cc !=0)=M:=by simp[hc]
  clear hc;have HFi2:kT q 29 #[kS (U ⟨b,0,P⟩),I J t,I J p] W1 fun e w'=>e=A (L #[kP #[I J 0,I J 0,I J 0,I J 0],kP #[B Z,B Z,I J 0,B Z,B Z,I J 0],I J cc])/\Below W1.heap.size W1 w':=HFi;clear HFi
  go_enter Tryz.func98,Tryz.ntmps98
  go_wp2_with fail
  rw[<-hW1];clear hW1;refine HFi2.mono ?_;rintro en w3 ⟨rfl,hb3⟩;obtain⟨y0,y1,y2,y3⟩:=xc hb3 HR4.out;have yf:∀o,w3.frozen? ⟨w.heap.size,o,P⟩=Z:=fun o=>(hb3.frozen (p:=⟨w.heap.size,o,P⟩) hlw).trans (HF4.out o);have HB3:K (Below w.heap.size w w3):=zT HB1.out hb3;have hl3:w.heap.size<w3.heap.size:=V _ _ y0
  have hn3:¬w.heap.size=w3.heap.size:=by omega
  clear hb3 HFi2
  go_wp2_with fail
  have hBf:=zA (zA (zq HB3.out w.heap.size (kV _) (I J 0) (I J 0) (I J 0) (I J 0)) (O #[I J 0,I J 0,I J 0,I J 0] 39)) (O #[B Z,B Z,I J 0,B Z,B Z,I J 0] 70);refine y (v:=L #[kP #[I J 0,I J 0,I J 0,I J 0],D P 0 0,I J cc]) ?_ rfl ?_
  ·simp[results,Tryz.results98,go_sem,y0,y1,y2,y3,hl3,hn3]
  ·exact⟨P,0,rfl,fun j hj=>absurd hj (by simp),H.out.grow hBf,But.ygr hBf,fun g hg=>by cases hg⟩
end
end Go.Proofs.YtdphiompijbelaaGreat
