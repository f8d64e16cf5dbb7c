import Derived.Test.YtdphiompijbelaaGreatWalkF
import Derived.Test.YtdphiompijbelaaGreatTabKp
import Derived.Test.YtdphiompijbelaaGreatArrT
set_option linter.all false
set_option maxRecDepth 100000
open Nat renaming le_refl->ue
open Int renaming eq_ofNat_of_zero_le->kO
open Go.Proofs.Tryz renaming prog->q
open List renaming length_singleton->z,length_append->ki
open Go.Ending renaming returned->A
open Go.RowKit renaming Hid->K
open Go.Obj renaming cells->O
open Bool renaming false->Z,true->M,and_eq_true->yI,true_and->yJ
open Go.World renaming block_lt_of_cell?->V,cell?_of_block->Q,frozen?_of_block->ua
open Go renaming cell_later->C,bodyPost_ret->y,Value->un,World->ur,Calls->uc
open Option renaming none->P,some->U
open Go.IntKind renaming i64->J,u64->ud
open Go.Value renaming int->I,bool->B,slice->D,tuple->L,agg->kp,pointer->kh,slice->uv
set_option maxHeartbeats 4000000
namespace Go.Proofs.YtdphiompijbelaaGreat
open Go.RowKit Go.Sort
section
attribute [local go_sem] Loose.gent
theorem zj.grow {w w':ur} {b g0 g1:Nat} {vb:un} {S:Pg.Fs} (h:zj w b g0 g1 vb S) (hb:Lw w w'):zj w' b g0 g1 vb S:=h.keep (F:=fun _=>False) (But.yhJ hb) (fun _ _=>id)
def six (w:ur) (b:Nat) (e:Pg.En):Prop:=w.cell? ⟨b,0,P⟩=U (B e.t)/\w.cell? ⟨b,1,P⟩=U (B e.l)/\w.cell? ⟨b,2,P⟩=U (I J e.r)/\w.cell? ⟨b,3,P⟩=U (B e.u)/\w.cell? ⟨b,4,P⟩=U (B e.d)/\w.cell? ⟨b,5,P⟩=U (I J e.f)
theorem yaU {b g0 g1:Nat} {vm:un} {S:Pg.Fs} (t p:Int) (w:ur) (h:zj w b g0 g1 vm S):
 uc q 29 #[kh (U ⟨b,0,P⟩),I J t,I J p] w fun e w'=>e=A (L #[(Pg.tFM S t p).val,(Pg.tFE S t p).val,I J (Pg.tFC S t p)])/\Lw w w':=by
 obtain⟨W2,Hy⟩:=eY ((w.alloc (O #[I J 0,I J 0,I J 0,I J 0] 39)).alloc (O #[B Z,B Z,I J 0,B Z,B Z,I J 0] 70))
 have tL:Lw w W2:=by rw[Hy];exact zA (zA (zR w) _) _
 have r4:W2.cell? ⟨w.heap.size,0,P⟩=U (I J 0)/\W2.cell? ⟨w.heap.size,1,P⟩=U (I J 0)/\W2.cell? ⟨w.heap.size,2,P⟩=U (I J 0)/\W2.cell? ⟨w.heap.size,3,P⟩=U (I J 0):=by rw[Hy];simp[go_sem]
 have r6:W2.cell? ⟨w.heap.size+1,0,P⟩=U (B Z)/\W2.cell? ⟨w.heap.size+1,1,P⟩=U (B Z)/\W2.cell? ⟨w.heap.size+1,2,P⟩=U (I J 0)/\W2.cell? ⟨w.heap.size+1,3,P⟩=U (B Z)/\W2.cell? ⟨w.heap.size+1,4,P⟩=U (B Z)/\W2.cell? ⟨w.heap.size+1,5,P⟩=U (I J 0):=by rw[Hy];simp[go_sem]
 have kX:∀o,W2.frozen? ⟨w.heap.size,o,P⟩=Z:=fun o=>by rw[Hy];simp[go_sem]
 have AP:∀o,W2.frozen? ⟨w.heap.size+1,o,P⟩=Z:=fun o=>by rw[Hy];simp[go_sem]
 have sN:W2.heap.size=w.heap.size+2:=by rw[Hy];simp
 have HW:=jK t p W2 (h.grow tL);have ni:K _:=r4;have Lh:K _:=r6;have sU:K _:=kX;have ND:K _:=AP;have Ht:K _:=tL;have e1:Pg.tFC S t p=if xQ S t p≠0 then xQ S t p else if (yhO (zg S t p)).t=M then 0 else 5:=rfl;have e2:Pg.tFM S t p=if Pg.tFC S t p=0 then(yhO (zg S t p)).map (yhQ (zg S t p)) p else .zz:=rfl;have e3:Pg.tFE S t p=if Pg.tFC S t p=0 then yhO (zg S t p)else Pg.En.zero:=rfl;generalize Pg.tFC S t p=cc at*;generalize Pg.tFM S t p=mm at*;generalize Pg.tFE S t p=ee at*;generalize xQ S t p=fc at*;generalize zg S t p=X at*;have OT:=fun w=>vT (yhO X).t (yhO X).l (yhO X).r (yhO X).u (yhO X).d (yhO X).f (yhQ X) p w;have wI:∀w,uc q 72 #[kp #[B (yhO X).t,B (yhO X).l,I J (yhO X).r,B (yhO X).u,B (yhO X).d,I J (yhO X).f],I J (yhQ X),I J p] w fun e w'=>e=A ((yhO X).map (yhQ X) p).val/\Lw w w':=OT;clear h r4 r6 kX AP tL OT;have HV:K (∀v,yaE X v=kp #[v,B (yhO X).t,B (yhO X).l,I J (yhO X).r,B (yhO X).u,B (yhO X).d,I J (yhO X).f,I J (yhQ X)]):=fun v=>rfl;generalize (yhO X).map (yhQ X) p=lm at*;generalize yhO X=E at*;generalize yhQ X=lv at*;obtain⟨et,el,er,eu,ed,ef⟩:=E;obtain⟨lp,ls,lf,lr⟩:=lm;simp only[Pg.Mp.val]at wI HV
 by_cases hfc:fc=0
 ·subst hfc
  rw[iN (by simp)]at e1;cases et
  ·have FX:cc=5:=by rw[e1];rfl
   subst FX;rw[iN (by decide)]at e2 e3;subst e2 e3;clear e1 wI
   go_enter Tryz.func29,Tryz.ntmps29
   go_wp2_with fail
   rw[<-Hy];refine HW.mono ?_;rintro e w1 ⟨⟨ad,cap,rfl,_⟩,Ha⟩;obtain⟨r0,r1,r2,r3⟩:=xG Ha ni.out;obtain⟨s0,s1,s2,s3,s4,s5⟩:=xC Ha Lh.out;have dE:w.heap.size+1<w1.heap.size:=V _ _ s0
   have mJ:w.heap.size<w1.heap.size:=by omega
   have bI:¬w.heap.size=w1.heap.size:=by omega
   have dY:¬w.heap.size+1=w1.heap.size:=by omega
   have f4:∀o,w1.frozen? ⟨w.heap.size,o,P⟩=Z:=fun o=>(Ha.frozen (p:=⟨w.heap.size,o,P⟩) (by simp;omega)).trans (sU.out o);have f6:∀o,w1.frozen? ⟨w.heap.size+1,o,P⟩=Z:=fun o=>(Ha.frozen (p:=⟨w.heap.size+1,o,P⟩) (by simp;omega)).trans (ND.out o);have ry:K (Lw w w1):=zT Ht.out Ha;rw[HV.out];clear Ha HW
   go_wp2
   refine y (v:=L #[kp #[I J 0,I J 0,I J 0,I J 0],kp #[B Z,B Z,I J 0,B Z,B Z,I J 0],I J 5]) ?_ rfl ⟨rfl,?_⟩
   ·simp[results,Tryz.results29,go_sem,r0,r1,r2,r3,s0,s1,s2,s3,s4,s5,dE,mJ,bI,dY]
   ·exact zA ((((((((((ry.out.setCell (by simp) _).setCell (by simp) _).setCell (by simp) _).setCell (by simp) _).setCell (by simp) _).setCell (by simp) _).setCell (by simp) _).setCell (by simp) _).setCell (by simp) _).setCell (by simp) _) _
  ·have FX:cc=0:=by rw[e1];rfl
   subst FX;rw[iP rfl]at e2 e3;subst e2 e3;clear e1
   go_enter Tryz.func29,Tryz.ntmps29
   go_wp2_with fail
   rw[<-Hy];refine HW.mono ?_;rintro e w1 ⟨⟨ad,cap,rfl,_⟩,Ha⟩;have K4:K _:=xG Ha ni.out;have K6:K _:=xC Ha Lh.out;have dE:w.heap.size+1<w1.heap.size:=V _ _ K6.out.1
   have mJ:w.heap.size<w1.heap.size:=by omega
   have bI:¬w.heap.size=w1.heap.size:=by omega
   have dY:¬w.heap.size+1=w1.heap.size:=by omega
   have f4:K (∀o,w1.frozen? ⟨w.heap.size,o,P⟩=Z):=fun o=>(Ha.frozen (p:=⟨w.heap.size,o,P⟩) (by simp;omega)).trans (sU.out o);have f6:K (∀o,w1.frozen? ⟨w.heap.size+1,o,P⟩=Z):=fun o=>(Ha.frozen (p:=⟨w.heap.size+1,o,P⟩) (by simp;omega)).trans (ND.out o);have ry:K (Lw w w1):=zT Ht.out Ha;rw[HV.out];clear Ha HW
   go_wp2_with fail
   obtain⟨r0,r1,r2,r3⟩:=K4.out;obtain⟨s0,s1,s2,s3,s4,s5⟩:=K6.out;have g4:=f4.out;have g6:=f6.out
   go_region_held3 (fun w'=>w'.cell? ⟨w1.heap.size,1,P⟩=U (B M)/\w'.cell? ⟨w1.heap.size,2,P⟩=U (B el)/\w'.cell? ⟨w1.heap.size,3,P⟩=U (I J er)/\w'.cell? ⟨w1.heap.size,4,P⟩=U (B eu)/\w'.cell? ⟨w1.heap.size,5,P⟩=U (B ed)/\w'.cell? ⟨w1.heap.size,6,P⟩=U (I J ef)/\w'.cell? ⟨w1.heap.size,7,P⟩=U (I J lv)) (go_keep) (first
    | (go_at_call 72;refine(wI _).mono ?_;rintro e w2 ⟨rfl,Hd⟩
       have t6:=xC (b:=w.heap.size+1) Hd (v0:=B Z) (v1:=B Z) (v2:=I J 0) (v3:=B Z) (v4:=B Z) (v5:=I J 0) (by simp[go_sem,s0,s1,s2,s3,s4,s5,dE,dY]);have t4:=xG (b:=w.heap.size) Hd (v0:=I J 0) (v1:=I J 0) (v2:=I J 0) (v3:=I J 0) (by simp[go_sem,r0,r1,r2,r3,mJ,bI]);have x4:∀o,w2.frozen? ⟨w.heap.size,o,P⟩=Z:=fun o=>(Hd.frozen (p:=⟨w.heap.size,o,P⟩) (by simp;omega)).trans (by simp[go_sem,g4,mJ,bI]);have x6:∀o,w2.frozen? ⟨w.heap.size+1,o,P⟩=Z:=fun o=>(Hd.frozen (p:=⟨w.heap.size+1,o,P⟩) (by simp;omega)).trans (by simp[go_sem,g6,dE,dY]);have hc:∀o,w2.cell? ⟨w1.heap.size,o,P⟩=_:=fun o=>Hd.cell (p:=⟨w1.heap.size,o,P⟩) (by simp)
       have rX:w1.heap.size<w2.heap.size:=by have:=Hd.size;simp at this;omega
       have rE:K _:=Hd;obtain⟨t40,t41,t42,t43⟩:=t4;obtain⟨t60,t61,t62,t63,t64,t65⟩:=t6
       clear Hd))
   go_wp2
   refine y (v:=L #[kp #[I J lp,I J ls,I J lf,I J lr],kp #[B M,B el,I J er,B eu,B ed,I J ef],I J 0]) ?_ rfl ⟨rfl,?_⟩
   ·simp[results,Tryz.results29,go_sem,t40,t41,t42,t43,t60,t61,t62,t63,t64,t65,dE,mJ,bI,dY]
   ·have He:=zT (zA ry.out _).drew rE.out
    exact(((((((((He.setCell (by simp) _).setCell (by simp) _).setCell (by simp) _).setCell (by simp) _).setCell (by simp) _).setCell (by simp) _).setCell (by simp) _).setCell (by simp) _).setCell (by simp) _).setCell (by simp) _
 ·have FX:cc=fc:=by rw[e1,iP hfc]
  subst FX;rw[iN hfc]at e2 e3;subst e2 e3;clear e1 wI
  go_enter Tryz.func29,Tryz.ntmps29
  go_wp2_with fail
  rw[<-Hy];refine HW.mono ?_;rintro e w1 ⟨⟨ad,cap,rfl,_⟩,Ha⟩;obtain⟨r0,r1,r2,r3⟩:=xG Ha ni.out;obtain⟨s0,s1,s2,s3,s4,s5⟩:=xC Ha Lh.out;have dE:w.heap.size+1<w1.heap.size:=V _ _ s0
  have mJ:w.heap.size<w1.heap.size:=by omega
  have bI:¬w.heap.size=w1.heap.size:=by omega
  have dY:¬w.heap.size+1=w1.heap.size:=by omega
  have f4:∀o,w1.frozen? ⟨w.heap.size,o,P⟩=Z:=fun o=>(Ha.frozen (p:=⟨w.heap.size,o,P⟩) (by simp;omega)).trans (sU.out o);have f6:∀o,w1.frozen? ⟨w.heap.size+1,o,P⟩=Z:=fun o=>(Ha.frozen (p:=⟨w.heap.size+1,o,P⟩) (by simp;omega)).trans (ND.out o);have ry:K (Lw w w1):=zT Ht.out Ha;rw[HV.out];clear Ha HW
  go_wp2
  refine y (v:=L #[kp #[I J 0,I J 0,I J 0,I J 0],kp #[B Z,B Z,I J 0,B Z,B Z,I J 0],I J cc]) ?_ rfl ⟨rfl,?_⟩
  ·simp[results,Tryz.results29,go_sem,r0,r1,r2,r3,s0,s1,s2,s3,s4,s5,dE,mJ,bI,dY]
  ·exact zA ((((((((((ry.out.setCell (by simp) _).setCell (by simp) _).setCell (by simp) _).setCell (by simp) _).setCell (by simp) _).setCell (by simp) _).setCell (by simp) _).setCell (by simp) _).setCell (by simp) _).setCell (by simp) _) _
structure ygW (w:ur) (b g0 n g j Y x R k:Nat) (vt:un) (el:Bool) (r:Int) (eu ed:Bool) (ef lv tl lp ls lf W:Int):Prop where
 a0:w.cell? ⟨b,0,P⟩=U (D (U ⟨g0,0,P⟩) n n)
 a1:w.cell? ⟨Y,0,P⟩=U vt
 a2:w.cell? ⟨Y,7,P⟩=U (I J lv)
 a3:w.cell? ⟨g,j,P⟩=U (I J tl)
 y0:w.cell? ⟨x+1,0,P⟩=U (B M)
 y1:w.cell? ⟨x+1,1,P⟩=U (B el)
 y2:w.cell? ⟨x+1,2,P⟩=U (I J r)
 y3:w.cell? ⟨x+1,3,P⟩=U (B eu)
 y4:w.cell? ⟨x+1,4,P⟩=U (B ed)
 y5:w.cell? ⟨x+1,5,P⟩=U (I J ef)
 x0:w.cell? ⟨x,0,P⟩=U (I J lp)
 x1:w.cell? ⟨x,1,P⟩=U (I J ls)
 x2:w.cell? ⟨x,2,P⟩=U (I J lf)
 x3:w.cell? ⟨x,3,P⟩=U (I J r)
 z0:w.cell? ⟨R,0,P⟩=U (I J 0)
 z1:w.cell? ⟨R,1,P⟩=U (I J 0)
 z2:w.cell? ⟨R,2,P⟩=U (I J 0)
 z3:w.cell? ⟨R,3,P⟩=U (I J 0)
 cw:w.cell? ⟨g0,k,P⟩=U (I ud W)
 f0:∀o,w.frozen? ⟨g0,o,P⟩=Z
 fR:∀o,w.frozen? ⟨R,o,P⟩=Z
theorem ygW.later {w w':ur} {b g0 n g j Y x R k:Nat} {vt:un} {el:Bool} {r:Int} {eu ed:Bool} {ef lv tl lp ls lf W:Int} (h:ygW w b g0 n g j Y x R k vt el r eu ed ef lv tl lp ls lf W) (hb:Lw w w'):ygW w' b g0 n g j Y x R k vt el r eu ed ef lv tl lp ls lf W:=by
 have c:∀{a:Addr} {v:un},w.cell? a=U v->w'.cell? a=U v:=fun{a v} e=>(hb.cell (p:=a) (V _ _ e)).trans e;have q0:g0<w.heap.size:=V _ _ h.cw;have q1:R<w.heap.size:=V _ _ h.z0;exact⟨c h.a0,c h.a1,c h.a2,c h.a3,c h.y0,c h.y1,c h.y2,c h.y3,c h.y4,c h.y5,c h.x0,c h.x1,c h.x2,c h.x3,c h.z0,c h.z1,c h.z2,c h.z3,c h.cw,fun o=>(hb.frozen (p:=⟨g0,o,P⟩) q0).trans (h.f0 o),fun o=>(hb.frozen (p:=⟨R,o,P⟩) q1).trans (h.fR o)⟩
theorem yfj {X:List Pg.Sp} (h:1<=X.length):(tabs X).getD (X.length-1) 0=lastT X:=by
 unfold tabs lastT;rw[List.getLast?_eq_getElem?,List.getD,List.getElem?_map]
 cases X[X.length-1]? <;>rfl
theorem ybw {b g0 g1:Nat} {vm:un} {S:Pg.Fs} (t p r:Int) (w:ur) (h:zj w b g0 g1 vm S):
 uc q 99 #[kh (U ⟨b,0,P⟩),I J t,I J p,I J r] w fun e w'=>e=A (L #[(Pg.prM S t p r).val,I J (Pg.prC S t p r)])/\zj w' b g0 g1 vm (Pg.prS S t p r)/\But (xg b g0 g1 vm) w w':=by
 have HX:K _:=h
 by_cases hr:r<0\/7<r
 ·have e1:Pg.prC S t p r=1:=by rw[Pg.prC,iP hr]
  have e2:Pg.prM S t p r= .zz:=by rw[Pg.prM,e1,iN (by decide)]
  have e3:Pg.prS S t p r=S:=by rw[Pg.prS,e1,iN (by decide)]
  rw[e1,e2,e3];have fin:K (∀o:Obj,zj (w.alloc o) b g0 g1 vm S/\But (xg b g0 g1 vm) w (w.alloc o)):=fun o=>⟨h.grow (zA (zR _) _),But.yhJ (zA (zR _) _)⟩;clear h e1 e2 e3 HX
  by_cases h0:r<0
  ·clear hr
   go_enter Tryz.func99,Tryz.ntmps99
   go_wp2
   refine y (v:=L #[kp #[I J 0,I J 0,I J 0,I J 0],I J 1]) ?_ rfl ⟨rfl,?_⟩
   ·simp[results,Tryz.results99,go_sem]
   ·exact fin.out _
  ·have h1:7<r:=by omega
   clear hr
   go_enter Tryz.func99,Tryz.ntmps99
   go_wp2
   refine y (v:=L #[kp #[I J 0,I J 0,I J 0,I J 0],I J 1]) ?_ rfl ⟨rfl,?_⟩
   ·simp[results,Tryz.results99,go_sem]
   ·exact fin.out _
 ·have h0:¬r<0:=by omega
  have h1:¬7<r:=by omega
  have HF:=fun o=>yaU t p (w.alloc o) (h.grow (zA (zR _) o))
  have e1:Pg.prC S t p r=Pg.tFC S t p:=by rw[Pg.prC,iN hr]
  by_cases hc:Pg.tFC S t p=0
  ·have hz:xQ S t p=0:=by
    by_cases hz:xQ S t p=0
    ·exact hz
    ·rw[Pg.tFC,iP hz]at hc
     exact absurd hc hz
   obtain⟨lv,⟨et,el,er,eu,ed,ef⟩,tl,W⟩:=Pg.ykQ hz
   have ht:et=M:=by
    rw[Pg.tFC,hz,iN (by decide),W.yhO]at hc;cases et
    ·simp at hc
    ·rfl
   subst ht;have Hg:=W.len
   have Kn:1<=(zg S t p).length:=by
    cases hX:zg S t p with
    | nil=>
      have:=W.hasT;rw[<-W.lastT]at this;have h4:=W.len;rw[hX]at h4;have h5:=W.yhQ;rw[hX]at h5;simp[yhQ]at h5 h4;omega
    | cons a l=>simp
   have fZ:Pg.index p (lv:Int)=(Pg.ix p lv:Nat):=Pg.yhY W.below (by omega);have gm:Pg.ix p lv<8:=Pg.yiw _ _
   have e2:Pg.prM S t p r=(Pg.tFM S t p).rts r:=by rw[Pg.prM,e1,iP hc]
   have e3:Pg.prS S t p r=S.store tl ((Pg.ix p lv:Nat):Int) (Pg.enc M el r eu ed ef (lv:Int)):=by
    rw[Pg.prS,e1,iP hc,W.lastT,W.yhQ,W.yhO,fZ]
   have e5:Pg.tFE S t p=⟨M,el,er,eu,ed,ef⟩:=by rw[Pg.tFE,iP hc,W.yhO]
   rw[e1,e2,e3,hc];rw[e5,hc]at HF;generalize Pg.tFM S t p=mm at*;obtain⟨lp,ls,lf,lr⟩:=mm;have TU:∀o,uc q 29 #[kh (U ⟨b,0,P⟩),I J t,I J p] (w.alloc o) fun e w'=>e=A (L #[kp #[I J lp,I J ls,I J lf,I J lr],kp #[B M,B el,I J er,B eu,B ed,I J ef],I J 0])/\Below (w.alloc o).heap.size (w.alloc o) w':=HF
   have HW:∀W',Lw w W'->uc q 71 #[kh (U ⟨b,0,P⟩),I J t,I J p] W' fun e w'=>(∃ad cap,e=A (L #[kp #[D ad (zg S t p).length cap,B M,B el,I J er,B eu,B ed,I J ef,I J (lv:Int)],I J 0])/\zq w' ad (tabs (zg S t p))/\∀g,ad=U ⟨g,0,P⟩->W'.heap.size<=g)/\Lw W' w':=by
    intro W' Py;refine(jK t p W' (h.grow Py)).mono ?_;rintro e w' ⟨⟨ad,cap,he,hi⟩,hb,pV⟩;refine⟨⟨ad,cap,?_,hi,fun g hg=>pV g _ _ _ (by rw[he,hg])⟩,hb⟩;rw[he,hz];simp only[yaE,W.yhO,W.yhQ]
   clear h e1 e2 e3 e5 HF hr hc;have WW:K _:=W;clear W
   go_enter Tryz.func99,Tryz.ntmps99
   go_wp2_with fail
   refine(TU _).mono ?_;rintro e w1 ⟨rfl,Ha⟩;have hr:∀o,w1.cell? ⟨w.heap.size,o,P⟩=_:=fun o=>Ha.cell (p:=⟨w.heap.size,o,P⟩) (by simp);have hf:∀o,w1.frozen? ⟨w.heap.size,o,P⟩=_:=fun o=>Ha.frozen (p:=⟨w.heap.size,o,P⟩) (by simp);have hB:K (Lw w w1):=zT (zA (zR _) _) Ha
   have mJ:w.heap.size<w1.heap.size:=by have:=Ha.size;simp at this;omega
   have bI:¬w.heap.size=w1.heap.size:=by omega
   clear Ha TU
   go_wp2_with fail
   have kx:((w1.alloc (O #[I J lp,I J ls,I J lf,I J lr] 39)).alloc (O #[B M,B el,I J er,B eu,B ed,I J ef] 70)).cell? ⟨w1.heap.size,0,P⟩=U (I J lp)/\((w1.alloc (O #[I J lp,I J ls,I J lf,I J lr] 39)).alloc (O #[B M,B el,I J er,B eu,B ed,I J ef] 70)).cell? ⟨w1.heap.size,1,P⟩=U (I J ls)/\((w1.alloc (O #[I J lp,I J ls,I J lf,I J lr] 39)).alloc (O #[B M,B el,I J er,B eu,B ed,I J ef] 70)).cell? ⟨w1.heap.size,2,P⟩=U (I J lf)/\((w1.alloc (O #[I J lp,I J ls,I J lf,I J lr] 39)).alloc (O #[B M,B el,I J er,B eu,B ed,I J ef] 70)).cell? ⟨w1.heap.size,3,P⟩=U (I J lr):=by simp[go_sem]
   have ke:((w1.alloc (O #[I J lp,I J ls,I J lf,I J lr] 39)).alloc (O #[B M,B el,I J er,B eu,B ed,I J ef] 70)).cell? ⟨w1.heap.size+1,0,P⟩=U (B M)/\((w1.alloc (O #[I J lp,I J ls,I J lf,I J lr] 39)).alloc (O #[B M,B el,I J er,B eu,B ed,I J ef] 70)).cell? ⟨w1.heap.size+1,1,P⟩=U (B el)/\((w1.alloc (O #[I J lp,I J ls,I J lf,I J lr] 39)).alloc (O #[B M,B el,I J er,B eu,B ed,I J ef] 70)).cell? ⟨w1.heap.size+1,2,P⟩=U (I J er)/\((w1.alloc (O #[I J lp,I J ls,I J lf,I J lr] 39)).alloc (O #[B M,B el,I J er,B eu,B ed,I J ef] 70)).cell? ⟨w1.heap.size+1,3,P⟩=U (B eu)/\((w1.alloc (O #[I J lp,I J ls,I J lf,I J lr] 39)).alloc (O #[B M,B el,I J er,B eu,B ed,I J ef] 70)).cell? ⟨w1.heap.size+1,4,P⟩=U (B ed)/\((w1.alloc (O #[I J lp,I J ls,I J lf,I J lr] 39)).alloc (O #[B M,B el,I J er,B eu,B ed,I J ef] 70)).cell? ⟨w1.heap.size+1,5,P⟩=U (I J ef):=by simp[go_sem]
   have kr:∀o,((w1.alloc (O #[I J lp,I J ls,I J lf,I J lr] 39)).alloc (O #[B M,B el,I J er,B eu,B ed,I J ef] 70)).frozen? ⟨w1.heap.size,o,P⟩=Z/\((w1.alloc (O #[I J lp,I J ls,I J lf,I J lr] 39)).alloc (O #[B M,B el,I J er,B eu,B ed,I J ef] 70)).frozen? ⟨w1.heap.size+1,o,P⟩=Z/\((w1.alloc (O #[I J lp,I J ls,I J lf,I J lr] 39)).alloc (O #[B M,B el,I J er,B eu,B ed,I J ef] 70)).frozen? ⟨w.heap.size,o,P⟩=Z:=fun o=>by simp[go_sem,hf,mJ,bI]
   have k0:((w1.alloc (O #[I J lp,I J ls,I J lf,I J lr] 39)).alloc (O #[B M,B el,I J er,B eu,B ed,I J ef] 70)).cell? ⟨w.heap.size,0,P⟩=U (I J 0)/\((w1.alloc (O #[I J lp,I J ls,I J lf,I J lr] 39)).alloc (O #[B M,B el,I J er,B eu,B ed,I J ef] 70)).cell? ⟨w.heap.size,1,P⟩=U (I J 0)/\((w1.alloc (O #[I J lp,I J ls,I J lf,I J lr] 39)).alloc (O #[B M,B el,I J er,B eu,B ed,I J ef] 70)).cell? ⟨w.heap.size,2,P⟩=U (I J 0)/\((w1.alloc (O #[I J lp,I J ls,I J lf,I J lr] 39)).alloc (O #[B M,B el,I J er,B eu,B ed,I J ef] 70)).cell? ⟨w.heap.size,3,P⟩=U (I J 0):=by simp[go_sem,hr,mJ,bI]
   have kB:Lw w ((w1.alloc (O #[I J lp,I J ls,I J lf,I J lr] 39)).alloc (O #[B M,B el,I J er,B eu,B ed,I J ef] 70)):=zA (zA hB.out _) _;generalize (w1.alloc (O #[I J lp,I J ls,I J lf,I J lr] 39)).alloc (O #[B M,B el,I J er,B eu,B ed,I J ef] 70)=W2 at*;clear hr hf hB;generalize w1.heap.size=x at*;refine(HW _ kB).mono ?_;rintro e w3 ⟨⟨ad,cap,rfl,hi,pV⟩,He⟩;obtain⟨g,rfl,hg,gB⟩:=hi ((zg S t p).length-1) (by rw[xA];omega);obtain⟨x0,x1,x2,x3⟩:=xG He kx;obtain⟨y0,y1,y2,y3,y4,y5⟩:=xC He ke;obtain⟨z0,z1,z2,z3⟩:=xG He k0;have xl:x<w3.heap.size:=V _ _ x0;have yl:x+1<w3.heap.size:=V _ _ y0;have xl2:x<W2.heap.size:=V _ _ kx.1;have DK:x+1<W2.heap.size:=V _ _ ke.1;have u0:∀o,w3.frozen? ⟨x,o,P⟩=Z:=fun o=>(He.frozen (p:=⟨x,o,P⟩) xl2).trans (kr o).1;have u1:∀o,w3.frozen? ⟨x+1,o,P⟩=Z:=fun o=>(He.frozen (p:=⟨x+1,o,P⟩) DK).trans (kr o).2.1;have u2:∀o,w3.frozen? ⟨w.heap.size,o,P⟩=Z:=fun o=>(He.frozen (p:=⟨w.heap.size,o,P⟩) (by show w.heap.size<_;omega)).trans (kr o).2.2;have B3:K (Lw w w3):=zT kB He;have M3:K _:=HX.out.grow B3.out
   have fC:w.heap.size<w3.heap.size:=by omega
   have m1:¬x=w3.heap.size:=by omega
   have m2:¬x+1=w3.heap.size:=by omega
   have m3:¬w.heap.size=w3.heap.size:=by omega
   have mU:(tabs (zg S t p)).getD ((zg S t p).length-1) 0=tl:=by rw[yfj Kn];exact WW.out.lastT
   rw[mU]at gB;obtain⟨t0,t1,_⟩:=M3.out.ok.yh4 WW.out.hasT;obtain⟨tn,rfl⟩:=kO t0
   have nL:tn<S.n:=by omega
   have gI:=M3.out.ok.small
   have PX:¬g=g0:=by
    intro e;have h1:=M3.out.raw.cw 0 ((zg S t p).length-1) (by omega) (by omega);rw[e,show(zg S t p).length-1=0*8+((zg S t p).length-1) by omega,h1]at gB;simp at gB
   have hl0w:=HX.out.raw.l0;have rY:=HX.out.raw.lb;have hgx:W2.heap.size<=g:=pV g rfl
   have gx0:¬g=x:=by omega
   have gx1:¬g=x+1:=by omega
   have gY:¬g=w3.heap.size:=by omega
   have iG:=M3.out.raw.cw tn (Pg.ix p lv) nL gm;have nX:=M3.out.raw.f0;have rT:=M3.out.raw.c0
   have nb0:¬b=x:=by omega
   have SB:¬b=x+1:=by omega
   have nbY:¬b=w3.heap.size:=by omega
   have U6:¬g0=x:=by omega
   have U7:¬g0=x+1:=by omega
   have ngY:¬g0=w3.heap.size:=by omega
   have U8:¬g0=w.heap.size:=by omega
   have lb3:b<w3.heap.size:=by omega
   have AJ:g0<w3.heap.size:=by omega
   clear kx ke kr k0 kB HW hi pV;generalize hV:uv (U ⟨g,0,P⟩) (zg S t p).length cap=vt
   have P4:ygW (((w3.setCell ⟨x+1,2,P⟩ (I J r)).setCell ⟨x,3,P⟩ (I J r)).alloc (O #[vt,B M,B el,I J er,B eu,B ed,I J ef,I J (lv:Int)] 142)) b g0 S.n g ((zg S t p).length-1) w3.heap.size x w.heap.size (tn*8+Pg.ix p lv) vt el r eu ed ef (lv:Int) (tn:Int) lp ls lf (S.word tn (Pg.ix p lv)):=by
    constructor<;>first
     | (simp[go_sem,rT,gB,x0,x1,x2,x3,y0,y1,y2,y3,y4,y5,z0,z1,z2,z3,iG,xl,yl,hg,lb3,AJ,fC,gx0,gx1,nb0,SB,U6,U7,bI,mJ,m1,m2,m3,gY,nbY,ngY,U8];done)
     | (intro o;simp[go_sem,nX,u2,AJ,fC];done)
   subst hV;have b4:Lw w (((w3.setCell ⟨x+1,2,P⟩ (I J r)).setCell ⟨x,3,P⟩ (I J r)).alloc (O #[uv (U ⟨g,0,P⟩) (zg S t p).length cap,B M,B el,I J er,B eu,B ed,I J ef,I J (lv:Int)] 142)):=zA ((B3.out.setCell (by show w.heap.size<=x+1;omega) _).setCell (by show w.heap.size<=x;omega) _) _;have rR:K _:=b4;have CY:K _:=P4;clear b4 P4
   go_wp2_with fail
   generalize rJ:(((w3.setCell ⟨x+1,2,P⟩ (I J r)).setCell ⟨x,3,P⟩ (I J r)).alloc (O #[uv (U ⟨g,0,P⟩) (zg S t p).length cap,B M,B el,I J er,B eu,B ed,I J ef,I J (lv:Int)] 142))=W4 at*;have hY4:w3.heap.size<W4.heap.size:=V _ _ CY.out.a1;clear rJ x0 x1 x2 x3 y0 y1 y2 y3 y4 y5 z0 z1 z2 z3 u0 u1 u2 gB iG nX rT He;generalize hYY:w3.heap.size=Y at*;clear hYY;have fG:=zQ p (lv:Int);rw[fZ]at fG;have wU:=jh M el r eu ed ef (lv:Int);have lU:K (0<=Pg.enc M el r eu ed ef (lv:Int)/\Pg.enc M el r eu ed ef (lv:Int)<18446744073709551616):=Pg.yk9 _ _ _ _ _ _ _;generalize BZ:Pg.enc M el r eu ed ef (lv:Int)=v at*;have LA:K _:=BZ;clear BZ;generalize Pg.yhN M el r eu ed ef (lv:Int)=fl at*;generalize PY:Pg.ix p lv=i at*;have WE:K _:=PY;clear PY;generalize S.word tn i=W at*;generalize (zg S t p).length=len at*;obtain⟨j,rfl⟩:∃j,len=j+1:=⟨len-1,by omega⟩;rw[Nat.add_sub_cancel]at CY
   have i0:(0:Int)<=(tn:Int):=by omega
   have i1:(tn:Int)<(S.n:Int):=by omega
   have i2:(0:Int)<=(i:Int):=by omega
   have i3:(i:Int)<8:=by omega
   have i4:(0:Int)<=(j:Int):=by omega
   have i5:(j:Int)<(j:Int)+1:=by omega
   have i6:((j+1:Nat):Int)-1=(j:Int):=by omega
   have n0:¬g0=b:=HX.out.raw.n0;have U3:¬b=g0:=fun e=>n0 e.symm;have ngg:¬g0=g:=fun e=>PX e.symm;have i7:IntKind.i64.wrap (j:Int)=(j:Int):=xJ (by omega) (by omega);obtain⟨p0,p1,p2,p3,p4,p5,p6,p7,p8,p9,p10,p11,p12,p13,p14,p15,p16,p17,p18,p19,p20⟩:=CY.out
   go_region_held3 (fun w'=>w'.cell? ⟨b,0,P⟩=U (D (U ⟨g0,0,P⟩) S.n S.n)/\w'.cell? ⟨Y,0,P⟩=U (D (U ⟨g,0,P⟩) (j+1) cap)/\w'.cell? ⟨Y,7,P⟩=U (I J (lv:Int))/\w'.cell? ⟨g,j,P⟩=U (I J (tn:Int))/\w'.cell? ⟨x+1,0,P⟩=U (B M)/\w'.cell? ⟨x+1,1,P⟩=U (B el)/\w'.cell? ⟨x+1,2,P⟩=U (I J r)/\w'.cell? ⟨x+1,3,P⟩=U (B eu)/\w'.cell? ⟨x+1,4,P⟩=U (B ed)/\w'.cell? ⟨x+1,5,P⟩=U (I J ef)) (go_keep) (first
    | (go_at_call 104;refine(fG _).mono ?_;rintro e w5 ⟨rfl,rD⟩
       have tT:K (Lw W4 w5):=zT (zR W4).drew rD;have OX:K _:=CY.out.later tT.out;obtain⟨q0,q1,q2,q3,q4,q5,q6,q7,q8,q9,q10,q11,q12,q13,q14,q15,q16,q17,q18,q19,q20⟩:=OX.out
       clear rD)
    | (go_at_call 108;refine(wU _).mono ?_;rintro e w6 ⟨rfl,ru⟩
       have bN:K (Lw w5 w6):=ru;have WT:K _:=OX.out.later bN.out;obtain⟨o0,o1,o2,o3,o4,o5,o6,o7,o8,o9,o10,o11,o12,o13,o14,o15,o16,o17,o18,o19,o20⟩:=WT.out
       clear ru))
   have r0:¬x=g0:=fun e=>U6 e.symm;have r1:¬w.heap.size=g0:=fun e=>U8 e.symm
   have hat:S.at' (tn:Int) (i:Int)=M:=by
    have:=WW.out.hasT;simp only[Pg.Fs.at',this,yJ,yI,decide_eq_true_eq];exact⟨i2,i3⟩
   have fin:K (∀a0 a1 a2 a3:un,zj (((((w6.setCell ⟨g0,tn*8+i,P⟩ (I ud v)).setCell ⟨w.heap.size,0,P⟩ a0).setCell ⟨w.heap.size,1,P⟩ a1).setCell ⟨w.heap.size,2,P⟩ a2).setCell ⟨w.heap.size,3,P⟩ a3) b g0 g1 vm (S.store (tn:Int) (i:Int) v)/\But (xg b g0 g1 vm) w (((((w6.setCell ⟨g0,tn*8+i,P⟩ (I ud v)).setCell ⟨w.heap.size,0,P⟩ a0).setCell ⟨w.heap.size,1,P⟩ a1).setCell ⟨w.heap.size,2,P⟩ a2).setCell ⟨w.heap.size,3,P⟩ a3)):=by
    intro a0 a1 a2 a3;have B6:Lw w w6:=zT (zT rR.out tT.out) bN.out;have M6:=HX.out.grow B6
    have hS:S.store (tn:Int) (i:Int) v={S with word:=Pg.Fs.put S.word tn i v}:=by simp[Pg.Fs.store,hat]
    have M7:zj (w6.setCell ⟨g0,tn*8+i,P⟩ (I ud v)) b g0 g1 vm (S.store (tn:Int) (i:Int) v):=⟨by rw[hS];exact M6.raw.put nL gm v,M6.ok.store _ _ lU.out.1 lU.out.2⟩
    have hF:∀k,xg b g0 g1 vm k->¬k=w.heap.size:=fun k hk=>by have:=HX.out.raw.lt hk;omega
    refine⟨M7.keep (F:=fun k=>k=w.heap.size) ?_ hF,?_⟩
    ·iterate 4 refine But.setCell ?_ (by first|exact .inr rfl) _
     exact But.refl _ _
    ·iterate 4 refine But.setCell ?_ (by exact .inl (ue _)) _
     refine But.setCell ?_ (by exact .inr (.inr (.inl rfl))) _;exact But.yhJ B6
   clear hat HX WW rR tT bN
   go_wp2
   refine y (v:=L #[kp #[I J lp,I J ls,I J lf,I J r],I J 0]) ?_ rfl ⟨rfl,?_⟩
   ·simp[results,Tryz.results99,go_sem,o14,o15,o16,o17,r0,r1,U6,U8]
   ·rw[WE.out,LA.out]
    exact fin.out _ _ _ _
  ·have e2:Pg.prM S t p r= .zz:=by rw[Pg.prM,e1,iN hc]
   have e3:Pg.prS S t p r=S:=by rw[Pg.prS,e1,iN hc]
   rw[e1,e2,e3]
   have e4:Pg.tFM S t p= .zz:=by rw[Pg.tFM,iN hc]
   have e5:Pg.tFE S t p=Pg.En.zero:=by rw[Pg.tFE,iN hc]
   rw[e4,e5]at HF;clear h e1 e2 e3 e4 e5 hr;generalize Pg.tFC S t p=c at*;have TU:∀o,uc q 29 #[kh (U ⟨b,0,P⟩),I J t,I J p] (w.alloc o) fun e w'=>e=A (L #[kp #[I J 0,I J 0,I J 0,I J 0],kp #[B Z,B Z,I J 0,B Z,B Z,I J 0],I J c])/\Below (w.alloc o).heap.size (w.alloc o) w':=HF;clear HF
   go_enter Tryz.func99,Tryz.ntmps99
   go_wp2_with fail
   refine(TU _).mono ?_;rintro e w1 ⟨rfl,Ha⟩;have hr:∀o,w1.cell? ⟨w.heap.size,o,P⟩=_:=fun o=>Ha.cell (p:=⟨w.heap.size,o,P⟩) (by simp);have hf:∀o,w1.frozen? ⟨w.heap.size,o,P⟩=_:=fun o=>Ha.frozen (p:=⟨w.heap.size,o,P⟩) (by simp);have hB:K (Lw w w1):=zT (zA (zR _) _) Ha
   have mJ:w.heap.size<w1.heap.size:=by have:=Ha.size;simp at this;omega
   have bI:¬w.heap.size=w1.heap.size:=by omega
   clear Ha TU
   go_wp2
   refine y (v:=L #[kp #[I J 0,I J 0,I J 0,I J 0],I J c]) ?_ rfl ⟨rfl,?_⟩
   ·simp[results,Tryz.results99,go_sem,hr,mJ,bI]
   ·have EJ:=zA (zA (zu hB.out w.heap.size (ue _) (I J 0) (I J 0) (I J 0) (I J 0)) (O #[I J 0,I J 0,I J 0,I J 0] 39)) (O #[B Z,B Z,I J 0,B Z,B Z,I J 0] 70)
    exact⟨HX.out.grow EJ,But.yhJ EJ⟩
theorem zj.word {w:ur} {b g0 g1:Nat} {vm:un} {S:Pg.Fs} (h:zj w b g0 g1 vm S) {tn i:Nat} (ht:S.has (tn:Int)=M) (hi:i<8) {v:Int} (lU:0<=v) (nE:v<18446744073709551616):zj (w.setCell ⟨g0,tn*8+i,P⟩ (I ud v)) b g0 g1 vm (S.store (tn:Int) (i:Int) v):=by
 have hat:S.at' (tn:Int) (i:Int)=M:=by
  simp only[Pg.Fs.at',ht,yJ,yI,decide_eq_true_eq];omega
 have hS:S.store (tn:Int) (i:Int) v={S with word:=Pg.Fs.put S.word tn i v}:=by simp[Pg.Fs.store,hat]
 have hn:tn<S.n:=by have:=h.ok.yh4 ht;omega
 exact⟨by rw[hS];exact h.raw.put hn hi v,h.ok.store _ _ lU nE⟩
theorem ydS (p:Int) (s:Nat) (S:Pg.Fs) (t:Int):Pg.insW p s s S t=(S,t):=by
 cases s with
 | zero=>rfl
 | succ s=>simp[Pg.insW]
theorem ydT (p:Int) (s m:Nat) (S:Pg.Fs) (t:Int) (h:s<=m):Pg.insW p s (m+1) S t=Pg.insW p s m (S.take.store t (Pg.index p ((m+1:Nat):Int)) (Pg.enc M Z 7 Z Z S.takeN ((m+1:Nat):Int))) S.takeN:=by
 rw[Pg.insW,iN (by omega)]
structure ygb (W5 wr:ur) (b g0 g1:Nat) (vm vi:un) (S Si:Pg.Fs) (p:Int) (sn lv pY:Nat) (tl:Int) (ti:Nat):Prop where
 mem:zj wr b g0 g1 vi Si
 but:But (xg b g0 g1 vm) W5 wr
 own:vi.ownBlock=vm.ownBlock
 ins:Pg.insW p sn pY Si (ti:Int)=Pg.insW p sn lv S tl
 has:Si.has (ti:Int)=M
 free:(pY:Int)-(sn:Int)<=Si.free
theorem yb5 {b g0 g1:Nat} {vm:un} {S:Pg.Fs} (t:Int) (m:Pg.Mp) (w:ur) (h:zj w b g0 g1 vm S):
 uc q 97 #[kh (U ⟨b,0,P⟩),I J t,m.val] w fun en w'=>en=A (I J (Pg.insC S t m))/\∃eH,zj w' b g0 g1 eH (Pg.insS S t m)/\But (xg b g0 g1 vm) w w'/\eH.ownBlock=vm.ownBlock:=by
 obtain⟨p,s,f,r⟩:=m;have HC:=vh p s f r;have eC:Pg.Mp.code ⟨p,s,f,r⟩=Pg.check p s f r:=rfl;rw[<-eC]at HC;simp only[Pg.Mp.val];have H:K _:=h;obtain⟨W1,rC⟩:=eY (w.alloc (O #[I J p,I J s,I J f,I J r] 39))
 have sG:Lw w W1:=by rw[rC];exact zA (zR w) _
 have r4:W1.cell? ⟨w.heap.size,0,P⟩=U (I J p)/\W1.cell? ⟨w.heap.size,1,P⟩=U (I J s)/\W1.cell? ⟨w.heap.size,2,P⟩=U (I J f)/\W1.cell? ⟨w.heap.size,3,P⟩=U (I J r):=by rw[rC];simp[go_sem]
 have ry:K _:=sG;obtain⟨x0,x1,x2,x3⟩:=r4;have fo:K (∀w',Lw w w'->∃eH,zj w' b g0 g1 eH S/\But (xg b g0 g1 vm) w w'/\eH.ownBlock=vm.ownBlock):=fun w' hb=>⟨vm,H.out.grow hb,But.yhJ hb,rfl⟩;have HW:=fun w2 (hb:Lw w w2)=>jK t p w2 (h.grow hb);clear sG eC
 by_cases hc:Pg.Mp.code ⟨p,s,f,r⟩=0
 ·rw[hc]at HC
  by_cases hz:xQ S t p=0
  ·obtain⟨Y,sp,lv,hY,W,lw,lN,Gq,dF,dN⟩:=qX hz
   have hs:0<=s/\s<=2:=by
    have lM:Pg.check p s f r=0:=hc
    have gM:Pg.span s≠0:=by
     intro e;rw[Pg.check,iP e]at lM;omega
    unfold Pg.span at gM
    by_cases h0:s=0
    ·omega
    ·by_cases h1:s=1
     ·omega
     ·by_cases h2:s=2
      ·omega
      ·simp[h0,h1,h2]at gM
   obtain⟨sn,rfl⟩:=kO hs.1
   have pJ:sn<=2:=by omega
   have eI:Pg.insC S t ⟨p,sn,f,r⟩=if sp.e.t=M\/(lv:Int)<(sn:Int)then 4 else if S.free<(lv:Int)-(sn:Int)then 6 else 0:=by
    rw[Pg.insC,iN (by simp[hc]),iN (by simp[hz]),hY,W.yhO,W.yhQ]
   have eS:Pg.insS S t ⟨p,sn,f,r⟩=if Pg.insC S t ⟨p,sn,f,r⟩=0 then(Pg.insW p sn lv S sp.table).1.store (Pg.insW p sn lv S sp.table).2 (Pg.index p (sn:Int)) (Pg.enc M M r Z Z f (sn:Int))else S:=by
    rw[Pg.insS,hY,W.yhQ,W.lastT];rfl
   have uU:∀W',Lw w W'->uc q 71 #[kh (U ⟨b,0,P⟩),I J t,I J p] W' fun e w'=>(∃ad cap,e=A (L #[kp #[D ad (Y.length+1) cap,B sp.e.t,B sp.e.l,I J sp.e.r,B sp.e.u,B sp.e.d,I J sp.e.f,I J (lv:Int)],I J 0])/\zq w' ad (tabs (Y++[sp]))/\∀g,ad=U ⟨g,0,P⟩->W'.heap.size<=g)/\Lw W' w':=by
    intro W' Py;refine(HW W' Py).mono ?_;rintro e w' ⟨⟨ad,cap,he,hi⟩,hb,pV⟩;rw[hY]at hi;refine⟨⟨ad,cap,?_,hi,fun g hg=>pV g _ _ _ (by rw[he,hg])⟩,hb⟩;rw[he,hz,hY];simp only[yaE,W.yhO,W.yhQ,ki,z]
   have uo:=h.ok.ykU;have Mm:=fun w2 (hb:Lw w w2)=>yc1 w2 (h.grow hb);have hasT:=W.hasT
   have iR:lv+(Y.length+1)=4:=by have:=W.len;rw[ki,z]at this;exact this
   have mU:(tabs (Y++[sp])).getD Y.length 0=sp.table:=by simp[tabs]
   have hltl:(tabs (Y++[sp])).length=Y.length+1:=by rw[xA];simp
   have uZ:=W.below;clear hc hz W hY lw dF dN h hs HW;generalize tabs (Y++[sp])=T at*;generalize Y.length=N at*;obtain⟨st,_,_,_,⟨et,el,er,eu,ed,ef⟩⟩:=sp;simp only at eI eS uU hasT mU;clear Y;generalize Pg.insC S t ⟨p,sn,f,r⟩=ic at*;generalize Pg.insS S t ⟨p,sn,f,r⟩=iS at*
   by_cases hE:et=M\/(lv:Int)<(sn:Int)
   ·rw[iP hE]at eI
    rw[eI,iN (by decide)]at eS;rw[eI,eS];clear eI eS;cases et
    ·have K9:(lv:Int)<(sn:Int):=by
      rcases hE with h|h
      ·cases h
      ·exact h
     clear hE
     go_enter Tryz.func97,Tryz.ntmps97
     go_wp2_with fail
     rw[<-rC];clear rC;refine(HC _).mono ?_;rintro en w2 ⟨rfl,Hd⟩;have y0:=C Hd x0;have y1:=C Hd x1;have y2:=C Hd x2;have y3:=C Hd x3;have Ht:K (Lw w w2):=zT ry.out Hd;clear Hd HC x0 x1 x2 x3
     go_wp2_with fail
     refine(uU _ Ht.out).mono ?_;rintro en w3 ⟨⟨ad,cap,rfl,hi,pV⟩,He⟩;have z0:=C He y0;have z1:=C He y1;have z2:=C He y2;have z3:=C He y3;have oo:w.heap.size<w3.heap.size:=V _ _ z0;have rE:K (Lw w w3):=zT Ht.out He
     have tO:¬w.heap.size=w3.heap.size:=by omega
     clear He uU y0 y1 y2 y3
     go_wp2
     go_ret
     exact⟨rfl,fo.out _ (zA rE.out _)⟩
    ·clear hE
     go_enter Tryz.func97,Tryz.ntmps97
     go_wp2_with fail
     rw[<-rC];clear rC;refine(HC _).mono ?_;rintro en w2 ⟨rfl,Hd⟩;have y0:=C Hd x0;have y1:=C Hd x1;have y2:=C Hd x2;have y3:=C Hd x3;have Ht:K (Lw w w2):=zT ry.out Hd;clear Hd HC x0 x1 x2 x3
     go_wp2_with fail
     refine(uU _ Ht.out).mono ?_;rintro en w3 ⟨⟨ad,cap,rfl,hi,pV⟩,He⟩;have z0:=C He y0;have z1:=C He y1;have z2:=C He y2;have z3:=C He y3;have oo:w.heap.size<w3.heap.size:=V _ _ z0;have rE:K (Lw w w3):=zT Ht.out He
     have tO:¬w.heap.size=w3.heap.size:=by omega
     clear He uU y0 y1 y2 y3
     go_wp2
     go_ret
     exact⟨rfl,fo.out _ (zA rE.out _)⟩
   ·rw[iN hE]at eI
    have KE:et=Z:=by
     cases et
     ·rfl
     ·exact absurd (.inl rfl) hE
    have fK:sn<=lv:=by omega
    subst KE;clear hE
    have Ez:decide ((lv:Int)<(sn:Int))=Z:=by simp;omega
    have FW:decide (lv<sn)=Z:=by simp;omega
    have UT:IntKind.i64.wrap ((lv:Int)-(sn:Int))=(lv:Int)-(sn:Int):=xJ (by omega) (by omega)
    by_cases hfu:S.free<(lv:Int)-(sn:Int)
    ·rw[iP hfu]at eI
     rw[eI,iN (by decide)]at eS;rw[eI,eS];clear eI eS
     go_enter Tryz.func97,Tryz.ntmps97
     go_wp2_with fail
     rw[<-rC];clear rC;refine(HC _).mono ?_;rintro en w2 ⟨rfl,Hd⟩;have y0:=C Hd x0;have y1:=C Hd x1;have y2:=C Hd x2;have y3:=C Hd x3;have Ht:K (Lw w w2):=zT ry.out Hd;clear Hd HC x0 x1 x2 x3
     go_wp2_with fail
     refine(uU _ Ht.out).mono ?_;rintro en w3 ⟨⟨ad,cap,rfl,hi,pV⟩,He⟩;have z0:=C He y0;have z1:=C He y1;have z2:=C He y2;have z3:=C He y3;have oo:w.heap.size<w3.heap.size:=V _ _ z0;have rE:K (Lw w w3):=zT Ht.out He
     have tO:¬w.heap.size=w3.heap.size:=by omega
     clear He uU y0 y1 y2 y3
     go_wp2_with fail
     try simp only[Ez,FW]
     obtain⟨W4,rJ⟩:=eY (w3.alloc (O #[D ad (N+1) cap,B Z,B el,I J er,B eu,B ed,I J ef,I J (lv:Int)] 142))
     have Hl:Lw w3 W4:=by rw[rJ];exact zA (zR _) _
     have c0:W4.cell? ⟨w3.heap.size,0,P⟩=U (D ad (N+1) cap):=by rw[rJ];simp[go_sem]
     have c7:W4.cell? ⟨w3.heap.size,7,P⟩=U (I J (lv:Int)):=by rw[rJ];simp[go_sem]
     have q0:=C Hl z0;have q1:=C Hl z1;have q2:=C Hl z2;have q3:=C Hl z3;have ME:=hi.below Hl;have rR:K (Lw w W4):=zT rE.out Hl;have nI:w3.heap.size<W4.heap.size:=V _ _ c0;have nP:=fun W' (hb:Lw W4 W')=>Mm W' (zT rR.out hb);rw[<-rJ];clear rJ Hl hi z0 z1 z2 z3 Mm
     go_region_held3 (fun w'=>w'.cell? ⟨w3.heap.size,7,P⟩=U (I J (lv:Int))/\w'.cell? ⟨w.heap.size,1,P⟩=U (I J (sn:Int))) (go_keep) (
      (go_at_call 22;refine(nP _ (by first|exact(zR W4).drew|exact zR W4)).mono ?_;rintro en w5 ⟨rfl,rD⟩
       have tT:K (Lw W4 w5):=zT (zR W4).drew rD;have u7:=C tT.out c7;have u1:=C tT.out q1
       clear rD))
     go_wp2
     go_ret
     exact⟨rfl,fo.out _ (zT rR.out tT.out)⟩
    ·rw[iN hfu]at eI
     rw[eI,iP rfl]at eS;rw[eI,eS];clear eI eS
     have dd1:decide (S.free<(lv:Int)-(sn:Int))=Z:=by simp;omega
     go_enter Tryz.func97,Tryz.ntmps97
     go_wp2_with fail
     rw[<-rC];clear rC;refine(HC _).mono ?_;rintro en w2 ⟨rfl,Hd⟩;have y0:=C Hd x0;have y1:=C Hd x1;have y2:=C Hd x2;have y3:=C Hd x3;have Ht:K (Lw w w2):=zT ry.out Hd;clear Hd HC x0 x1 x2 x3
     go_wp2_with fail
     refine(uU _ Ht.out).mono ?_;rintro en w3 ⟨⟨ad,cap,rfl,hi,pV⟩,He⟩;have z0:=C He y0;have z1:=C He y1;have z2:=C He y2;have z3:=C He y3;have oo:w.heap.size<w3.heap.size:=V _ _ z0;have rE:K (Lw w w3):=zT Ht.out He
     have tO:¬w.heap.size=w3.heap.size:=by omega
     clear He uU y0 y1 y2 y3
     go_wp2_with fail
     try simp only[Ez,FW]
     obtain⟨W4,rJ⟩:=eY (w3.alloc (O #[D ad (N+1) cap,B Z,B el,I J er,B eu,B ed,I J ef,I J (lv:Int)] 142))
     have Hl:Lw w3 W4:=by rw[rJ];exact zA (zR _) _
     have c0:W4.cell? ⟨w3.heap.size,0,P⟩=U (D ad (N+1) cap):=by rw[rJ];simp[go_sem]
     have c7:W4.cell? ⟨w3.heap.size,7,P⟩=U (I J (lv:Int)):=by rw[rJ];simp[go_sem]
     have q0:=C Hl z0;have q1:=C Hl z1;have q2:=C Hl z2;have q3:=C Hl z3;have ME:=hi.below Hl;have rR:K (Lw w W4):=zT rE.out Hl;have nI:w3.heap.size<W4.heap.size:=V _ _ c0;have nP:=fun W' (hb:Lw W4 W')=>Mm W' (zT rR.out hb);rw[<-rJ];clear rJ Hl hi z0 z1 z2 z3 Mm
     go_region_held3 (fun w'=>w'.cell? ⟨w3.heap.size,7,P⟩=U (I J (lv:Int))/\w'.cell? ⟨w.heap.size,1,P⟩=U (I J (sn:Int))) (go_keep) (
      (go_at_call 22;refine(nP _ (by first|exact(zR W4).drew|exact zR W4)).mono ?_;rintro en w5 ⟨rfl,rD⟩
       have tT:K (Lw W4 w5):=zT (zR W4).drew rD;have u7:=C tT.out c7;have u1:=C tT.out q1
       clear rD))
     have u0:=C tT.out c0;obtain⟨g,rfl,hg5,gB⟩:=(ME.below tT.out) N (by omega);rw[mU]at gB;obtain⟨t0,t1,_⟩:=H.out.ok.yh4 hasT;obtain⟨tn,rfl⟩:=kO t0
     have i4:(0:Int)<=(N:Int):=by omega
     have i5:(N:Int)<(N:Int)+1:=by omega
     have B5:K (Lw w w5):=zT rR.out tT.out;have X5:K (w5.cell? ⟨w.heap.size,0,P⟩=U (I J p)/\w5.cell? ⟨w.heap.size,1,P⟩=U (I J (sn:Int))/\w5.cell? ⟨w.heap.size,2,P⟩=U (I J f)/\w5.cell? ⟨w.heap.size,3,P⟩=U (I J r)):=⟨C tT.out q0,u1,C tT.out q2,C tT.out q3⟩;have M5:K _:=H.out.grow B5.out;have Uc:w.heap.size<w5.heap.size:=V _ _ X5.out.1;have ow:K (∀j,xg b g0 g1 vm j->j<w.heap.size):=fun j hj=>H.out.raw.lt hj;have HT:K _:=hasT;clear hasT q0 q1 q2 q3 c0 c7 nP tT rR ME pV
     go_wp2_with fail
     try simp only[dd1]
     clear u7 u1 u0 gB
     go_loopw [10,11] (fun tv U0 wr=>∃(pY:Nat) (Si:Pg.Fs) (ti:Nat) (vi:un),sn<=pY/\pY<=lv/\tv=I J (ti:Int)/\U0=I J (pY:Int)/\K (ygb w5 wr b g0 g1 vm vi S Si p sn lv pY (tn:Int) ti)) (fun _ U0 _=>(intOf U0).toNat)
     case atStart=>exact⟨lv,S,tn,vm,fK,ue _,rfl,rfl,M5.out,But.refl _ _,rfl,rfl,HT.out,by omega⟩
     case round=>
      obtain⟨pY,Si,ti,vi,h1,h2,rfl,rfl,HI⟩:=hrel
      have bX:wr.heap[w.heap.size]?=w5.heap[w.heap.size]?:=HI.out.but.block _ Uc fun h=>by have:=ow.out _ h;omega
      have b0:=(Q bX).trans X5.out.1;have b1:=(Q bX).trans X5.out.2.1;have b2:=(Q bX).trans X5.out.2.2.1;have b3:=(Q bX).trans X5.out.2.2.2;have Ud:w.heap.size<wr.heap.size:=V _ _ b0
      have IY:K (∀j,xg b g0 g1 vi j->xg b g0 g1 vm j):=fun j hj=>by unfold xg at hj ⊢;rw[HI.out.own]at hj;exact hj
      have KI:¬g0=w.heap.size:=by have:=ow.out g0 (.inr (.inl rfl));omega
      have Ky:¬b=w.heap.size:=by have:=ow.out b (.inl rfl);omega
      have mV:¬w.heap.size=g0:=fun e=>KI e.symm;have UV:¬w.heap.size=b:=fun e=>Ky e.symm;clear bX
      by_cases Bf:sn<pY
      ·obtain⟨lm,rfl⟩:∃lm,pY=lm+1:=⟨pY-1,by omega⟩
       have j1:(sn:Int)<((lm+1:Nat):Int):=by omega
       obtain⟨kn,dL,tK,bG,nz,cZ,sS,Ru⟩:=Pg.ykM HI.out.mem.ok (by have:=HI.out.free;omega);have Lv:=jw wr HI.out.mem
       have e10:K (Pg.insW p sn lm (Si.take.store (ti:Int) (Pg.index p ((lm+1:Nat):Int)) (Pg.enc M Z 7 Z Z (kn:Int) ((lm+1:Nat):Int))) (kn:Int)=Pg.insW p sn lv S (tn:Int)):=by rw[K,<-tK,<-ydT p sn lm Si ti (by omega)];exact HI.out.ins
       rw[tK]at Lv;have fZ:Pg.index p ((lm+1:Nat):Int)=(Pg.ix p (lm+1):Nat):=Pg.yhY uZ (by omega);have gm:Pg.ix p (lm+1)<8:=Pg.yiw _ _;have nD:=cZ _ HI.out.has;have Dh:=HI.out.free;have lZ:K _:=nD;have RU:K _:=nz
       have NI:K (((lm:Nat):Int)-(sn:Int)<=Si.take.free):=by rw[K,sS];omega
       have fG:=zQ p ((lm+1:Nat):Int);have wU:=jh M Z 7 Z Z (kn:Int) ((lm+1:Nat):Int);have lU:K (0<=Pg.enc M Z 7 Z Z (kn:Int) ((lm+1:Nat):Int)/\Pg.enc M Z 7 Z Z (kn:Int) ((lm+1:Nat):Int)<18446744073709551616):=Pg.yk9 _ _ _ _ _ _ _;rw[fZ]at fG e10;generalize Pg.enc M Z 7 Z Z (kn:Int) ((lm+1:Nat):Int)=v at*;generalize Pg.yhN M Z 7 Z Z (kn:Int) ((lm+1:Nat):Int)=fl at*;generalize Pg.ix p (lm+1)=i at*;generalize Si.take=S2 at*;clear dL tK bG nz cZ sS Ru nD Dh fZ
       go_wp2_with fail
       refine Lv.mono ?_;rintro en w6 ⟨rfl,Oh,uz,ru,I9⟩;have M6:K _:=uz;have B6:K (But (xg b g0 g1 vm) w5 w6):=HI.out.but.trans ru fun j _ hj=>IY.out j hj;have O6:K (Oh.ownBlock=vm.ownBlock):=I9.trans HI.out.own
       have Gy:w6.heap[w.heap.size]?=wr.heap[w.heap.size]?:=ru.block _ Ud fun h=>by have:=ow.out _ (IY.out _ h);omega
       have d0:=(Q Gy).trans b0;have rT:=uz.raw.c0;obtain⟨_,UJ,_⟩:=uz.ok.yh4 lZ.out
       have Sy:ti<S2.n:=by omega
       have iG:=uz.raw.cw ti i Sy gm;have nX:=uz.raw.f0;have gI:=uz.ok.small
       have i0:(0:Int)<=(ti:Int):=by omega
       have i1:(ti:Int)<(S2.n:Int):=by omega
       have i2:(0:Int)<=(i:Int):=by omega
       have i3:(i:Int)<8:=by omega
       have n0:¬g0=b:=uz.raw.n0;have U3:¬b=g0:=fun e=>n0 e.symm;have lx6:w.heap.size<w6.heap.size:=V _ _ d0;have lb6:b<w6.heap.size:=uz.raw.lb;have DC:g0<w6.heap.size:=uz.raw.l0;clear uz ru I9 Gy Lv b0 b1 b2 b3 HI;generalize S2.word ti i=wo at*
       go_wp2
       go_region_held3 (fun w'=>w'.cell? ⟨b,0,P⟩=U (D (U ⟨g0,0,P⟩) S2.n S2.n)/\w'.cell? ⟨w.heap.size,0,P⟩=U (I J p)) (go_keep) (first
        | (go_at_call 104;refine(fG _).mono ?_;rintro e w7 ⟨rfl,rZ⟩
           have pO:K (Lw w6 w7):=zT (zR w6).drew rZ;have s0:=C pO.out rT;have s1:=C pO.out d0
           clear rZ)
        | (go_at_call 108;refine(wU _).mono ?_;rintro e w8 ⟨rfl,sH⟩
           have dQ:K (Lw w6 w8):=zT pO.out sH;have v0:=C dQ.out rT;have v1:=C dQ.out d0;have v2:=C dQ.out iG;have v3:∀o,w8.frozen? ⟨g0,o,P⟩=Z:=fun o=>(dQ.out.frozen (p:=⟨g0,o,P⟩) DC).trans (nX o)
           clear sH))
       have fin:K (ygb w5 (w8.setCell ⟨g0,ti*8+i,P⟩ (I ud v)) b g0 g1 vm Oh S (S2.store (ti:Int) (i:Int) v) p sn lv lm (tn:Int) kn):=by
        have M8:=(M6.out.grow dQ.out).word lZ.out gm lU.out.1 lU.out.2;refine⟨M8,?_,O6.out,e10.out,by rw[Pg.yiu];exact RU.out,by rw[Pg.yjE];exact NI.out⟩;refine But.setCell ?_ (by exact .inr (.inr (.inl rfl))) _;exact B6.out.trans (But.yhJ (F:=fun _=>False) dQ.out) fun _ _ h=>h.elim
       have iT:(1:Int)<=((lm+1:Nat):Int):=by omega
       go_wp2_with fail
       exact⟨⟨lm,_,kn,Oh,by omega,by omega,rfl,by go_num,fin.out⟩,by simp[intOf]⟩
      ·have PP:pY=sn:=by omega
       subst PP
       have j1:¬(pY:Int)<(pY:Int):=by omega
       have nY:=HI.out.ins;rw[ydS]at nY;have oK:K _:=nY;have fZ:Pg.index p (pY:Int)=(Pg.ix p pY:Nat):=Pg.yhY uZ (by omega);have gm:Pg.ix p pY<8:=Pg.yiw _ _;have fG:=zQ p (pY:Int);have wU:=jh M M r Z Z f (pY:Int);have lU:K (0<=Pg.enc M M r Z Z f (pY:Int)/\Pg.enc M M r Z Z f (pY:Int)<18446744073709551616):=Pg.yk9 _ _ _ _ _ _ _
       have FI:K ((Pg.insW p pY lv S (tn:Int)).1.store (Pg.insW p pY lv S (tn:Int)).2 (Pg.index p (pY:Int)) (Pg.enc M M r Z Z f (pY:Int))=Si.store (ti:Int) (Pg.ix p pY:Nat) (Pg.enc M M r Z Z f (pY:Int))):=by rw[K,<-nY,fZ]
       rw[fZ]at fG;generalize BZ:Pg.enc M M r Z Z f (pY:Int)=v at*;have LA:K _:=BZ;clear BZ;generalize Pg.yhN M M r Z Z f (pY:Int)=fl at*;generalize Pg.ix p pY=i at*;have M6:K _:=HI.out.mem;have B6:K _:=HI.out.but;have O6:K _:=HI.out.own;have lZ:K _:=HI.out.has;have rT:=HI.out.mem.raw.c0;obtain⟨_,UJ,_⟩:=HI.out.mem.ok.yh4 lZ.out
       have Sy:ti<Si.n:=by omega
       have iG:=HI.out.mem.raw.cw ti i Sy gm;have nX:=HI.out.mem.raw.f0;have gI:=HI.out.mem.ok.small
       have i0:(0:Int)<=(ti:Int):=by omega
       have i1:(ti:Int)<(Si.n:Int):=by omega
       have i2:(0:Int)<=(i:Int):=by omega
       have i3:(i:Int)<8:=by omega
       have n0:¬g0=b:=HI.out.mem.raw.n0;have U3:¬b=g0:=fun e=>n0 e.symm;have lb6:b<wr.heap.size:=HI.out.mem.raw.lb;have DC:g0<wr.heap.size:=HI.out.mem.raw.l0;clear nY HI fZ;generalize Si.word ti i=wo at*
       go_wp2
       go_region_held3 (fun w'=>w'.cell? ⟨b,0,P⟩=U (D (U ⟨g0,0,P⟩) Si.n Si.n)/\w'.cell? ⟨w.heap.size,0,P⟩=U (I J p)/\w'.cell? ⟨w.heap.size,1,P⟩=U (I J (pY:Int))/\w'.cell? ⟨w.heap.size,2,P⟩=U (I J f)/\w'.cell? ⟨w.heap.size,3,P⟩=U (I J r)) (go_keep) (first
        | (go_at_call 104;refine(fG _).mono ?_;rintro e w7 ⟨rfl,rZ⟩
           have pO:K (Lw wr w7):=zT (zR wr).drew rZ;have s0:=C pO.out rT;have s1:=C pO.out b0;have s2:=C pO.out b1;have s3:=C pO.out b2;have s4:=C pO.out b3
           clear rZ)
        | (go_at_call 108;refine(wU _).mono ?_;rintro e w8 ⟨rfl,sH⟩
           have dQ:K (Lw wr w8):=zT pO.out sH;have v0:=C dQ.out rT;have v1:=C dQ.out b0;have v2:=C dQ.out b1;have v3:=C dQ.out b2;have v4:=C dQ.out b3;have v5:=C dQ.out iG;have v6:∀o,w8.frozen? ⟨g0,o,P⟩=Z:=fun o=>(dQ.out.frozen (p:=⟨g0,o,P⟩) DC).trans (nX o)
           clear sH))
       have fin:K (zj (w8.setCell ⟨g0,ti*8+i,P⟩ (I ud v)) b g0 g1 vi (Si.store (ti:Int) (i:Int) v)/\But (xg b g0 g1 vm) w (w8.setCell ⟨g0,ti*8+i,P⟩ (I ud v))/\vi.ownBlock=vm.ownBlock):=by
        refine⟨(M6.out.grow dQ.out).word lZ.out gm lU.out.1 lU.out.2,?_,O6.out⟩;refine But.setCell ?_ (by exact .inr (.inr (.inl rfl))) _;exact((But.yhJ B5.out).trans B6.out fun _ _ h=>h).trans (But.yhJ (F:=fun _=>False) dQ.out) fun _ _ h=>h.elim
       go_wp2
       go_ret
       refine⟨rfl,vi,?_,fin.out.2⟩;rw[LA.out,FI.out];exact fin.out.1
  ·have e1:Pg.insC S t ⟨p,s,f,r⟩=xQ S t p:=by rw[Pg.insC,iN (by simp[hc]),iP hz]
   have e2:Pg.insS S t ⟨p,s,f,r⟩=S:=by rw[Pg.insS,e1,iN hz]
   rw[e1,e2];clear e1 e2 h;generalize xQ S t p=cc at*
   have bB:(cc !=0)=M:=by simp[hz]
   clear hz hc
   go_enter Tryz.func97,Tryz.ntmps97
   go_wp2_with fail
   rw[<-rC];clear rC;refine(HC _).mono ?_;rintro en w2 ⟨rfl,Hd⟩;have y0:=C Hd x0;have Ht:K (Lw w w2):=zT ry.out Hd;clear Hd
   go_wp2_with fail
   refine(HW _ Ht.out).mono ?_;rintro en w3 ⟨⟨ad,cap,rfl,_⟩,He,_⟩;have rE:K (Lw w w3):=zT Ht.out He;clear He;unfold yaE
   go_wp2
   go_ret
   exact⟨rfl,fo.out _ (zA rE.out _)⟩
 ·have e1:Pg.insC S t ⟨p,s,f,r⟩=Pg.Mp.code ⟨p,s,f,r⟩:=by rw[Pg.insC,iP hc]
  have e2:Pg.insS S t ⟨p,s,f,r⟩=S:=by rw[Pg.insS,e1,iN hc]
  rw[e1,e2];clear e1 e2 h HW;generalize Pg.Mp.code ⟨p,s,f,r⟩=cc at*
  have bB:(cc !=0)=M:=by simp[hc]
  clear hc
  go_enter Tryz.func97,Tryz.ntmps97
  go_wp2_with fail
  rw[<-rC];clear rC;refine(HC _).mono ?_;rintro en w2 ⟨rfl,Hd⟩;have Ht:K (Lw w w2):=zT ry.out Hd;clear Hd
  go_wp2
  go_ret
  exact⟨rfl,fo.out _ Ht.out⟩
attribute [local go_sem] Loose.gent yef
structure ybb (w:ur) (b g0 g1:Nat) (vm:un) (S':Pg.Fs) (m:Pg.Mp) (G:List Int) (c:Int) (en:Ending) (w':ur):Prop where
 body:∃ad cap,en=A (L #[m.val,D ad G.length cap,I J c])/\zq w' ad G/\zj w' b g0 g1 vm S'/\But (xg b g0 g1 vm) w w'/\∀g,ad=U ⟨g,0,P⟩->w.heap.size<=g
structure yge (W5 wr:ur) (b g0 g1:Nat) (vm:un) (Si:Pg.Fs) (T:List Int) (k:Nat) (p:Int) (vg:un) (Gi:List Int) (R:Pg.Fs×List Int):Prop where
 mem:zj wr b g0 g1 vm Si
 but:But (xg b g0 g1 vm) W5 wr
 own:wr.ownsRow W5.heap.size 3 1 vg Gi.length (xn Gi)
 has:∀x,x ∈ T->Si.has x=M
 rest:Pg.rmW p T (k+1) Si Gi=R
theorem ya4 {w W6 W8 w9:ur} {b g0 g1:Nat} {vm:un} {S S':Pg.Fs} {Gi:List Int} {ga:Option Addr} {gc:Nat} (H:zj w b g0 g1 vm S) (B6:Lw w W6) (M8:zj W8 b g0 g1 vm S') (B8:But (xg b g0 g1 vm) W6 W8) (O8:W8.ownsRow W6.heap.size 3 1 (D ga Gi.length gc) Gi.length (xn Gi)) (hb:Lw W8 w9) (mK:w.heap.size<W6.heap.size) (a0 a1 a2 a3:un) (m:Pg.Mp) (c:Int):
 ybb w b g0 g1 vm S' m Gi c (A (L #[m.val,D ga Gi.length gc,I J c])) ((((w9.setCell ⟨w.heap.size,0,P⟩ a0).setCell ⟨w.heap.size,1,P⟩ a1).setCell ⟨w.heap.size,2,P⟩ a2).setCell ⟨w.heap.size,3,P⟩ a3):=by
 have fI:But (fun j=>j=w.heap.size) W8 ((((w9.setCell ⟨w.heap.size,0,P⟩ a0).setCell ⟨w.heap.size,1,P⟩ a1).setCell ⟨w.heap.size,2,P⟩ a2).setCell ⟨w.heap.size,3,P⟩ a3):=by
  iterate 4 refine But.setCell ?_ (by exact .inr rfl) _
  exact But.yhJ hb
 refine⟨ga,gc,rfl,?_,M8.keep fI fun j hj e=> ?_,?_,fun g hg=> ?_⟩
 ·exact qk (cap:=gc) (n:=Gi.length) (zc O8 fI fun j hj e=>by have:=(O8.lt j hj).1;omega)
 ·have:=H.raw.lt hj;omega
 ·exact((But.yhJ B6).trans B8 fun _ _ h=>h).trans fI fun i hi e=>by omega
 ·subst hg
  have:=(O8.lt g rfl).1;omega
theorem ydh (S:Pg.Fs) (tn:Nat):yf8 (S.word tn 0) (S.word tn 1) (S.word tn 2) (S.word tn 3) (S.word tn 4) (S.word tn 5) (S.word tn 6) (S.word tn 7)=Pg.yhS S (tn:Int):=by
 unfold yf8 Pg.yhS;simp[List.range,List.range.loop]
theorem yaA {b g0 g1:Nat} {vm:un} {S:Pg.Fs} (t p:Int) (w:ur) (h:zj w b g0 g1 vm S):
 uc q 98 #[kh (U ⟨b,0,P⟩),I J t,I J p] w fun en w'=>ybb w b g0 g1 vm (Pg.rmR S t p).1 (Pg.tFM S t p) (Pg.rmR S t p).2 (Pg.tFC S t p) en w':=by
 have H:K _:=h;obtain⟨W1,rC⟩:=eY (w.alloc (O #[I J 0,I J 0,I J 0,I J 0] 39))
 have sG:Lw w W1:=by rw[rC];exact zA (zR w) _
 have r4:W1.cell? ⟨w.heap.size,0,P⟩=U (I J 0)/\W1.cell? ⟨w.heap.size,1,P⟩=U (I J 0)/\W1.cell? ⟨w.heap.size,2,P⟩=U (I J 0)/\W1.cell? ⟨w.heap.size,3,P⟩=U (I J 0):=by rw[rC];simp[go_sem]
 have kX:∀o,W1.frozen? ⟨w.heap.size,o,P⟩=Z:=fun o=>by rw[rC];simp[go_sem]
 have ni:K _:=r4;have sU:K _:=kX;have ry:K _:=sG;have mK:w.heap.size<W1.heap.size:=V _ _ r4.1;have bW:=yaU t p W1 (h.grow sG)
 by_cases hc:Pg.tFC S t p=0
 ·have hz:xQ S t p=0:=by
   by_cases hz:xQ S t p=0
   ·exact hz
   ·rw[Pg.tFC,iP hz]at hc
    exact absurd hc hz
  obtain⟨Y,s,lv,hY,W,lw,lN,Gq,dF,dN⟩:=qX hz;have pF:=W.has
  have iR:lv+(Y.length+1)=4:=by have:=W.len;rw[ki,z]at this;exact this
  have uZ:=W.below
  have eR:Pg.rmR S t p=Pg.rmW p (tabs (Y++[s])) (Y.length+1) S []:=by rw[Pg.rmR,iP hc,hY];simp
  have KX:(tabs (Y++[s])).length=Y.length+1:=by rw[xA];simp
  have uU:∀W',Lw w W'->uc q 71 #[kh (U ⟨b,0,P⟩),I J t,I J p] W' fun e w'=>(∃ad cap,e=A (L #[kp #[D ad (Y.length+1) cap,B s.e.t,B s.e.l,I J s.e.r,B s.e.u,B s.e.d,I J s.e.f,I J (lv:Int)],I J 0])/\zq w' ad (tabs (Y++[s]))/\∀g,ad=U ⟨g,0,P⟩->W'.heap.size<=g)/\Lw W' w':=by
   intro W' Py;refine(jK t p W' (h.grow Py)).mono ?_;rintro e w' ⟨⟨ad,cap,he,hi⟩,hb,pV⟩;rw[hY]at hi;refine⟨⟨ad,cap,?_,hi,fun g hg=>pV g _ _ _ (by rw[he,hg])⟩,hb⟩;rw[he,hz,hY];simp only[yaE,W.yhO,W.yhQ,ki,z]
  rw[hc,eR];rw[hc]at bW;clear hc hz W hY lw dF dN h eR r4 kX sG;generalize tabs (Y++[s])=T at*;generalize Y.length=N at*;generalize s.e=e at*;generalize Pg.tFM S t p=mm at*;generalize Pg.tFE S t p=ee at*;obtain⟨mp,ms,mf,mr⟩:=mm;obtain⟨et,el,er,eu,ed,ef⟩:=e;obtain⟨e't,e'l,e'r,e'u,e'd,e'f⟩:=ee;simp only[Pg.Mp.val,Pg.En.val]at bW;simp only at uU
  go_enter Tryz.func98,Tryz.ntmps98
  go_wp2_with fail
  rw[<-rC];clear rC;refine bW.mono ?_;rintro en w3 ⟨rfl,He⟩;have rE:K (Lw W1 w3):=He;clear He bW
  go_wp2_with fail
  obtain⟨W4,rJ⟩:=eY ((w3.alloc (O #[I J mp,I J ms,I J mf,I J mr] 39)).alloc (O #[B e't,B e'l,I J e'r,B e'u,B e'd,I J e'f] 70))
  have Hl:Lw w3 W4:=by rw[rJ];exact zA (zA (zR _) _) _
  have m4:W4.cell? ⟨w3.heap.size,0,P⟩=U (I J mp)/\W4.cell? ⟨w3.heap.size,1,P⟩=U (I J ms)/\W4.cell? ⟨w3.heap.size,2,P⟩=U (I J mf)/\W4.cell? ⟨w3.heap.size,3,P⟩=U (I J mr):=by rw[rJ];simp[go_sem]
  have rR:K (Lw W1 W4):=zT rE.out Hl;have M4:K _:=m4;rw[<-rJ];clear rJ Hl m4;refine(uU _ (zT ry.out rR.out)).mono ?_;rintro en w5 ⟨⟨ad,cap,rfl,hi,pV⟩,rD⟩;have tT:K (Lw W4 w5):=rD;clear rD uU;obtain⟨W6,nS⟩:=eY (w5.alloc (O #[D ad (N+1) cap,B et,B el,I J er,B eu,B ed,I J ef,I J (lv:Int)] 142))
  have ru:Lw w5 W6:=by rw[nS];exact zA (zR _) _
  have c0:W6.cell? ⟨w5.heap.size,0,P⟩=U (D ad (N+1) cap):=by rw[nS];simp[go_sem]
  have GX:=hi.below ru;have bN:K (Lw W4 W6):=zT tT.out ru;have B6:K (Lw w W6):=zT ry.out (zT rR.out bN.out);have Z6:K _:=xG (zT rR.out bN.out) ni.out;have Et:K (∀o,W6.frozen? ⟨w.heap.size,o,P⟩=Z):=fun o=>((zT rR.out bN.out).frozen (p:=⟨w.heap.size,o,P⟩) mK).trans (sU.out o);have M6:K _:=xG bN.out M4.out;have IK:w5.heap.size<W6.heap.size:=V _ _ c0;have G8:w3.heap.size<W6.heap.size:=V _ _ M6.out.1;have ow:K (∀j,xg b g0 g1 vm j->j<w.heap.size):=fun j hj=>H.out.raw.lt hj;obtain⟨g,rfl,Tx,_⟩:=GX N (by omega);have IC:=pV g rfl;have hs13:W1.heap.size<=w3.heap.size:=rE.out.size
  have hs14:w3.heap.size<=w5.heap.size:=by have h1:=V _ _ M4.out.1;have h2:=tT.out.size;simp only at h1;omega
  have hs44:W1.heap.size<=W4.heap.size:=rR.out.size;have WA:K (zq W6 (U ⟨g,0,P⟩) T):=GX;have C0:K _:=c0;generalize hR:Pg.rmW p T (N+1) S []=R at*;have bQ:K _:=hR;have NN:K _:=pF
  have hNI:((N+1:Nat):Int)-1=(N:Int):=by omega
  clear hR pF hi ru pV ni sU rE tT
  go_wp2_with fail
  rw[<-nS];clear nS
  go_wp2_with fail
  clear c0 GX
  go_loopw [14,15] (fun vg kv wr=>∃(kk:Nat) (Si:Pg.Fs) (Gi:List Int),Gi.length+kk=N/\kv=I J (kk:Int)/\K (yge W6 wr b g0 g1 vm Si T kk p vg Gi R)) (fun _ kv _=>(intOf kv).toNat)
  case atStart=>exact⟨N,S,[],by simp,by simp,H.out.grow B6.out,But.refl _ _,World.ownsRow_nil _ _ _ _,NN.out,bQ.out⟩
  case round=>
   obtain⟨kk,Si,Gi,Di,rfl,HI⟩:=hrel
   have k0:(0:Int)<=(kk:Int):=by omega
   obtain⟨ga,gc,UO⟩:=zF HI.out.own;subst UO
   have dD:T.getD kk 0 ∈ T:=by
    have:kk<T.length:=by omega
    simp[List.getD,this]
   have MC:=HI.out.has _ dD;obtain⟨t0,t1,_⟩:=HI.out.mem.ok.yh4 MC;obtain⟨tn,nL⟩:=kO t0;obtain⟨g',eg,_,GR⟩:=WA.out kk (by omega);cases eg
   have nF:∀j,w.heap.size<=j->¬xg b g0 g1 vm j:=fun j hj h=>by have:=ow.out j h;omega
   have dA:wr.heap[w5.heap.size]?=W6.heap[w5.heap.size]?:=HI.out.but.block _ IK (nF _ (by omega));have Gw:wr.heap[g]?=W6.heap[g]?:=HI.out.but.block _ Tx (nF _ (by omega));have y0:=(Q dA).trans C0.out;have y1:=(Q Gw).trans GR;rw[nL]at MC y1 t1
   have fZ:Pg.index p (3-(kk:Int))=(Pg.ix p (3-kk):Nat):=by rw[show(3-(kk:Int))=((3-kk:Nat):Int) by omega];exact Pg.yhY uZ (by omega)
   have gm:Pg.ix p (3-kk)<8:=Pg.yiw _ _;have fG:=zQ p (3-(kk:Int));rw[fZ]at fG;have dH:=HI.out.rest;rw[yby,nL,fZ]at dH;have Li:K _:=dH;have Lu:K _:=nL;generalize Pg.ix p (3-kk)=i at*;have kV:IntKind.i64.wrap (3-(kk:Int))=3-(kk:Int):=xJ (by omega) (by omega);have rT:=HI.out.mem.raw.c0
   have mU:tn<Si.n:=by omega
   have iG:=HI.out.mem.raw.cw tn i mU gm;have nX:=HI.out.mem.raw.f0;have gI:=HI.out.mem.ok.small
   have i0:(0:Int)<=(tn:Int):=by omega
   have i1:(tn:Int)<(Si.n:Int):=by omega
   have i2:(0:Int)<=(i:Int):=by omega
   have i3:(i:Int)<8:=by omega
   have i4:(kk:Int)<(N:Int)+1:=by omega
   have n0:¬g0=b:=HI.out.mem.raw.n0;have U3:¬b=g0:=fun e=>n0 e.symm;have hg0w:g0<w.heap.size:=ow.out g0 (.inr (.inl rfl));have hbw0:b<w.heap.size:=ow.out b (.inl rfl)
   have e1:¬g0=g:=by omega
   have e2:¬g=g0:=by omega
   have e3:¬g0=w5.heap.size:=by omega
   have e4:¬w5.heap.size=g0:=by omega
   have DC:g0<wr.heap.size:=HI.out.mem.raw.l0;have lZ:K _:=MC;clear dA Gw GR dH MC fZ t0 t1 nF nL;generalize Si.word tn i=wo at*
   go_wp2
   go_region_held3 (fun w'=>w'.cell? ⟨b,0,P⟩=U (D (U ⟨g0,0,P⟩) Si.n Si.n)/\w'.cell? ⟨w5.heap.size,0,P⟩=U (D (U ⟨g,0,P⟩) (N+1) cap)/\w'.cell? ⟨g,kk,P⟩=U (I J (tn:Int))) (go_keep) (
    (go_at_call 104;refine(fG _).mono ?_;rintro e w7 ⟨rfl,rZ⟩
     have pO:K (Lw wr w7):=zT (zR wr).drew rZ;have s0:=C pO.out rT;have s1:=C pO.out y0;have s2:=C pO.out y1;have s3:=C pO.out iG;have s4:∀o,w7.frozen? ⟨g0,o,P⟩=Z:=fun o=>(pO.out.frozen (p:=⟨g0,o,P⟩) DC).trans (nX o)
     clear rZ))
   have M8:K (zj (w7.setCell ⟨g0,tn*8+i,P⟩ (I ud 0)) b g0 g1 vm (Si.store (tn:Int) (i:Int) 0)):=(HI.out.mem.grow pO.out).word lZ.out gm (by decide) (by decide)
   have B8:K (But (xg b g0 g1 vm) W6 (w7.setCell ⟨g0,tn*8+i,P⟩ (I ud 0))):=by
    refine But.setCell ?_ (by exact .inr (.inr (.inl rfl))) _;exact HI.out.but.trans (But.yhJ (F:=fun _=>False) pO.out) fun _ _ h=>h.elim
   have O8:K ((w7.setCell ⟨g0,tn*8+i,P⟩ (I ud 0)).ownsRow W6.heap.size 3 1 (D ga Gi.length gc) Gi.length (xn Gi)):=by
    have hb:But (fun j=>j=g0) wr (w7.setCell ⟨g0,tn*8+i,P⟩ (I ud 0)):=by
     refine But.setCell ?_ (by exact .inr rfl) _;exact But.yhJ pO.out
    exact zc HI.out.own hb fun j hj e=>by have:=(HI.out.own.lt j hj).1;omega
   have S8:K (∀x,x ∈ T->(Si.store (tn:Int) (i:Int) 0).has x=M):=fun x hx=>by rw[Pg.yiu];exact HI.out.has x hx
   have Uh:(Si.store (tn:Int) (i:Int) 0).n=Si.n:=(Pg.yix _ _ _ _).1;have Lb:K _:=Uh
   have j0:(w7.setCell ⟨g0,tn*8+i,P⟩ (I ud 0)).cell? ⟨b,0,P⟩=U (D (U ⟨g0,0,P⟩) Si.n Si.n):=by have:=M8.out.raw.c0;rw[Uh]at this;exact this
   have j1:(w7.setCell ⟨g0,tn*8+i,P⟩ (I ud 0)).cell? ⟨w5.heap.size,0,P⟩=U (D (U ⟨g,0,P⟩) (N+1) cap):=by simp[go_sem,s1,e3]
   have j2:(w7.setCell ⟨g0,tn*8+i,P⟩ (I ud 0)).cell? ⟨g,kk,P⟩=U (I J (tn:Int)):=by simp[go_sem,s2,e1]
   go_wp2_with fail
   generalize (w7.setCell ⟨g0,tn*8+i,P⟩ (I ud 0))=W8 at*;generalize Si.store (tn:Int) (i:Int) 0=S' at*;clear s0 s1 s2 s3 s4 HI pO rT iG nX y0 y1 DC fG Uh
   by_cases MI:kk=0
   ·have hkb:((kk:Int)==0)=M:=by simp[MI]
    have dw:K (R=(S',Gi)):=by rw[K,<-Li.out,qV,iP (by left;omega)]
    have dA:W8.heap[w.heap.size]?=W6.heap[w.heap.size]?:=B8.out.block _ (by omega) fun h=>by have:=ow.out _ h;omega
    have dh:W8.heap[w3.heap.size]?=W6.heap[w3.heap.size]?:=B8.out.block _ G8 fun h=>by have:=ow.out _ h;omega
    have z0:=(Q dA).trans Z6.out.1;have z1:=(Q dA).trans Z6.out.2.1;have z2:=(Q dA).trans Z6.out.2.2.1;have z3:=(Q dA).trans Z6.out.2.2.2;have zf:∀o,W8.frozen? ⟨w.heap.size,o,P⟩=Z:=fun o=>(ua dA).trans (Et.out o);have m0:=(Q dh).trans M6.out.1;have m1:=(Q dh).trans M6.out.2.1;have m2:=(Q dh).trans M6.out.2.2.1;have m3:=(Q dh).trans M6.out.2.2.2;have fin:K (∀nq,ybb w b g0 g1 vm S' ⟨mp,ms,mf,mr⟩ Gi 0 (A (L #[(Pg.Mp.mk mp ms mf mr).val,D ga Gi.length gc,I J 0])) (((((W8.drewN nq).setCell ⟨w.heap.size,0,P⟩ (I J mp)).setCell ⟨w.heap.size,1,P⟩ (I J ms)).setCell ⟨w.heap.size,2,P⟩ (I J mf)).setCell ⟨w.heap.size,3,P⟩ (I J mr))):=fun nq=>ya4 H.out B6.out M8.out B8.out O8.out (below_drewN (zR _) nq) (by omega) _ _ _ _ ⟨mp,ms,mf,mr⟩ 0;clear dA dh
    go_quiet (fail)
    go_wp2
    refine y (v:=L #[kp #[I J mp,I J ms,I J mf,I J mr],D ga Gi.length gc,I J 0]) ?_ rfl ?_
    ·simp[results,Tryz.results98,go_sem,z0,z1,z2,z3]
    ·rw[bQ.out,dw.out]
     exact fin.out _
   ·have hkb:((kk:Int)==0)=Z:=by simp[MI]
    have lD:tn<S'.n:=by rw[Lb.out];exact mU
    have w0:W8.cell? ⟨g0,tn*8,P⟩=_:=M8.out.raw.cw tn 0 lD (by omega);have w1:=M8.out.raw.cw tn 1 lD (by omega);have w2:=M8.out.raw.cw tn 2 lD (by omega);have w3':=M8.out.raw.cw tn 3 lD (by omega);have w4:=M8.out.raw.cw tn 4 lD (by omega);have w5':=M8.out.raw.cw tn 5 lD (by omega);have w6:=M8.out.raw.cw tn 6 lD (by omega);have w7':=M8.out.raw.cw tn 7 lD (by omega);have Au:=ydh S' tn;generalize S'.word tn 0=q0 at*;generalize S'.word tn 1=q1 at*;generalize S'.word tn 2=q2 at*;generalize S'.word tn 3=q3 at*;generalize S'.word tn 4=q4 at*;generalize S'.word tn 5=q5 at*;generalize S'.word tn 6=q6 at*;generalize S'.word tn 7=q7 at*;cases oh:Pg.yhS S' (tn:Int)
    ·have dw:K (R=(S',Gi)):=by rw[K,<-Li.out,qV,iP (by right;rw[show kk+1-1=kk from rfl,Lu.out];exact oh)]
     rw[oh]at Au
     have dA:W8.heap[w.heap.size]?=W6.heap[w.heap.size]?:=B8.out.block _ (by omega) fun h=>by have:=ow.out _ h;omega
     have dh:W8.heap[w3.heap.size]?=W6.heap[w3.heap.size]?:=B8.out.block _ G8 fun h=>by have:=ow.out _ h;omega
     have z0:=(Q dA).trans Z6.out.1;have z1:=(Q dA).trans Z6.out.2.1;have z2:=(Q dA).trans Z6.out.2.2.1;have z3:=(Q dA).trans Z6.out.2.2.2;have zf:∀o,W8.frozen? ⟨w.heap.size,o,P⟩=Z:=fun o=>(ua dA).trans (Et.out o);have m0:=(Q dh).trans M6.out.1;have m1:=(Q dh).trans M6.out.2.1;have m2:=(Q dh).trans M6.out.2.2.1;have m3:=(Q dh).trans M6.out.2.2.2;have fin:K (∀nq,ybb w b g0 g1 vm S' ⟨mp,ms,mf,mr⟩ Gi 0 (A (L #[(Pg.Mp.mk mp ms mf mr).val,D ga Gi.length gc,I J 0])) (((((W8.drewN nq).setCell ⟨w.heap.size,0,P⟩ (I J mp)).setCell ⟨w.heap.size,1,P⟩ (I J ms)).setCell ⟨w.heap.size,2,P⟩ (I J mf)).setCell ⟨w.heap.size,3,P⟩ (I J mr))):=fun nq=>ya4 H.out B6.out M8.out B8.out O8.out (below_drewN (zR _) nq) (by omega) _ _ _ _ ⟨mp,ms,mf,mr⟩ 0;clear dA dh
     go_quiet (fail)
     go_wp2
     refine y (v:=L #[kp #[I J mp,I J ms,I J mf,I J mr],D ga Gi.length gc,I J 0]) ?_ rfl ?_
     ·simp[results,Tryz.results98,go_sem,z0,z1,z2,z3]
     ·rw[bQ.out,dw.out]
      exact fin.out _
    ·rw[oh]at Au
     obtain⟨m,uw⟩:∃m,kk=m+1:=⟨kk-1,by omega⟩
     have iw:K (Pg.rmW p T (m+1) S' (Gi++[(tn:Int)])=R):=by
      rw[K,<-Li.out,qV,iN (by
       intro hh;rcases hh with h|h
       ·omega
       ·rw[show kk+1-1=kk from rfl,Lu.out,oh]at h;cases h)]
      rw[show kk+1-1=kk from rfl,Lu.out,uw]
     have MK:(kk:Int)-1=(m:Int):=by omega
     have RV:K _:=uw;clear uw
     have hgl:Gi.length+1<=4:=by omega
     have iT:(1:Int)<=(kk:Int):=by omega
     go_quiet (fail)
     have gF:(W8.drewN nq).ownsRow W6.heap.size 3 1 (D ga Gi.length gc) Gi.length (xn Gi):=zn O8.out (below_drewN (zR _) nq);have hs69:W6.heap.size<=W8.heap.size:=B8.out.size;obtain⟨p0,hq,rW,tJ,rX⟩:=info_parts qE
     go_wp2_with (first
      | (at_builtin;refine wpList_append_lies _ rfl _ _ 45 rfl W6.heap.size 3 p0 (I J 0) 1 8 Tryz.underlying45 hq rW tJ rX rfl (by decide) _ _ _ rfl (gF.alloc _) ⟨W8.heap.size,0,P⟩ 1 1 [I J (tn:Int)] rfl rfl ?c1 ?c2 (by decide) ?c3 ?c4 ?c5 (W8.heap.size+1) (by simp) ?_))
     case c1=>
      intro j u hj;exact World.news_of_block (cs:=#[I J (tn:Int)]) (heap_alloc_new (W8.drewN nq) _) j u hj
     case c2=>intro u hu;simp at hu;subst hu;rfl
     case c3=>unfold maxLen;omega
     case c4=>omega
     case c5=>simp;omega
     intro g9 dx w9 iZ dC uY iU;have SQ:But (fun j=>(uv ga Gi.length gc).ownBlock=U j) W8 w9:=(But.yhJ (zA (below_drewN (zR W8) nq) _)).grown dC fun k hk=> .inr hk
     have fin:K (yge W6 w9 b g0 g1 vm S' T m p (D (U ⟨g9,0,P⟩) (Gi.length+1) dx) (Gi++[(tn:Int)]) R):=by
      have Hf:∀j,(uv ga Gi.length gc).ownBlock=U j->W6.heap.size<=j:=fun j hj=>(O8.out.lt j hj).1;refine⟨M8.out.keep SQ fun j hj e=> ?_,B8.out.trans SQ fun i hi h=> ?_,?_,S8.out,iw.out⟩
      ·have:=Hf j e
       have:=ow.out j hj;have:=B6.out.size;omega
      ·have:=Hf i h;omega
      ·rw[ki,z,jD]
       exact iZ
     clear gF iZ dC uY iU SQ
     go_wp2_with fail
     exact⟨⟨m,_,Gi++[(tn:Int)],by have:=RV.out;simp;omega,by first|go_num|simp[MK]|rfl,fin.out⟩,by have:=RV.out;simp[intOf];omega⟩
 ·have e2:Pg.tFM S t p= .zz:=by rw[Pg.tFM,iN hc]
  have e4:Pg.tFE S t p=Pg.En.zero:=by rw[Pg.tFE,iN hc]
  have e3:Pg.rmR S t p=(S,[]):=by rw[Pg.rmR,iN hc]
  rw[e2,e3];rw[e2,e4]at bW;clear h e2 e3 r4 kX sG e4;generalize Pg.tFC S t p=cc at*
  have bB:(cc !=0)=M:=by simp[hc]
  clear hc;have Fv:uc q 29 #[kh (U ⟨b,0,P⟩),I J t,I J p] W1 fun e w'=>e=A (L #[kp #[I J 0,I J 0,I J 0,I J 0],kp #[B Z,B Z,I J 0,B Z,B Z,I J 0],I J cc])/\Lw W1 w':=bW;clear bW
  go_enter Tryz.func98,Tryz.ntmps98
  go_wp2_with fail
  rw[<-rC];clear rC;refine Fv.mono ?_;rintro en w3 ⟨rfl,He⟩;obtain⟨y0,y1,y2,y3⟩:=xG He ni.out;have yf:∀o,w3.frozen? ⟨w.heap.size,o,P⟩=Z:=fun o=>(He.frozen (p:=⟨w.heap.size,o,P⟩) mK).trans (sU.out o);have rE:K (Lw w w3):=zT ry.out He;have lN:w.heap.size<w3.heap.size:=V _ _ y0
  have lS:¬w.heap.size=w3.heap.size:=by omega
  clear He Fv
  go_wp2_with fail
  have wY:=zA (zA (zu rE.out w.heap.size (ue _) (I J 0) (I J 0) (I J 0) (I J 0)) (O #[I J 0,I J 0,I J 0,I J 0] 39)) (O #[B Z,B Z,I J 0,B Z,B Z,I J 0] 70);refine y (v:=L #[kp #[I J 0,I J 0,I J 0,I J 0],D P 0 0,I J cc]) ?_ rfl ?_
  ·simp[results,Tryz.results98,go_sem,y0,y1,y2,y3,lN,lS]
  ·exact⟨P,0,rfl,fun j hj=>absurd hj (by simp),H.out.grow wY,But.yhJ wY,fun g hg=>by cases hg⟩
end
end Go.Proofs.YtdphiompijbelaaGreat
