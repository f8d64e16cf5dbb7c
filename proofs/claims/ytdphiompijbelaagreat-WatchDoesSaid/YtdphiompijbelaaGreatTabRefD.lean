import Derived.Test.YtdphiompijbelaaGreatWalkF
import Derived.Test.YtdphiompijbelaaGreatTabKp
import Derived.Test.YtdphiompijbelaaGreatArrT
set_option linter.all false
set_option maxRecDepth 100000
open Nat renaming le_refl->un
open Go renaming World->ki
open Int renaming eq_ofNat_of_zero_le->y
open Go.Proofs.Tryz renaming prog->L
open List renaming length_singleton->A,length_append->z
open Go.Ending renaming returned->M
open Go.Obj renaming cells->U
open Bool renaming false->Q,true->O,and_eq_true->ur,true_and->uv
open Go.World renaming block_lt_of_cell?->C,cell?_of_block->V,frozen?_of_block->kh
open Option renaming none->P,some->Z
open Go.IntKind renaming i64->J,u64->ks
open Go.Value renaming int->I,bool->B,slice->K,tuple->D,agg->q,pointer->kO,slice->kp
set_option maxHeartbeats 4000000
namespace Go.Proofs.YtdphiompijbelaaGreat
open Go.RowKit Go.Sort
attribute [local go_sem] Loose.gent
theorem zj.grow {w w':ki} {b g0 g1:Nat} {vb:Value} {S:Pg.Fs} (h:zj w b g0 g1 vb S) (hb:Below w.heap.size w w'):zj w' b g0 g1 vb S:=h.keep (F:=fun _=>False) (But.yhp hb) (fun _ _=>id)
def six (w:ki) (b:Nat) (e:Pg.En):Prop:=w.cell? ⟨b,0,P⟩=Z (B e.t)/\w.cell? ⟨b,1,P⟩=Z (B e.l)/\w.cell? ⟨b,2,P⟩=Z (I J e.r)/\w.cell? ⟨b,3,P⟩=Z (B e.u)/\w.cell? ⟨b,4,P⟩=Z (B e.d)/\w.cell? ⟨b,5,P⟩=Z (I J e.f)
theorem yaU {b g0 g1:Nat} {vm:Value} {S:Pg.Fs} (t p:Int) (w:ki) (h:zj w b g0 g1 vm S):
 Calls L 29 #[kO (Z ⟨b,0,P⟩),I J t,I J p] w fun e w'=>e=M (D #[(Pg.tFM S t p).val,(Pg.tFE S t p).val,I J (Pg.tFC S t p)])/\Below w.heap.size w w':=by
 obtain⟨W2,Hz⟩:∃W2,W2=(w.alloc (U #[I J 0,I J 0,I J 0,I J 0] 39)).alloc (U #[B Q,B Q,I J 0,B Q,B Q,I J 0] 70):=⟨_,rfl⟩
 have tH:Below w.heap.size w W2:=by rw[Hz];exact zA (zA (zR w) _) _
 have r4:W2.cell? ⟨w.heap.size,0,P⟩=Z (I J 0)/\W2.cell? ⟨w.heap.size,1,P⟩=Z (I J 0)/\W2.cell? ⟨w.heap.size,2,P⟩=Z (I J 0)/\W2.cell? ⟨w.heap.size,3,P⟩=Z (I J 0):=by rw[Hz];simp[go_sem]
 have r6:W2.cell? ⟨w.heap.size+1,0,P⟩=Z (B Q)/\W2.cell? ⟨w.heap.size+1,1,P⟩=Z (B Q)/\W2.cell? ⟨w.heap.size+1,2,P⟩=Z (I J 0)/\W2.cell? ⟨w.heap.size+1,3,P⟩=Z (B Q)/\W2.cell? ⟨w.heap.size+1,4,P⟩=Z (B Q)/\W2.cell? ⟨w.heap.size+1,5,P⟩=Z (I J 0):=by rw[Hz];simp[go_sem]
 have kg:∀o,W2.frozen? ⟨w.heap.size,o,P⟩=Q:=fun o=>by rw[Hz];simp[go_sem]
 have Ew:∀o,W2.frozen? ⟨w.heap.size+1,o,P⟩=Q:=fun o=>by rw[Hz];simp[go_sem]
 have pU:W2.heap.size=w.heap.size+2:=by rw[Hz];simp
 have HW:=jO t p W2 (h.grow tH);have mE:Hid _:=r4;have Mo:Hid _:=r6;have sQ:Hid _:=kg;have CQ:Hid _:=Ew;have Ht:Hid _:=tH;have e1:Pg.tFC S t p=if xQ S t p≠0 then xQ S t p else if (yhu (zg S t p)).t=O then 0 else 5:=rfl;have e2:Pg.tFM S t p=if Pg.tFC S t p=0 then(yhu (zg S t p)).map (yhw (zg S t p)) p else .zz:=rfl;have e3:Pg.tFE S t p=if Pg.tFC S t p=0 then yhu (zg S t p)else Pg.En.zero:=rfl;generalize Pg.tFC S t p=cc at*;generalize Pg.tFM S t p=mm at*;generalize Pg.tFE S t p=ee at*;generalize xQ S t p=fc at*;generalize zg S t p=X at*;have Ur:=fun w=>vQ (yhu X).t (yhu X).l (yhu X).r (yhu X).u (yhu X).d (yhu X).f (yhw X) p w;have aM:∀w,Calls L 72 #[q #[B (yhu X).t,B (yhu X).l,I J (yhu X).r,B (yhu X).u,B (yhu X).d,I J (yhu X).f],I J (yhw X),I J p] w fun e w'=>e=M ((yhu X).map (yhw X) p).val/\Below w.heap.size w w':=Ur;clear h r4 r6 kg Ew tH Ur;have HV:Hid (∀v,yaE X v=q #[v,B (yhu X).t,B (yhu X).l,I J (yhu X).r,B (yhu X).u,B (yhu X).d,I J (yhu X).f,I J (yhw X)]):=fun v=>rfl;generalize (yhu X).map (yhw X) p=lm at*;generalize yhu X=E at*;generalize yhw X=lv at*;obtain⟨et,el,er,eu,ed,ef⟩:=E;obtain⟨lp,ls,lf,lr⟩:=lm;simp only[Pg.Mp.val]at aM HV
 by_cases hfc:fc=0
 ·subst hfc
  rw[if_neg (by simp)]at e1;cases et
  ·have Dl:cc=5:=by rw[e1];rfl
   subst Dl;rw[if_neg (by decide)]at e2 e3;subst e2 e3;clear e1 aM
   go_enter Tryz.func29,Tryz.ntmps29
   go_wp2_with fail
   rw[<-Hz];refine HW.mono ?_;rintro e w1 ⟨⟨ad,cap,rfl,_⟩,Ha⟩;obtain⟨r0,r1,r2,r3⟩:=xH Ha mE.out;obtain⟨s0,s1,s2,s3,s4,s5⟩:=xE Ha Mo.out;have dE:w.heap.size+1<w1.heap.size:=C _ _ s0
   have cK:w.heap.size<w1.heap.size:=by omega
   have mH:¬w.heap.size=w1.heap.size:=by omega
   have lW:¬w.heap.size+1=w1.heap.size:=by omega
   have f4:∀o,w1.frozen? ⟨w.heap.size,o,P⟩=Q:=fun o=>(Ha.frozen (p:=⟨w.heap.size,o,P⟩) (by simp;omega)).trans (sQ.out o);have f6:∀o,w1.frozen? ⟨w.heap.size+1,o,P⟩=Q:=fun o=>(Ha.frozen (p:=⟨w.heap.size+1,o,P⟩) (by simp;omega)).trans (CQ.out o);have H9:Hid (Below w.heap.size w w1):=zT Ht.out Ha;rw[HV.out];clear Ha HW
   go_wp2_with fail
   refine bodyPost_ret (v:=D #[q #[I J 0,I J 0,I J 0,I J 0],q #[B Q,B Q,I J 0,B Q,B Q,I J 0],I J 5]) ?_ rfl ⟨rfl,?_⟩
   ·simp[results,Tryz.results29,go_sem,r0,r1,r2,r3,s0,s1,s2,s3,s4,s5,dE,cK,mH,lW]
   ·exact zA ((((((((((H9.out.setCell (by simp) _).setCell (by simp) _).setCell (by simp) _).setCell (by simp) _).setCell (by simp) _).setCell (by simp) _).setCell (by simp) _).setCell (by simp) _).setCell (by simp) _).setCell (by simp) _) _
  ·have Dl:cc=0:=by rw[e1];rfl
   subst Dl;rw[if_pos rfl]at e2 e3;subst e2 e3;clear e1
   go_enter Tryz.func29,Tryz.ntmps29
   go_wp2_with fail
   rw[<-Hz];refine HW.mono ?_;rintro e w1 ⟨⟨ad,cap,rfl,_⟩,Ha⟩;have K4:Hid _:=xH Ha mE.out;have K6:Hid _:=xE Ha Mo.out;have dE:w.heap.size+1<w1.heap.size:=C _ _ K6.out.1
   have cK:w.heap.size<w1.heap.size:=by omega
   have mH:¬w.heap.size=w1.heap.size:=by omega
   have lW:¬w.heap.size+1=w1.heap.size:=by omega
   have f4:Hid (∀o,w1.frozen? ⟨w.heap.size,o,P⟩=Q):=fun o=>(Ha.frozen (p:=⟨w.heap.size,o,P⟩) (by simp;omega)).trans (sQ.out o);have f6:Hid (∀o,w1.frozen? ⟨w.heap.size+1,o,P⟩=Q):=fun o=>(Ha.frozen (p:=⟨w.heap.size+1,o,P⟩) (by simp;omega)).trans (CQ.out o);have H9:Hid (Below w.heap.size w w1):=zT Ht.out Ha;rw[HV.out];clear Ha HW
   go_wp2_with fail
   obtain⟨r0,r1,r2,r3⟩:=K4.out;obtain⟨s0,s1,s2,s3,s4,s5⟩:=K6.out;have g4:=f4.out;have g6:=f6.out
   go_region_held3 (fun w'=>w'.cell? ⟨w1.heap.size,1,P⟩=Z (B O)/\w'.cell? ⟨w1.heap.size,2,P⟩=Z (B el)/\w'.cell? ⟨w1.heap.size,3,P⟩=Z (I J er)/\w'.cell? ⟨w1.heap.size,4,P⟩=Z (B eu)/\w'.cell? ⟨w1.heap.size,5,P⟩=Z (B ed)/\w'.cell? ⟨w1.heap.size,6,P⟩=Z (I J ef)/\w'.cell? ⟨w1.heap.size,7,P⟩=Z (I J lv)) (go_keep) (first
    | (go_at_call 72;refine(aM _).mono ?_;rintro e w2 ⟨rfl,Hd⟩
       have t6:=xE (b:=w.heap.size+1) Hd (v0:=B Q) (v1:=B Q) (v2:=I J 0) (v3:=B Q) (v4:=B Q) (v5:=I J 0) (by simp[go_sem,s0,s1,s2,s3,s4,s5,dE,lW]);have t4:=xH (b:=w.heap.size) Hd (v0:=I J 0) (v1:=I J 0) (v2:=I J 0) (v3:=I J 0) (by simp[go_sem,r0,r1,r2,r3,cK,mH]);have x4:∀o,w2.frozen? ⟨w.heap.size,o,P⟩=Q:=fun o=>(Hd.frozen (p:=⟨w.heap.size,o,P⟩) (by simp;omega)).trans (by simp[go_sem,g4,cK,mH]);have x6:∀o,w2.frozen? ⟨w.heap.size+1,o,P⟩=Q:=fun o=>(Hd.frozen (p:=⟨w.heap.size+1,o,P⟩) (by simp;omega)).trans (by simp[go_sem,g6,dE,lW]);have hc:∀o,w2.cell? ⟨w1.heap.size,o,P⟩=_:=fun o=>Hd.cell (p:=⟨w1.heap.size,o,P⟩) (by simp)
       have rX:w1.heap.size<w2.heap.size:=by have:=Hd.size;simp at this;omega
       have rE:Hid _:=Hd;obtain⟨t40,t41,t42,t43⟩:=t4;obtain⟨t60,t61,t62,t63,t64,t65⟩:=t6
       clear Hd))
   go_wp2_with fail
   refine bodyPost_ret (v:=D #[q #[I J lp,I J ls,I J lf,I J lr],q #[B O,B el,I J er,B eu,B ed,I J ef],I J 0]) ?_ rfl ⟨rfl,?_⟩
   ·simp[results,Tryz.results29,go_sem,t40,t41,t42,t43,t60,t61,t62,t63,t64,t65,dE,cK,mH,lW]
   ·have He:=zT (zA H9.out _).drew rE.out
    exact(((((((((He.setCell (by simp) _).setCell (by simp) _).setCell (by simp) _).setCell (by simp) _).setCell (by simp) _).setCell (by simp) _).setCell (by simp) _).setCell (by simp) _).setCell (by simp) _).setCell (by simp) _
 ·have Dl:cc=fc:=by rw[e1,if_pos hfc]
  subst Dl;rw[if_neg hfc]at e2 e3;subst e2 e3;clear e1 aM
  go_enter Tryz.func29,Tryz.ntmps29
  go_wp2_with fail
  rw[<-Hz];refine HW.mono ?_;rintro e w1 ⟨⟨ad,cap,rfl,_⟩,Ha⟩;obtain⟨r0,r1,r2,r3⟩:=xH Ha mE.out;obtain⟨s0,s1,s2,s3,s4,s5⟩:=xE Ha Mo.out;have dE:w.heap.size+1<w1.heap.size:=C _ _ s0
  have cK:w.heap.size<w1.heap.size:=by omega
  have mH:¬w.heap.size=w1.heap.size:=by omega
  have lW:¬w.heap.size+1=w1.heap.size:=by omega
  have f4:∀o,w1.frozen? ⟨w.heap.size,o,P⟩=Q:=fun o=>(Ha.frozen (p:=⟨w.heap.size,o,P⟩) (by simp;omega)).trans (sQ.out o);have f6:∀o,w1.frozen? ⟨w.heap.size+1,o,P⟩=Q:=fun o=>(Ha.frozen (p:=⟨w.heap.size+1,o,P⟩) (by simp;omega)).trans (CQ.out o);have H9:Hid (Below w.heap.size w w1):=zT Ht.out Ha;rw[HV.out];clear Ha HW
  go_wp2_with fail
  refine bodyPost_ret (v:=D #[q #[I J 0,I J 0,I J 0,I J 0],q #[B Q,B Q,I J 0,B Q,B Q,I J 0],I J cc]) ?_ rfl ⟨rfl,?_⟩
  ·simp[results,Tryz.results29,go_sem,r0,r1,r2,r3,s0,s1,s2,s3,s4,s5,dE,cK,mH,lW]
  ·exact zA ((((((((((H9.out.setCell (by simp) _).setCell (by simp) _).setCell (by simp) _).setCell (by simp) _).setCell (by simp) _).setCell (by simp) _).setCell (by simp) _).setCell (by simp) _).setCell (by simp) _).setCell (by simp) _) _
structure ygF (w:ki) (b g0 n g j Y x R k:Nat) (vt:Value) (el:Bool) (r:Int) (eu ed:Bool) (ef lv tl lp ls lf W:Int):Prop where
 a0:w.cell? ⟨b,0,P⟩=Z (K (Z ⟨g0,0,P⟩) n n)
 a1:w.cell? ⟨Y,0,P⟩=Z vt
 a2:w.cell? ⟨Y,7,P⟩=Z (I J lv)
 a3:w.cell? ⟨g,j,P⟩=Z (I J tl)
 y0:w.cell? ⟨x+1,0,P⟩=Z (B O)
 y1:w.cell? ⟨x+1,1,P⟩=Z (B el)
 y2:w.cell? ⟨x+1,2,P⟩=Z (I J r)
 y3:w.cell? ⟨x+1,3,P⟩=Z (B eu)
 y4:w.cell? ⟨x+1,4,P⟩=Z (B ed)
 y5:w.cell? ⟨x+1,5,P⟩=Z (I J ef)
 x0:w.cell? ⟨x,0,P⟩=Z (I J lp)
 x1:w.cell? ⟨x,1,P⟩=Z (I J ls)
 x2:w.cell? ⟨x,2,P⟩=Z (I J lf)
 x3:w.cell? ⟨x,3,P⟩=Z (I J r)
 z0:w.cell? ⟨R,0,P⟩=Z (I J 0)
 z1:w.cell? ⟨R,1,P⟩=Z (I J 0)
 z2:w.cell? ⟨R,2,P⟩=Z (I J 0)
 z3:w.cell? ⟨R,3,P⟩=Z (I J 0)
 cw:w.cell? ⟨g0,k,P⟩=Z (I ks W)
 f0:∀o,w.frozen? ⟨g0,o,P⟩=Q
 fR:∀o,w.frozen? ⟨R,o,P⟩=Q
theorem ygF.later {w w':ki} {b g0 n g j Y x R k:Nat} {vt:Value} {el:Bool} {r:Int} {eu ed:Bool} {ef lv tl lp ls lf W:Int} (h:ygF w b g0 n g j Y x R k vt el r eu ed ef lv tl lp ls lf W) (hb:Below w.heap.size w w'):ygF w' b g0 n g j Y x R k vt el r eu ed ef lv tl lp ls lf W:=by
 have c:∀{a:Addr} {v:Value},w.cell? a=Z v->w'.cell? a=Z v:=fun{a v} e=>(hb.cell (p:=a) (C _ _ e)).trans e;have q0:g0<w.heap.size:=C _ _ h.cw;have q1:R<w.heap.size:=C _ _ h.z0;exact⟨c h.a0,c h.a1,c h.a2,c h.a3,c h.y0,c h.y1,c h.y2,c h.y3,c h.y4,c h.y5,c h.x0,c h.x1,c h.x2,c h.x3,c h.z0,c h.z1,c h.z2,c h.z3,c h.cw,fun o=>(hb.frozen (p:=⟨g0,o,P⟩) q0).trans (h.f0 o),fun o=>(hb.frozen (p:=⟨R,o,P⟩) q1).trans (h.fR o)⟩
theorem ye8 {X:List Pg.Sp} (h:1<=X.length):(tabs X).getD (X.length-1) 0=lastT X:=by
 unfold tabs lastT;rw[List.getLast?_eq_getElem?,List.getD,List.getElem?_map]
 cases X[X.length-1]? <;>rfl
theorem ybv {b g0 g1:Nat} {vm:Value} {S:Pg.Fs} (t p r:Int) (w:ki) (h:zj w b g0 g1 vm S):
 Calls L 99 #[kO (Z ⟨b,0,P⟩),I J t,I J p,I J r] w fun e w'=>e=M (D #[(Pg.prM S t p r).val,I J (Pg.prC S t p r)])/\zj w' b g0 g1 vm (Pg.prS S t p r)/\But (xc b g0 g1 vm) w w':=by
 have HX:Hid _:=h
 by_cases hr:r<0\/7<r
 ·have e1:Pg.prC S t p r=1:=by rw[Pg.prC,if_pos hr]
  have e2:Pg.prM S t p r= .zz:=by rw[Pg.prM,e1,if_neg (by decide)]
  have e3:Pg.prS S t p r=S:=by rw[Pg.prS,e1,if_neg (by decide)]
  rw[e1,e2,e3];have fin:Hid (∀o:Obj,zj (w.alloc o) b g0 g1 vm S/\But (xc b g0 g1 vm) w (w.alloc o)):=fun o=>⟨h.grow (zA (zR _) _),But.yhp (zA (zR _) _)⟩;clear h e1 e2 e3 HX
  by_cases h0:r<0
  ·clear hr
   go_enter Tryz.func99,Tryz.ntmps99
   go_wp2_with fail
   refine bodyPost_ret (v:=D #[q #[I J 0,I J 0,I J 0,I J 0],I J 1]) ?_ rfl ⟨rfl,?_⟩
   ·simp[results,Tryz.results99,go_sem]
   ·exact fin.out _
  ·have h1:7<r:=by omega
   clear hr
   go_enter Tryz.func99,Tryz.ntmps99
   go_wp2_with fail
   refine bodyPost_ret (v:=D #[q #[I J 0,I J 0,I J 0,I J 0],I J 1]) ?_ rfl ⟨rfl,?_⟩
   ·simp[results,Tryz.results99,go_sem]
   ·exact fin.out _
 ·have h0:¬r<0:=by omega
  have h1:¬7<r:=by omega
  have HF:=fun o=>yaU t p (w.alloc o) (h.grow (zA (zR _) o))
  have e1:Pg.prC S t p r=Pg.tFC S t p:=by rw[Pg.prC,if_neg hr]
  by_cases hc:Pg.tFC S t p=0
  ·have hz:xQ S t p=0:=by
    by_cases hz:xQ S t p=0
    ·exact hz
    ·rw[Pg.tFC,if_pos hz]at hc
     exact absurd hc hz
   obtain⟨lv,⟨et,el,er,eu,ed,ef⟩,tl,W⟩:=Pg.ykp hz
   have ht:et=O:=by
    rw[Pg.tFC,hz,if_neg (by decide),W.yhu]at hc;cases et
    ·simp at hc
    ·rfl
   subst ht;have Hg:=W.len
   have Ns:1<=(zg S t p).length:=by
    cases hX:zg S t p with
    | nil=>
      have:=W.hasT;rw[<-W.lastT]at this;have h4:=W.len;rw[hX]at h4;have h5:=W.yhw;rw[hX]at h5;simp[yhw]at h5 h4;omega
    | cons a l=>simp
   have fI:Pg.index p (lv:Int)=(Pg.ix p lv:Nat):=Pg.yhE W.below (by omega);have fJ:Pg.ix p lv<8:=Pg.yid _ _
   have e2:Pg.prM S t p r=(Pg.tFM S t p).rts r:=by rw[Pg.prM,e1,if_pos hc]
   have e3:Pg.prS S t p r=S.store tl ((Pg.ix p lv:Nat):Int) (Pg.enc O el r eu ed ef (lv:Int)):=by
    rw[Pg.prS,e1,if_pos hc,W.lastT,W.yhw,W.yhu,fI]
   have e5:Pg.tFE S t p=⟨O,el,er,eu,ed,ef⟩:=by rw[Pg.tFE,if_pos hc,W.yhu]
   rw[e1,e2,e3,hc];rw[e5,hc]at HF;generalize Pg.tFM S t p=mm at*;obtain⟨lp,ls,lf,lr⟩:=mm;have Ta:∀o,Calls L 29 #[kO (Z ⟨b,0,P⟩),I J t,I J p] (w.alloc o) fun e w'=>e=M (D #[q #[I J lp,I J ls,I J lf,I J lr],q #[B O,B el,I J er,B eu,B ed,I J ef],I J 0])/\Below (w.alloc o).heap.size (w.alloc o) w':=HF
   have HW:∀W',Below w.heap.size w W'->Calls L 71 #[kO (Z ⟨b,0,P⟩),I J t,I J p] W' fun e w'=>(∃ad cap,e=M (D #[q #[K ad (zg S t p).length cap,B O,B el,I J er,B eu,B ed,I J ef,I J (lv:Int)],I J 0])/\zx w' ad (tabs (zg S t p))/\∀g,ad=Z ⟨g,0,P⟩->W'.heap.size<=g)/\Below W'.heap.size W' w':=by
    intro W' TE;refine(jO t p W' (h.grow TE)).mono ?_;rintro e w' ⟨⟨ad,cap,he,hi⟩,hb,pO⟩;refine⟨⟨ad,cap,?_,hi,fun g hg=>pO g _ _ _ (by rw[he,hg])⟩,hb⟩;rw[he,hz];simp only[yaE,W.yhu,W.yhw]
   clear h e1 e2 e3 e5 HF hr hc;have WW:Hid _:=W;clear W
   go_enter Tryz.func99,Tryz.ntmps99
   go_wp2_with fail
   refine(Ta _).mono ?_;rintro e w1 ⟨rfl,Ha⟩;have hr:∀o,w1.cell? ⟨w.heap.size,o,P⟩=_:=fun o=>Ha.cell (p:=⟨w.heap.size,o,P⟩) (by simp);have hf:∀o,w1.frozen? ⟨w.heap.size,o,P⟩=_:=fun o=>Ha.frozen (p:=⟨w.heap.size,o,P⟩) (by simp);have hB:Hid (Below w.heap.size w w1):=zT (zA (zR _) _) Ha
   have cK:w.heap.size<w1.heap.size:=by have:=Ha.size;simp at this;omega
   have mH:¬w.heap.size=w1.heap.size:=by omega
   clear Ha Ta
   go_wp2_with fail
   have kx:((w1.alloc (U #[I J lp,I J ls,I J lf,I J lr] 39)).alloc (U #[B O,B el,I J er,B eu,B ed,I J ef] 70)).cell? ⟨w1.heap.size,0,P⟩=Z (I J lp)/\((w1.alloc (U #[I J lp,I J ls,I J lf,I J lr] 39)).alloc (U #[B O,B el,I J er,B eu,B ed,I J ef] 70)).cell? ⟨w1.heap.size,1,P⟩=Z (I J ls)/\((w1.alloc (U #[I J lp,I J ls,I J lf,I J lr] 39)).alloc (U #[B O,B el,I J er,B eu,B ed,I J ef] 70)).cell? ⟨w1.heap.size,2,P⟩=Z (I J lf)/\((w1.alloc (U #[I J lp,I J ls,I J lf,I J lr] 39)).alloc (U #[B O,B el,I J er,B eu,B ed,I J ef] 70)).cell? ⟨w1.heap.size,3,P⟩=Z (I J lr):=by simp[go_sem]
   have ke:((w1.alloc (U #[I J lp,I J ls,I J lf,I J lr] 39)).alloc (U #[B O,B el,I J er,B eu,B ed,I J ef] 70)).cell? ⟨w1.heap.size+1,0,P⟩=Z (B O)/\((w1.alloc (U #[I J lp,I J ls,I J lf,I J lr] 39)).alloc (U #[B O,B el,I J er,B eu,B ed,I J ef] 70)).cell? ⟨w1.heap.size+1,1,P⟩=Z (B el)/\((w1.alloc (U #[I J lp,I J ls,I J lf,I J lr] 39)).alloc (U #[B O,B el,I J er,B eu,B ed,I J ef] 70)).cell? ⟨w1.heap.size+1,2,P⟩=Z (I J er)/\((w1.alloc (U #[I J lp,I J ls,I J lf,I J lr] 39)).alloc (U #[B O,B el,I J er,B eu,B ed,I J ef] 70)).cell? ⟨w1.heap.size+1,3,P⟩=Z (B eu)/\((w1.alloc (U #[I J lp,I J ls,I J lf,I J lr] 39)).alloc (U #[B O,B el,I J er,B eu,B ed,I J ef] 70)).cell? ⟨w1.heap.size+1,4,P⟩=Z (B ed)/\((w1.alloc (U #[I J lp,I J ls,I J lf,I J lr] 39)).alloc (U #[B O,B el,I J er,B eu,B ed,I J ef] 70)).cell? ⟨w1.heap.size+1,5,P⟩=Z (I J ef):=by simp[go_sem]
   have kr:∀o,((w1.alloc (U #[I J lp,I J ls,I J lf,I J lr] 39)).alloc (U #[B O,B el,I J er,B eu,B ed,I J ef] 70)).frozen? ⟨w1.heap.size,o,P⟩=Q/\((w1.alloc (U #[I J lp,I J ls,I J lf,I J lr] 39)).alloc (U #[B O,B el,I J er,B eu,B ed,I J ef] 70)).frozen? ⟨w1.heap.size+1,o,P⟩=Q/\((w1.alloc (U #[I J lp,I J ls,I J lf,I J lr] 39)).alloc (U #[B O,B el,I J er,B eu,B ed,I J ef] 70)).frozen? ⟨w.heap.size,o,P⟩=Q:=fun o=>by simp[go_sem,hf,cK,mH]
   have k0:((w1.alloc (U #[I J lp,I J ls,I J lf,I J lr] 39)).alloc (U #[B O,B el,I J er,B eu,B ed,I J ef] 70)).cell? ⟨w.heap.size,0,P⟩=Z (I J 0)/\((w1.alloc (U #[I J lp,I J ls,I J lf,I J lr] 39)).alloc (U #[B O,B el,I J er,B eu,B ed,I J ef] 70)).cell? ⟨w.heap.size,1,P⟩=Z (I J 0)/\((w1.alloc (U #[I J lp,I J ls,I J lf,I J lr] 39)).alloc (U #[B O,B el,I J er,B eu,B ed,I J ef] 70)).cell? ⟨w.heap.size,2,P⟩=Z (I J 0)/\((w1.alloc (U #[I J lp,I J ls,I J lf,I J lr] 39)).alloc (U #[B O,B el,I J er,B eu,B ed,I J ef] 70)).cell? ⟨w.heap.size,3,P⟩=Z (I J 0):=by simp[go_sem,hr,cK,mH]
   have kB:Below w.heap.size w ((w1.alloc (U #[I J lp,I J ls,I J lf,I J lr] 39)).alloc (U #[B O,B el,I J er,B eu,B ed,I J ef] 70)):=zA (zA hB.out _) _;generalize (w1.alloc (U #[I J lp,I J ls,I J lf,I J lr] 39)).alloc (U #[B O,B el,I J er,B eu,B ed,I J ef] 70)=W2 at*;clear hr hf hB;generalize w1.heap.size=x at*;refine(HW _ kB).mono ?_;rintro e w3 ⟨⟨ad,cap,rfl,hi,pO⟩,He⟩;obtain⟨g,rfl,hg,fU⟩:=hi ((zg S t p).length-1) (by rw[xC];omega);obtain⟨x0,x1,x2,x3⟩:=xH He kx;obtain⟨y0,y1,y2,y3,y4,y5⟩:=xE He ke;obtain⟨z0,z1,z2,z3⟩:=xH He k0;have xl:x<w3.heap.size:=C _ _ x0;have yl:x+1<w3.heap.size:=C _ _ y0;have xl2:x<W2.heap.size:=C _ _ kx.1;have Su:x+1<W2.heap.size:=C _ _ ke.1;have u0:∀o,w3.frozen? ⟨x,o,P⟩=Q:=fun o=>(He.frozen (p:=⟨x,o,P⟩) xl2).trans (kr o).1;have u1:∀o,w3.frozen? ⟨x+1,o,P⟩=Q:=fun o=>(He.frozen (p:=⟨x+1,o,P⟩) Su).trans (kr o).2.1;have u2:∀o,w3.frozen? ⟨w.heap.size,o,P⟩=Q:=fun o=>(He.frozen (p:=⟨w.heap.size,o,P⟩) (by show w.heap.size<_;omega)).trans (kr o).2.2;have B3:Hid (Below w.heap.size w w3):=zT kB He;have M3:Hid _:=HX.out.grow B3.out
   have pK:w.heap.size<w3.heap.size:=by omega
   have m1:¬x=w3.heap.size:=by omega
   have m2:¬x+1=w3.heap.size:=by omega
   have m3:¬w.heap.size=w3.heap.size:=by omega
   have mg:(tabs (zg S t p)).getD ((zg S t p).length-1) 0=tl:=by rw[ye8 Ns];exact WW.out.lastT
   rw[mg]at fU;obtain⟨t0,t1,_⟩:=M3.out.ok.yhK WW.out.hasT;obtain⟨tn,rfl⟩:=y t0
   have mX:tn<S.n:=by omega
   have gL:=M3.out.ok.small
   have TV:¬g=g0:=by
    intro e;have h1:=M3.out.raw.cw 0 ((zg S t p).length-1) (by omega) (by omega);rw[e,show(zg S t p).length-1=0*8+((zg S t p).length-1) by omega,h1]at fU;simp at fU
   have Wv:=HX.out.raw.l0;have rY:=HX.out.raw.lb;have hgx:W2.heap.size<=g:=pO g rfl
   have Ab:¬g=x:=by omega
   have Ac:¬g=x+1:=by omega
   have gY:¬g=w3.heap.size:=by omega
   have eH:=M3.out.raw.cw tn (Pg.ix p lv) mX fJ;have nI:=M3.out.raw.f0;have rT:=M3.out.raw.c0
   have nb0:¬b=x:=by omega
   have wV:¬b=x+1:=by omega
   have nbY:¬b=w3.heap.size:=by omega
   have KO:¬g0=x:=by omega
   have KP:¬g0=x+1:=by omega
   have ngY:¬g0=w3.heap.size:=by omega
   have KQ:¬g0=w.heap.size:=by omega
   have lb3:b<w3.heap.size:=by omega
   have Es:g0<w3.heap.size:=by omega
   clear kx ke kr k0 kB HW hi pO;generalize hV:kp (Z ⟨g,0,P⟩) (zg S t p).length cap=vt
   have P4:ygF (((w3.setCell ⟨x+1,2,P⟩ (I J r)).setCell ⟨x,3,P⟩ (I J r)).alloc (U #[vt,B O,B el,I J er,B eu,B ed,I J ef,I J (lv:Int)] 142)) b g0 S.n g ((zg S t p).length-1) w3.heap.size x w.heap.size (tn*8+Pg.ix p lv) vt el r eu ed ef (lv:Int) (tn:Int) lp ls lf (S.word tn (Pg.ix p lv)):=by
    constructor<;>first
     | (simp[go_sem,rT,fU,x0,x1,x2,x3,y0,y1,y2,y3,y4,y5,z0,z1,z2,z3,eH,xl,yl,hg,lb3,Es,pK,Ab,Ac,nb0,wV,KO,KP,mH,cK,m1,m2,m3,gY,nbY,ngY,KQ];done)
     | (intro o;simp[go_sem,nI,u2,Es,pK];done)
   subst hV;have b4:Below w.heap.size w (((w3.setCell ⟨x+1,2,P⟩ (I J r)).setCell ⟨x,3,P⟩ (I J r)).alloc (U #[kp (Z ⟨g,0,P⟩) (zg S t p).length cap,B O,B el,I J er,B eu,B ed,I J ef,I J (lv:Int)] 142)):=zA ((B3.out.setCell (by show w.heap.size<=x+1;omega) _).setCell (by show w.heap.size<=x;omega) _) _;have rM:Hid _:=b4;have Bo:Hid _:=P4;clear b4 P4
   go_wp2_with fail
   generalize rF:(((w3.setCell ⟨x+1,2,P⟩ (I J r)).setCell ⟨x,3,P⟩ (I J r)).alloc (U #[kp (Z ⟨g,0,P⟩) (zg S t p).length cap,B O,B el,I J er,B eu,B ed,I J ef,I J (lv:Int)] 142))=W4 at*;have hY4:w3.heap.size<W4.heap.size:=C _ _ Bo.out.a1;clear rF x0 x1 x2 x3 y0 y1 y2 y3 y4 y5 z0 z1 z2 z3 u0 u1 u2 fU eH nI rT He;generalize Aq:w3.heap.size=Y at*;clear Aq;have fA:=zP p (lv:Int);rw[fI]at fA;have aT:=jo O el r eu ed ef (lv:Int);have lw:Hid (0<=Pg.enc O el r eu ed ef (lv:Int)/\Pg.enc O el r eu ed ef (lv:Int)<18446744073709551616):=Pg.ykH _ _ _ _ _ _ _;generalize Gx:Pg.enc O el r eu ed ef (lv:Int)=v at*;have ME:Hid _:=Gx;clear Gx;generalize Pg.yht O el r eu ed ef (lv:Int)=fl at*;generalize Ou:Pg.ix p lv=i at*;have EU:Hid _:=Ou;clear Ou;generalize S.word tn i=W at*;generalize (zg S t p).length=len at*;obtain⟨j,rfl⟩:∃j,len=j+1:=⟨len-1,by omega⟩;rw[Nat.add_sub_cancel]at Bo
   have i0:(0:Int)<=(tn:Int):=by omega
   have i1:(tn:Int)<(S.n:Int):=by omega
   have i2:(0:Int)<=(i:Int):=by omega
   have i3:(i:Int)<8:=by omega
   have i4:(0:Int)<=(j:Int):=by omega
   have i5:(j:Int)<(j:Int)+1:=by omega
   have i6:((j+1:Nat):Int)-1=(j:Int):=by omega
   have n0:¬g0=b:=HX.out.raw.n0;have KM:¬b=g0:=fun e=>n0 e.symm;have ngg:¬g0=g:=fun e=>TV e.symm;have i7:IntKind.i64.wrap (j:Int)=(j:Int):=zr (by omega) (by omega);obtain⟨p0,p1,p2,p3,p4,p5,p6,p7,p8,p9,p10,p11,p12,p13,p14,p15,p16,p17,p18,p19,p20⟩:=Bo.out
   go_region_held3 (fun w'=>w'.cell? ⟨b,0,P⟩=Z (K (Z ⟨g0,0,P⟩) S.n S.n)/\w'.cell? ⟨Y,0,P⟩=Z (K (Z ⟨g,0,P⟩) (j+1) cap)/\w'.cell? ⟨Y,7,P⟩=Z (I J (lv:Int))/\w'.cell? ⟨g,j,P⟩=Z (I J (tn:Int))/\w'.cell? ⟨x+1,0,P⟩=Z (B O)/\w'.cell? ⟨x+1,1,P⟩=Z (B el)/\w'.cell? ⟨x+1,2,P⟩=Z (I J r)/\w'.cell? ⟨x+1,3,P⟩=Z (B eu)/\w'.cell? ⟨x+1,4,P⟩=Z (B ed)/\w'.cell? ⟨x+1,5,P⟩=Z (I J ef)) (go_keep) (first
    | (go_at_call 104;refine(fA _).mono ?_;rintro e w5 ⟨rfl,rA⟩
       have tu:Hid (Below W4.heap.size W4 w5):=zT (zR W4).drew rA;have Uu:Hid _:=Bo.out.later tu.out;obtain⟨q0,q1,q2,q3,q4,q5,q6,q7,q8,q9,q10,q11,q12,q13,q14,q15,q16,q17,q18,q19,q20⟩:=Uu.out
       clear rA)
    | (go_at_call 108;refine(aT _).mono ?_;rintro e w6 ⟨rfl,H7⟩
       have fw:Hid (Below w5.heap.size w5 w6):=H7;have Ii:Hid _:=Uu.out.later fw.out;obtain⟨o0,o1,o2,o3,o4,o5,o6,o7,o8,o9,o10,o11,o12,o13,o14,o15,o16,o17,o18,o19,o20⟩:=Ii.out
       clear H7))
   have r0:¬x=g0:=fun e=>KO e.symm;have r1:¬w.heap.size=g0:=fun e=>KQ e.symm
   have hat:S.at' (tn:Int) (i:Int)=O:=by
    have:=WW.out.hasT;simp only[Pg.Fs.at',this,uv,ur,decide_eq_true_eq];exact⟨i2,i3⟩
   have fin:Hid (∀a0 a1 a2 a3:Value,zj (((((w6.setCell ⟨g0,tn*8+i,P⟩ (I ks v)).setCell ⟨w.heap.size,0,P⟩ a0).setCell ⟨w.heap.size,1,P⟩ a1).setCell ⟨w.heap.size,2,P⟩ a2).setCell ⟨w.heap.size,3,P⟩ a3) b g0 g1 vm (S.store (tn:Int) (i:Int) v)/\But (xc b g0 g1 vm) w (((((w6.setCell ⟨g0,tn*8+i,P⟩ (I ks v)).setCell ⟨w.heap.size,0,P⟩ a0).setCell ⟨w.heap.size,1,P⟩ a1).setCell ⟨w.heap.size,2,P⟩ a2).setCell ⟨w.heap.size,3,P⟩ a3)):=by
    intro a0 a1 a2 a3;have B6:Below w.heap.size w w6:=zT (zT rM.out tu.out) fw.out;have M6:=HX.out.grow B6
    have hS:S.store (tn:Int) (i:Int) v={S with word:=Pg.Fs.put S.word tn i v}:=by simp[Pg.Fs.store,hat]
    have M7:zj (w6.setCell ⟨g0,tn*8+i,P⟩ (I ks v)) b g0 g1 vm (S.store (tn:Int) (i:Int) v):=⟨by rw[hS];exact M6.raw.put mX fJ v,M6.ok.store _ _ lw.out.1 lw.out.2⟩
    have hF:∀k,xc b g0 g1 vm k->¬k=w.heap.size:=fun k hk=>by have:=HX.out.raw.lt hk;omega
    refine⟨M7.keep (F:=fun k=>k=w.heap.size) ?_ hF,?_⟩
    ·iterate 4 refine But.setCell ?_ (by first|exact .inr rfl) _
     exact But.refl _ _
    ·iterate 4 refine But.setCell ?_ (by exact .inl (un _)) _
     refine But.setCell ?_ (by exact .inr (.inr (.inl rfl))) _;exact But.yhp B6
   clear hat HX WW rM tu fw
   go_wp2_with fail
   refine bodyPost_ret (v:=D #[q #[I J lp,I J ls,I J lf,I J r],I J 0]) ?_ rfl ⟨rfl,?_⟩
   ·simp[results,Tryz.results99,go_sem,o14,o15,o16,o17,r0,r1,KO,KQ]
   ·rw[EU.out,ME.out]
    exact fin.out _ _ _ _
  ·have e2:Pg.prM S t p r= .zz:=by rw[Pg.prM,e1,if_neg hc]
   have e3:Pg.prS S t p r=S:=by rw[Pg.prS,e1,if_neg hc]
   rw[e1,e2,e3]
   have e4:Pg.tFM S t p= .zz:=by rw[Pg.tFM,if_neg hc]
   have e5:Pg.tFE S t p=Pg.En.zero:=by rw[Pg.tFE,if_neg hc]
   rw[e4,e5]at HF;clear h e1 e2 e3 e4 e5 hr;generalize Pg.tFC S t p=c at*;have Ta:∀o,Calls L 29 #[kO (Z ⟨b,0,P⟩),I J t,I J p] (w.alloc o) fun e w'=>e=M (D #[q #[I J 0,I J 0,I J 0,I J 0],q #[B Q,B Q,I J 0,B Q,B Q,I J 0],I J c])/\Below (w.alloc o).heap.size (w.alloc o) w':=HF;clear HF
   go_enter Tryz.func99,Tryz.ntmps99
   go_wp2_with fail
   refine(Ta _).mono ?_;rintro e w1 ⟨rfl,Ha⟩;have hr:∀o,w1.cell? ⟨w.heap.size,o,P⟩=_:=fun o=>Ha.cell (p:=⟨w.heap.size,o,P⟩) (by simp);have hf:∀o,w1.frozen? ⟨w.heap.size,o,P⟩=_:=fun o=>Ha.frozen (p:=⟨w.heap.size,o,P⟩) (by simp);have hB:Hid (Below w.heap.size w w1):=zT (zA (zR _) _) Ha
   have cK:w.heap.size<w1.heap.size:=by have:=Ha.size;simp at this;omega
   have mH:¬w.heap.size=w1.heap.size:=by omega
   clear Ha Ta
   go_wp2_with fail
   refine bodyPost_ret (v:=D #[q #[I J 0,I J 0,I J 0,I J 0],I J c]) ?_ rfl ⟨rfl,?_⟩
   ·simp[results,Tryz.results99,go_sem,hr,cK,mH]
   ·have Dq:=zA (zA (zp hB.out w.heap.size (un _) (I J 0) (I J 0) (I J 0) (I J 0)) (U #[I J 0,I J 0,I J 0,I J 0] 39)) (U #[B Q,B Q,I J 0,B Q,B Q,I J 0] 70)
    exact⟨HX.out.grow Dq,But.yhp Dq⟩
theorem zj.word {w:ki} {b g0 g1:Nat} {vm:Value} {S:Pg.Fs} (h:zj w b g0 g1 vm S) {tn i:Nat} (ht:S.has (tn:Int)=O) (hi:i<8) {v:Int} (lw:0<=v) (l8:v<18446744073709551616):zj (w.setCell ⟨g0,tn*8+i,P⟩ (I ks v)) b g0 g1 vm (S.store (tn:Int) (i:Int) v):=by
 have hat:S.at' (tn:Int) (i:Int)=O:=by
  simp only[Pg.Fs.at',ht,uv,ur,decide_eq_true_eq];omega
 have hS:S.store (tn:Int) (i:Int) v={S with word:=Pg.Fs.put S.word tn i v}:=by simp[Pg.Fs.store,hat]
 have hn:tn<S.n:=by have:=h.ok.yhK ht;omega
 exact⟨by rw[hS];exact h.raw.put hn hi v,h.ok.store _ _ lw l8⟩
theorem ydU (p:Int) (s:Nat) (S:Pg.Fs) (t:Int):Pg.insW p s s S t=(S,t):=by
 cases s with
 | zero=>rfl
 | succ s=>simp[Pg.insW]
theorem ydV (p:Int) (s m:Nat) (S:Pg.Fs) (t:Int) (h:s<=m):Pg.insW p s (m+1) S t=Pg.insW p s m (S.take.store t (Pg.index p ((m+1:Nat):Int)) (Pg.enc O Q 7 Q Q S.takeN ((m+1:Nat):Int))) S.takeN:=by
 rw[Pg.insW,if_neg (by omega)]
structure yfV (W5 wr:ki) (b g0 g1:Nat) (vm vi:Value) (S Si:Pg.Fs) (p:Int) (sn lv pW:Nat) (tl:Int) (ti:Nat):Prop where
 mem:zj wr b g0 g1 vi Si
 but:But (xc b g0 g1 vm) W5 wr
 own:vi.ownBlock=vm.ownBlock
 ins:Pg.insW p sn pW Si (ti:Int)=Pg.insW p sn lv S tl
 has:Si.has (ti:Int)=O
 free:(pW:Int)-(sn:Int)<=Si.free
theorem yb2 {b g0 g1:Nat} {vm:Value} {S:Pg.Fs} (t:Int) (m:Pg.Mp) (w:ki) (h:zj w b g0 g1 vm S):
 Calls L 97 #[kO (Z ⟨b,0,P⟩),I J t,m.val] w fun en w'=>en=M (I J (Pg.insC S t m))/\∃oF,zj w' b g0 g1 oF (Pg.insS S t m)/\But (xc b g0 g1 vm) w w'/\oF.ownBlock=vm.ownBlock:=by
 obtain⟨p,s,f,r⟩:=m;have HC:=qW p s f r;have eC:Pg.Mp.code ⟨p,s,f,r⟩=Pg.check p s f r:=rfl;rw[<-eC]at HC;simp only[Pg.Mp.val];have H:Hid _:=h;obtain⟨W1,rG⟩:∃W1,W1=w.alloc (U #[I J p,I J s,I J f,I J r] 39):=⟨_,rfl⟩
 have pJ:Below w.heap.size w W1:=by rw[rG];exact zA (zR w) _
 have r4:W1.cell? ⟨w.heap.size,0,P⟩=Z (I J p)/\W1.cell? ⟨w.heap.size,1,P⟩=Z (I J s)/\W1.cell? ⟨w.heap.size,2,P⟩=Z (I J f)/\W1.cell? ⟨w.heap.size,3,P⟩=Z (I J r):=by rw[rG];simp[go_sem]
 have H9:Hid _:=pJ;obtain⟨x0,x1,x2,x3⟩:=r4;have dX:Hid (∀w',Below w.heap.size w w'->∃oF,zj w' b g0 g1 oF S/\But (xc b g0 g1 vm) w w'/\oF.ownBlock=vm.ownBlock):=fun w' hb=>⟨vm,H.out.grow hb,But.yhp hb,rfl⟩;have HW:=fun w2 (hb:Below w.heap.size w w2)=>jO t p w2 (h.grow hb);clear pJ eC
 by_cases hc:Pg.Mp.code ⟨p,s,f,r⟩=0
 ·rw[hc]at HC
  by_cases hz:xQ S t p=0
  ·obtain⟨Y,sp,lv,hY,W,lu,kU,DL,dm,dI⟩:=jc hz
   have hs:0<=s/\s<=2:=by
    have kK:Pg.check p s f r=0:=hc
    have gF:Pg.span s≠0:=by
     intro e;rw[Pg.check,if_pos e]at kK;omega
    unfold Pg.span at gF
    by_cases h0:s=0
    ·omega
    ·by_cases h1:s=1
     ·omega
     ·by_cases h2:s=2
      ·omega
      ·simp[h0,h1,h2]at gF
   obtain⟨sn,rfl⟩:=y hs.1
   have pR:sn<=2:=by omega
   have eI:Pg.insC S t ⟨p,sn,f,r⟩=if sp.e.t=O\/(lv:Int)<(sn:Int)then 4 else if S.free<(lv:Int)-(sn:Int)then 6 else 0:=by
    rw[Pg.insC,if_neg (by simp[hc]),if_neg (by simp[hz]),hY,W.yhu,W.yhw]
   have eS:Pg.insS S t ⟨p,sn,f,r⟩=if Pg.insC S t ⟨p,sn,f,r⟩=0 then(Pg.insW p sn lv S sp.table).1.store (Pg.insW p sn lv S sp.table).2 (Pg.index p (sn:Int)) (Pg.enc O O r Q Q f (sn:Int))else S:=by
    rw[Pg.insS,hY,W.yhw,W.lastT];rfl
   have uA:∀W',Below w.heap.size w W'->Calls L 71 #[kO (Z ⟨b,0,P⟩),I J t,I J p] W' fun e w'=>(∃ad cap,e=M (D #[q #[K ad (Y.length+1) cap,B sp.e.t,B sp.e.l,I J sp.e.r,B sp.e.u,B sp.e.d,I J sp.e.f,I J (lv:Int)],I J 0])/\zx w' ad (tabs (Y++[sp]))/\∀g,ad=Z ⟨g,0,P⟩->W'.heap.size<=g)/\Below W'.heap.size W' w':=by
    intro W' TE;refine(HW W' TE).mono ?_;rintro e w' ⟨⟨ad,cap,he,hi⟩,hb,pO⟩;rw[hY]at hi;refine⟨⟨ad,cap,?_,hi,fun g hg=>pO g _ _ _ (by rw[he,hg])⟩,hb⟩;rw[he,hz,hY];simp only[yaE,W.yhu,W.yhw,z,A]
   have kR:=h.ok.yle;have BC:=fun w2 (hb:Below w.heap.size w w2)=>vS w2 (h.grow hb);have hasT:=W.hasT
   have il:lv+(Y.length+1)=4:=by have:=W.len;rw[z,A]at this;exact this
   have mg:(tabs (Y++[sp])).getD Y.length 0=sp.table:=by simp[tabs]
   have WJ:(tabs (Y++[sp])).length=Y.length+1:=by rw[xC];simp
   have uF:=W.below;clear hc hz W hY lu dm dI h hs HW;generalize tabs (Y++[sp])=T at*;generalize Y.length=N at*;obtain⟨st,_,_,_,⟨et,el,er,eu,ed,ef⟩⟩:=sp;simp only at eI eS uA hasT mg;clear Y;generalize Pg.insC S t ⟨p,sn,f,r⟩=ic at*;generalize Pg.insS S t ⟨p,sn,f,r⟩=iS at*
   by_cases hE:et=O\/(lv:Int)<(sn:Int)
   ·rw[if_pos hE]at eI
    rw[eI,if_neg (by decide)]at eS;rw[eI,eS];clear eI eS;cases et
    ·have Ls:(lv:Int)<(sn:Int):=by
      rcases hE with h|h
      ·cases h
      ·exact h
     clear hE
     go_enter Tryz.func97,Tryz.ntmps97
     go_wp2_with fail
     rw[<-rG];clear rG;refine(HC _).mono ?_;rintro en w2 ⟨rfl,Hd⟩;have y0:=cell_later Hd x0;have y1:=cell_later Hd x1;have y2:=cell_later Hd x2;have y3:=cell_later Hd x3;have Ht:Hid (Below w.heap.size w w2):=zT H9.out Hd;clear Hd HC x0 x1 x2 x3
     go_wp2_with fail
     refine(uA _ Ht.out).mono ?_;rintro en w3 ⟨⟨ad,cap,rfl,hi,pO⟩,He⟩;have z0:=cell_later He y0;have z1:=cell_later He y1;have z2:=cell_later He y2;have z3:=cell_later He y3;have uI:w.heap.size<w3.heap.size:=C _ _ z0;have rE:Hid (Below w.heap.size w w3):=zT Ht.out He
     have tL:¬w.heap.size=w3.heap.size:=by omega
     clear He uA y0 y1 y2 y3
     go_wp2_with fail
     go_ret
     exact⟨rfl,dX.out _ (zA rE.out _)⟩
    ·clear hE
     go_enter Tryz.func97,Tryz.ntmps97
     go_wp2_with fail
     rw[<-rG];clear rG;refine(HC _).mono ?_;rintro en w2 ⟨rfl,Hd⟩;have y0:=cell_later Hd x0;have y1:=cell_later Hd x1;have y2:=cell_later Hd x2;have y3:=cell_later Hd x3;have Ht:Hid (Below w.heap.size w w2):=zT H9.out Hd;clear Hd HC x0 x1 x2 x3
     go_wp2_with fail
     refine(uA _ Ht.out).mono ?_;rintro en w3 ⟨⟨ad,cap,rfl,hi,pO⟩,He⟩;have z0:=cell_later He y0;have z1:=cell_later He y1;have z2:=cell_later He y2;have z3:=cell_later He y3;have uI:w.heap.size<w3.heap.size:=C _ _ z0;have rE:Hid (Below w.heap.size w w3):=zT Ht.out He
     have tL:¬w.heap.size=w3.heap.size:=by omega
     clear He uA y0 y1 y2 y3
     go_wp2_with fail
     go_ret
     exact⟨rfl,dX.out _ (zA rE.out _)⟩
   ·rw[if_neg hE]at eI
    have NR:et=Q:=by
     cases et
     ·rfl
     ·exact absurd (.inl rfl) hE
    have fe:sn<=lv:=by omega
    subst NR;clear hE
    have UK:decide ((lv:Int)<(sn:Int))=Q:=by simp;omega
    have Dk:decide (lv<sn)=Q:=by simp;omega
    have Cs:IntKind.i64.wrap ((lv:Int)-(sn:Int))=(lv:Int)-(sn:Int):=zr (by omega) (by omega)
    by_cases hfu:S.free<(lv:Int)-(sn:Int)
    ·rw[if_pos hfu]at eI
     rw[eI,if_neg (by decide)]at eS;rw[eI,eS];clear eI eS
     go_enter Tryz.func97,Tryz.ntmps97
     go_wp2_with fail
     rw[<-rG];clear rG;refine(HC _).mono ?_;rintro en w2 ⟨rfl,Hd⟩;have y0:=cell_later Hd x0;have y1:=cell_later Hd x1;have y2:=cell_later Hd x2;have y3:=cell_later Hd x3;have Ht:Hid (Below w.heap.size w w2):=zT H9.out Hd;clear Hd HC x0 x1 x2 x3
     go_wp2_with fail
     refine(uA _ Ht.out).mono ?_;rintro en w3 ⟨⟨ad,cap,rfl,hi,pO⟩,He⟩;have z0:=cell_later He y0;have z1:=cell_later He y1;have z2:=cell_later He y2;have z3:=cell_later He y3;have uI:w.heap.size<w3.heap.size:=C _ _ z0;have rE:Hid (Below w.heap.size w w3):=zT Ht.out He
     have tL:¬w.heap.size=w3.heap.size:=by omega
     clear He uA y0 y1 y2 y3
     go_wp2_with fail
     try simp only[UK,Dk]
     obtain⟨W4,rF⟩:∃W4,W4=w3.alloc (U #[K ad (N+1) cap,B Q,B el,I J er,B eu,B ed,I J ef,I J (lv:Int)] 142):=⟨_,rfl⟩
     have Hl:Below w3.heap.size w3 W4:=by rw[rF];exact zA (zR _) _
     have c0:W4.cell? ⟨w3.heap.size,0,P⟩=Z (K ad (N+1) cap):=by rw[rF];simp[go_sem]
     have c7:W4.cell? ⟨w3.heap.size,7,P⟩=Z (I J (lv:Int)):=by rw[rF];simp[go_sem]
     have q0:=cell_later Hl z0;have q1:=cell_later Hl z1;have q2:=cell_later Hl z2;have q3:=cell_later Hl z3;have N9:=hi.below Hl;have rM:Hid (Below w.heap.size w W4):=zT rE.out Hl;have mV:w3.heap.size<W4.heap.size:=C _ _ c0;have ni:=fun W' (hb:Below W4.heap.size W4 W')=>BC W' (zT rM.out hb);rw[<-rF];clear rF Hl hi z0 z1 z2 z3 BC
     go_region_held3 (fun w'=>w'.cell? ⟨w3.heap.size,7,P⟩=Z (I J (lv:Int))/\w'.cell? ⟨w.heap.size,1,P⟩=Z (I J (sn:Int))) (go_keep) (
      (go_at_call 22;refine(ni _ (by first|exact(zR W4).drew|exact zR W4)).mono ?_;rintro en w5 ⟨rfl,rA⟩
       have tu:Hid (Below W4.heap.size W4 w5):=zT (zR W4).drew rA;have u7:=cell_later tu.out c7;have u1:=cell_later tu.out q1
       clear rA))
     go_wp2_with fail
     go_ret
     exact⟨rfl,dX.out _ (zT rM.out tu.out)⟩
    ·rw[if_neg hfu]at eI
     rw[eI,if_pos rfl]at eS;rw[eI,eS];clear eI eS
     have dd1:decide (S.free<(lv:Int)-(sn:Int))=Q:=by simp;omega
     go_enter Tryz.func97,Tryz.ntmps97
     go_wp2_with fail
     rw[<-rG];clear rG;refine(HC _).mono ?_;rintro en w2 ⟨rfl,Hd⟩;have y0:=cell_later Hd x0;have y1:=cell_later Hd x1;have y2:=cell_later Hd x2;have y3:=cell_later Hd x3;have Ht:Hid (Below w.heap.size w w2):=zT H9.out Hd;clear Hd HC x0 x1 x2 x3
     go_wp2_with fail
     refine(uA _ Ht.out).mono ?_;rintro en w3 ⟨⟨ad,cap,rfl,hi,pO⟩,He⟩;have z0:=cell_later He y0;have z1:=cell_later He y1;have z2:=cell_later He y2;have z3:=cell_later He y3;have uI:w.heap.size<w3.heap.size:=C _ _ z0;have rE:Hid (Below w.heap.size w w3):=zT Ht.out He
     have tL:¬w.heap.size=w3.heap.size:=by omega
     clear He uA y0 y1 y2 y3
     go_wp2_with fail
     try simp only[UK,Dk]
     obtain⟨W4,rF⟩:∃W4,W4=w3.alloc (U #[K ad (N+1) cap,B Q,B el,I J er,B eu,B ed,I J ef,I J (lv:Int)] 142):=⟨_,rfl⟩
     have Hl:Below w3.heap.size w3 W4:=by rw[rF];exact zA (zR _) _
     have c0:W4.cell? ⟨w3.heap.size,0,P⟩=Z (K ad (N+1) cap):=by rw[rF];simp[go_sem]
     have c7:W4.cell? ⟨w3.heap.size,7,P⟩=Z (I J (lv:Int)):=by rw[rF];simp[go_sem]
     have q0:=cell_later Hl z0;have q1:=cell_later Hl z1;have q2:=cell_later Hl z2;have q3:=cell_later Hl z3;have N9:=hi.below Hl;have rM:Hid (Below w.heap.size w W4):=zT rE.out Hl;have mV:w3.heap.size<W4.heap.size:=C _ _ c0;have ni:=fun W' (hb:Below W4.heap.size W4 W')=>BC W' (zT rM.out hb);rw[<-rF];clear rF Hl hi z0 z1 z2 z3 BC
     go_region_held3 (fun w'=>w'.cell? ⟨w3.heap.size,7,P⟩=Z (I J (lv:Int))/\w'.cell? ⟨w.heap.size,1,P⟩=Z (I J (sn:Int))) (go_keep) (
      (go_at_call 22;refine(ni _ (by first|exact(zR W4).drew|exact zR W4)).mono ?_;rintro en w5 ⟨rfl,rA⟩
       have tu:Hid (Below W4.heap.size W4 w5):=zT (zR W4).drew rA;have u7:=cell_later tu.out c7;have u1:=cell_later tu.out q1
       clear rA))
     have u0:=cell_later tu.out c0;obtain⟨g,rfl,hg5,fU⟩:=(N9.below tu.out) N (by omega);rw[mg]at fU;obtain⟨t0,t1,_⟩:=H.out.ok.yhK hasT;obtain⟨tn,rfl⟩:=y t0
     have i4:(0:Int)<=(N:Int):=by omega
     have i5:(N:Int)<(N:Int)+1:=by omega
     have B5:Hid (Below w.heap.size w w5):=zT rM.out tu.out;have X5:Hid (w5.cell? ⟨w.heap.size,0,P⟩=Z (I J p)/\w5.cell? ⟨w.heap.size,1,P⟩=Z (I J (sn:Int))/\w5.cell? ⟨w.heap.size,2,P⟩=Z (I J f)/\w5.cell? ⟨w.heap.size,3,P⟩=Z (I J r)):=⟨cell_later tu.out q0,u1,cell_later tu.out q2,cell_later tu.out q3⟩;have M5:Hid _:=H.out.grow B5.out;have Lv:w.heap.size<w5.heap.size:=C _ _ X5.out.1;have uK:Hid (∀j,xc b g0 g1 vm j->j<w.heap.size):=fun j hj=>H.out.raw.lt hj;have HT:Hid _:=hasT;clear hasT q0 q1 q2 q3 c0 c7 ni tu rM N9 pO
     go_wp2_with fail
     try simp only[dd1]
     clear u7 u1 u0 fU
     go_loopw [10,11] (fun tv KI wr=>∃(pW:Nat) (Si:Pg.Fs) (ti:Nat) (vi:Value),sn<=pW/\pW<=lv/\tv=I J (ti:Int)/\KI=I J (pW:Int)/\Hid (yfV w5 wr b g0 g1 vm vi S Si p sn lv pW (tn:Int) ti)) (fun _ KI _=>(intOf KI).toNat)
     case atStart=>exact⟨lv,S,tn,vm,fe,un _,rfl,rfl,M5.out,But.refl _ _,rfl,rfl,HT.out,by omega⟩
     case round=>
      obtain⟨pW,Si,ti,vi,h1,h2,rfl,rfl,HI⟩:=hrel
      have bM:wr.heap[w.heap.size]?=w5.heap[w.heap.size]?:=HI.out.but.block _ Lv fun h=>by have:=uK.out _ h;omega
      have b0:=(V bM).trans X5.out.1;have b1:=(V bM).trans X5.out.2.1;have b2:=(V bM).trans X5.out.2.2.1;have b3:=(V bM).trans X5.out.2.2.2;have Lx:w.heap.size<wr.heap.size:=C _ _ b0
      have OH:Hid (∀j,xc b g0 g1 vi j->xc b g0 g1 vm j):=fun j hj=>by unfold xc at hj ⊢;rw[HI.out.own]at hj;exact hj
      have NY:¬g0=w.heap.size:=by have:=uK.out g0 (.inr (.inl rfl));omega
      have ND:¬b=w.heap.size:=by have:=uK.out b (.inl rfl);omega
      have mh:¬w.heap.size=g0:=fun e=>NY e.symm;have hxb:¬w.heap.size=b:=fun e=>ND e.symm;clear bM
      by_cases FO:sn<pW
      ·obtain⟨lm,rfl⟩:∃lm,pW=lm+1:=⟨pW-1,by omega⟩
       have j1:(sn:Int)<((lm+1:Nat):Int):=by omega
       obtain⟨kn,sW,tC,bP,mG,bQ,sP,wG⟩:=Pg.ykm HI.out.mem.ok (by have:=HI.out.free;omega);have MB:=jC wr HI.out.mem
       have e10:Hid (Pg.insW p sn lm (Si.take.store (ti:Int) (Pg.index p ((lm+1:Nat):Int)) (Pg.enc O Q 7 Q Q (kn:Int) ((lm+1:Nat):Int))) (kn:Int)=Pg.insW p sn lv S (tn:Int)):=by rw[Hid,<-tC,<-ydV p sn lm Si ti (by omega)];exact HI.out.ins
       rw[tC]at MB;have fI:Pg.index p ((lm+1:Nat):Int)=(Pg.ix p (lm+1):Nat):=Pg.yhE uF (by omega);have fJ:Pg.ix p (lm+1)<8:=Pg.yid _ _;have oC:=bQ _ HI.out.has;have PS:=HI.out.free;have lF:Hid _:=oC;have Rf:Hid _:=mG
       have CS:Hid (((lm:Nat):Int)-(sn:Int)<=Si.take.free):=by rw[Hid,sP];omega
       have fA:=zP p ((lm+1:Nat):Int);have aT:=jo O Q 7 Q Q (kn:Int) ((lm+1:Nat):Int);have lw:Hid (0<=Pg.enc O Q 7 Q Q (kn:Int) ((lm+1:Nat):Int)/\Pg.enc O Q 7 Q Q (kn:Int) ((lm+1:Nat):Int)<18446744073709551616):=Pg.ykH _ _ _ _ _ _ _;rw[fI]at fA e10;generalize Pg.enc O Q 7 Q Q (kn:Int) ((lm+1:Nat):Int)=v at*;generalize Pg.yht O Q 7 Q Q (kn:Int) ((lm+1:Nat):Int)=fl at*;generalize Pg.ix p (lm+1)=i at*;generalize Si.take=S2 at*;clear sW tC bP mG bQ sP wG oC PS fI
       go_wp2_with fail
       refine MB.mono ?_;rintro en w6 ⟨rfl,KY,kW,H7,OT⟩;have M6:Hid _:=kW;have B6:Hid (But (xc b g0 g1 vm) w5 w6):=HI.out.but.trans H7 fun j _ hj=>OH.out j hj;have O6:Hid (KY.ownBlock=vm.ownBlock):=OT.trans HI.out.own
       have DZ:w6.heap[w.heap.size]?=wr.heap[w.heap.size]?:=H7.block _ Lx fun h=>by have:=uK.out _ (OH.out _ h);omega
       have d0:=(V DZ).trans b0;have rT:=kW.raw.c0;obtain⟨_,Kr,_⟩:=kW.ok.yhK lF.out
       have Pw:ti<S2.n:=by omega
       have eH:=kW.raw.cw ti i Pw fJ;have nI:=kW.raw.f0;have gL:=kW.ok.small
       have i0:(0:Int)<=(ti:Int):=by omega
       have i1:(ti:Int)<(S2.n:Int):=by omega
       have i2:(0:Int)<=(i:Int):=by omega
       have i3:(i:Int)<8:=by omega
       have n0:¬g0=b:=kW.raw.n0;have KM:¬b=g0:=fun e=>n0 e.symm;have lx6:w.heap.size<w6.heap.size:=C _ _ d0;have lb6:b<w6.heap.size:=kW.raw.lb;have Sq:g0<w6.heap.size:=kW.raw.l0;clear kW H7 OT DZ MB b0 b1 b2 b3 HI;generalize S2.word ti i=wo at*
       go_wp2_with fail
       go_region_held3 (fun w'=>w'.cell? ⟨b,0,P⟩=Z (K (Z ⟨g0,0,P⟩) S2.n S2.n)/\w'.cell? ⟨w.heap.size,0,P⟩=Z (I J p)) (go_keep) (first
        | (go_at_call 104;refine(fA _).mono ?_;rintro e w7 ⟨rfl,tq⟩
           have pg:Hid (Below w6.heap.size w6 w7):=zT (zR w6).drew tq;have s0:=cell_later pg.out rT;have s1:=cell_later pg.out d0
           clear tq)
        | (go_at_call 108;refine(aT _).mono ?_;rintro e w8 ⟨rfl,su⟩
           have dL:Hid (Below w6.heap.size w6 w8):=zT pg.out su;have v0:=cell_later dL.out rT;have v1:=cell_later dL.out d0;have v2:=cell_later dL.out eH;have v3:∀o,w8.frozen? ⟨g0,o,P⟩=Q:=fun o=>(dL.out.frozen (p:=⟨g0,o,P⟩) Sq).trans (nI o)
           clear su))
       have fin:Hid (yfV w5 (w8.setCell ⟨g0,ti*8+i,P⟩ (I ks v)) b g0 g1 vm KY S (S2.store (ti:Int) (i:Int) v) p sn lv lm (tn:Int) kn):=by
        have M8:=(M6.out.grow dL.out).word lF.out fJ lw.out.1 lw.out.2;refine⟨M8,?_,O6.out,e10.out,by rw[Pg.yh9];exact Rf.out,by rw[Pg.yjh];exact CS.out⟩;refine But.setCell ?_ (by exact .inr (.inr (.inl rfl))) _;exact B6.out.trans (But.yhp (F:=fun _=>False) dL.out) fun _ _ h=>h.elim
       have iq:(1:Int)<=((lm+1:Nat):Int):=by omega
       go_wp2_with fail
       exact⟨⟨lm,_,kn,KY,by omega,by omega,rfl,by go_num,fin.out⟩,by simp[intOf]⟩
      ·have Fp:pW=sn:=by omega
       subst Fp
       have j1:¬(pW:Int)<(pW:Int):=by omega
       have nJ:=HI.out.ins;rw[ydU]at nJ;have uT:Hid _:=nJ;have fI:Pg.index p (pW:Int)=(Pg.ix p pW:Nat):=Pg.yhE uF (by omega);have fJ:Pg.ix p pW<8:=Pg.yid _ _;have fA:=zP p (pW:Int);have aT:=jo O O r Q Q f (pW:Int);have lw:Hid (0<=Pg.enc O O r Q Q f (pW:Int)/\Pg.enc O O r Q Q f (pW:Int)<18446744073709551616):=Pg.ykH _ _ _ _ _ _ _
       have Da:Hid ((Pg.insW p pW lv S (tn:Int)).1.store (Pg.insW p pW lv S (tn:Int)).2 (Pg.index p (pW:Int)) (Pg.enc O O r Q Q f (pW:Int))=Si.store (ti:Int) (Pg.ix p pW:Nat) (Pg.enc O O r Q Q f (pW:Int))):=by rw[Hid,<-nJ,fI]
       rw[fI]at fA;generalize Gx:Pg.enc O O r Q Q f (pW:Int)=v at*;have ME:Hid _:=Gx;clear Gx;generalize Pg.yht O O r Q Q f (pW:Int)=fl at*;generalize Pg.ix p pW=i at*;have M6:Hid _:=HI.out.mem;have B6:Hid _:=HI.out.but;have O6:Hid _:=HI.out.own;have lF:Hid _:=HI.out.has;have rT:=HI.out.mem.raw.c0;obtain⟨_,Kr,_⟩:=HI.out.mem.ok.yhK lF.out
       have Pw:ti<Si.n:=by omega
       have eH:=HI.out.mem.raw.cw ti i Pw fJ;have nI:=HI.out.mem.raw.f0;have gL:=HI.out.mem.ok.small
       have i0:(0:Int)<=(ti:Int):=by omega
       have i1:(ti:Int)<(Si.n:Int):=by omega
       have i2:(0:Int)<=(i:Int):=by omega
       have i3:(i:Int)<8:=by omega
       have n0:¬g0=b:=HI.out.mem.raw.n0;have KM:¬b=g0:=fun e=>n0 e.symm;have lb6:b<wr.heap.size:=HI.out.mem.raw.lb;have Sq:g0<wr.heap.size:=HI.out.mem.raw.l0;clear nJ HI fI;generalize Si.word ti i=wo at*
       go_wp2_with fail
       go_region_held3 (fun w'=>w'.cell? ⟨b,0,P⟩=Z (K (Z ⟨g0,0,P⟩) Si.n Si.n)/\w'.cell? ⟨w.heap.size,0,P⟩=Z (I J p)/\w'.cell? ⟨w.heap.size,1,P⟩=Z (I J (pW:Int))/\w'.cell? ⟨w.heap.size,2,P⟩=Z (I J f)/\w'.cell? ⟨w.heap.size,3,P⟩=Z (I J r)) (go_keep) (first
        | (go_at_call 104;refine(fA _).mono ?_;rintro e w7 ⟨rfl,tq⟩
           have pg:Hid (Below wr.heap.size wr w7):=zT (zR wr).drew tq;have s0:=cell_later pg.out rT;have s1:=cell_later pg.out b0;have s2:=cell_later pg.out b1;have s3:=cell_later pg.out b2;have s4:=cell_later pg.out b3
           clear tq)
        | (go_at_call 108;refine(aT _).mono ?_;rintro e w8 ⟨rfl,su⟩
           have dL:Hid (Below wr.heap.size wr w8):=zT pg.out su;have v0:=cell_later dL.out rT;have v1:=cell_later dL.out b0;have v2:=cell_later dL.out b1;have v3:=cell_later dL.out b2;have v4:=cell_later dL.out b3;have v5:=cell_later dL.out eH;have v6:∀o,w8.frozen? ⟨g0,o,P⟩=Q:=fun o=>(dL.out.frozen (p:=⟨g0,o,P⟩) Sq).trans (nI o)
           clear su))
       have fin:Hid (zj (w8.setCell ⟨g0,ti*8+i,P⟩ (I ks v)) b g0 g1 vi (Si.store (ti:Int) (i:Int) v)/\But (xc b g0 g1 vm) w (w8.setCell ⟨g0,ti*8+i,P⟩ (I ks v))/\vi.ownBlock=vm.ownBlock):=by
        refine⟨(M6.out.grow dL.out).word lF.out fJ lw.out.1 lw.out.2,?_,O6.out⟩;refine But.setCell ?_ (by exact .inr (.inr (.inl rfl))) _;exact((But.yhp B5.out).trans B6.out fun _ _ h=>h).trans (But.yhp (F:=fun _=>False) dL.out) fun _ _ h=>h.elim
       go_wp2_with fail
       go_ret
       refine⟨rfl,vi,?_,fin.out.2⟩;rw[ME.out,Da.out];exact fin.out.1
  ·have e1:Pg.insC S t ⟨p,s,f,r⟩=xQ S t p:=by rw[Pg.insC,if_neg (by simp[hc]),if_pos hz]
   have e2:Pg.insS S t ⟨p,s,f,r⟩=S:=by rw[Pg.insS,e1,if_neg hz]
   rw[e1,e2];clear e1 e2 h;generalize xQ S t p=cc at*
   have gW:(cc !=0)=O:=by simp[hz]
   clear hz hc
   go_enter Tryz.func97,Tryz.ntmps97
   go_wp2_with fail
   rw[<-rG];clear rG;refine(HC _).mono ?_;rintro en w2 ⟨rfl,Hd⟩;have y0:=cell_later Hd x0;have Ht:Hid (Below w.heap.size w w2):=zT H9.out Hd;clear Hd
   go_wp2_with fail
   refine(HW _ Ht.out).mono ?_;rintro en w3 ⟨⟨ad,cap,rfl,_⟩,He,_⟩;have rE:Hid (Below w.heap.size w w3):=zT Ht.out He;clear He;unfold yaE
   go_wp2_with fail
   go_ret
   exact⟨rfl,dX.out _ (zA rE.out _)⟩
 ·have e1:Pg.insC S t ⟨p,s,f,r⟩=Pg.Mp.code ⟨p,s,f,r⟩:=by rw[Pg.insC,if_pos hc]
  have e2:Pg.insS S t ⟨p,s,f,r⟩=S:=by rw[Pg.insS,e1,if_neg hc]
  rw[e1,e2];clear e1 e2 h HW;generalize Pg.Mp.code ⟨p,s,f,r⟩=cc at*
  have gW:(cc !=0)=O:=by simp[hc]
  clear hc
  go_enter Tryz.func97,Tryz.ntmps97
  go_wp2_with fail
  rw[<-rG];clear rG;refine(HC _).mono ?_;rintro en w2 ⟨rfl,Hd⟩;have Ht:Hid (Below w.heap.size w w2):=zT H9.out Hd;clear Hd
  go_wp2_with fail
  go_ret
  exact⟨rfl,dX.out _ Ht.out⟩
attribute [local go_sem] Loose.gent yeb
structure ybc (w:ki) (b g0 g1:Nat) (vm:Value) (S':Pg.Fs) (m:Pg.Mp) (G:List Int) (c:Int) (en:Ending) (w':ki):Prop where
 body:∃ad cap,en=M (D #[m.val,K ad G.length cap,I J c])/\zx w' ad G/\zj w' b g0 g1 vm S'/\But (xc b g0 g1 vm) w w'/\∀g,ad=Z ⟨g,0,P⟩->w.heap.size<=g
structure yfX (W5 wr:ki) (b g0 g1:Nat) (vm:Value) (Si:Pg.Fs) (T:List Int) (k:Nat) (p:Int) (vg:Value) (Gi:List Int) (R:Pg.Fs×List Int):Prop where
 mem:zj wr b g0 g1 vm Si
 but:But (xc b g0 g1 vm) W5 wr
 own:wr.ownsRow W5.heap.size 3 1 vg Gi.length (xG Gi)
 has:∀x,x ∈ T->Si.has x=O
 rest:Pg.rmW p T (k+1) Si Gi=R
theorem ya5 {w W6 W8 w9:ki} {b g0 g1:Nat} {vm:Value} {S S':Pg.Fs} {Gi:List Int} {ga:Option Addr} {gc:Nat} (H:zj w b g0 g1 vm S) (B6:Below w.heap.size w W6) (M8:zj W8 b g0 g1 vm S') (B8:But (xc b g0 g1 vm) W6 W8) (O8:W8.ownsRow W6.heap.size 3 1 (K ga Gi.length gc) Gi.length (xG Gi)) (hb:Below W8.heap.size W8 w9) (cO:w.heap.size<W6.heap.size) (a0 a1 a2 a3:Value) (m:Pg.Mp) (c:Int):
 ybc w b g0 g1 vm S' m Gi c (M (D #[m.val,K ga Gi.length gc,I J c])) ((((w9.setCell ⟨w.heap.size,0,P⟩ a0).setCell ⟨w.heap.size,1,P⟩ a1).setCell ⟨w.heap.size,2,P⟩ a2).setCell ⟨w.heap.size,3,P⟩ a3):=by
 have gD:But (fun j=>j=w.heap.size) W8 ((((w9.setCell ⟨w.heap.size,0,P⟩ a0).setCell ⟨w.heap.size,1,P⟩ a1).setCell ⟨w.heap.size,2,P⟩ a2).setCell ⟨w.heap.size,3,P⟩ a3):=by
  iterate 4 refine But.setCell ?_ (by exact .inr rfl) _
  exact But.yhp hb
 refine⟨ga,gc,rfl,?_,M8.keep gD fun j hj e=> ?_,?_,fun g hg=> ?_⟩
 ·exact qG (cap:=gc) (n:=Gi.length) (zc O8 gD fun j hj e=>by have:=(O8.lt j hj).1;omega)
 ·have:=H.raw.lt hj;omega
 ·exact((But.yhp B6).trans B8 fun _ _ h=>h).trans gD fun i hi e=>by omega
 ·subst hg
  have:=(O8.lt g rfl).1;omega
theorem ydh (S:Pg.Fs) (tn:Nat):yfS (S.word tn 0) (S.word tn 1) (S.word tn 2) (S.word tn 3) (S.word tn 4) (S.word tn 5) (S.word tn 6) (S.word tn 7)=Pg.yhy S (tn:Int):=by
 unfold yfS Pg.yhy;simp[List.range,List.range.loop]
theorem yaB {b g0 g1:Nat} {vm:Value} {S:Pg.Fs} (t p:Int) (w:ki) (h:zj w b g0 g1 vm S):
 Calls L 98 #[kO (Z ⟨b,0,P⟩),I J t,I J p] w fun en w'=>ybc w b g0 g1 vm (Pg.rmR S t p).1 (Pg.tFM S t p) (Pg.rmR S t p).2 (Pg.tFC S t p) en w':=by
 have H:Hid _:=h;obtain⟨W1,rG⟩:∃W1,W1=w.alloc (U #[I J 0,I J 0,I J 0,I J 0] 39):=⟨_,rfl⟩
 have pJ:Below w.heap.size w W1:=by rw[rG];exact zA (zR w) _
 have r4:W1.cell? ⟨w.heap.size,0,P⟩=Z (I J 0)/\W1.cell? ⟨w.heap.size,1,P⟩=Z (I J 0)/\W1.cell? ⟨w.heap.size,2,P⟩=Z (I J 0)/\W1.cell? ⟨w.heap.size,3,P⟩=Z (I J 0):=by rw[rG];simp[go_sem]
 have kg:∀o,W1.frozen? ⟨w.heap.size,o,P⟩=Q:=fun o=>by rw[rG];simp[go_sem]
 have mE:Hid _:=r4;have sQ:Hid _:=kg;have H9:Hid _:=pJ;have cO:w.heap.size<W1.heap.size:=C _ _ r4.1;have bL:=yaU t p W1 (h.grow pJ)
 by_cases hc:Pg.tFC S t p=0
 ·have hz:xQ S t p=0:=by
   by_cases hz:xQ S t p=0
   ·exact hz
   ·rw[Pg.tFC,if_pos hz]at hc
    exact absurd hc hz
  obtain⟨Y,s,lv,hY,W,lu,kU,DL,dm,dI⟩:=jc hz;have pu:=W.has
  have il:lv+(Y.length+1)=4:=by have:=W.len;rw[z,A]at this;exact this
  have uF:=W.below
  have eR:Pg.rmR S t p=Pg.rmW p (tabs (Y++[s])) (Y.length+1) S []:=by rw[Pg.rmR,if_pos hc,hY];simp
  have Lj:(tabs (Y++[s])).length=Y.length+1:=by rw[xC];simp
  have uA:∀W',Below w.heap.size w W'->Calls L 71 #[kO (Z ⟨b,0,P⟩),I J t,I J p] W' fun e w'=>(∃ad cap,e=M (D #[q #[K ad (Y.length+1) cap,B s.e.t,B s.e.l,I J s.e.r,B s.e.u,B s.e.d,I J s.e.f,I J (lv:Int)],I J 0])/\zx w' ad (tabs (Y++[s]))/\∀g,ad=Z ⟨g,0,P⟩->W'.heap.size<=g)/\Below W'.heap.size W' w':=by
   intro W' TE;refine(jO t p W' (h.grow TE)).mono ?_;rintro e w' ⟨⟨ad,cap,he,hi⟩,hb,pO⟩;rw[hY]at hi;refine⟨⟨ad,cap,?_,hi,fun g hg=>pO g _ _ _ (by rw[he,hg])⟩,hb⟩;rw[he,hz,hY];simp only[yaE,W.yhu,W.yhw,z,A]
  rw[hc,eR];rw[hc]at bL;clear hc hz W hY lu dm dI h eR r4 kg pJ;generalize tabs (Y++[s])=T at*;generalize Y.length=N at*;generalize s.e=e at*;generalize Pg.tFM S t p=mm at*;generalize Pg.tFE S t p=ee at*;obtain⟨mp,ms,mf,mr⟩:=mm;obtain⟨et,el,er,eu,ed,ef⟩:=e;obtain⟨IW,IU,IV,IX,IQ,IR⟩:=ee;simp only[Pg.Mp.val,Pg.En.val]at bL;simp only at uA
  go_enter Tryz.func98,Tryz.ntmps98
  go_wp2_with fail
  rw[<-rG];clear rG;refine bL.mono ?_;rintro en w3 ⟨rfl,He⟩;have rE:Hid (Below W1.heap.size W1 w3):=He;clear He bL
  go_wp2_with fail
  obtain⟨W4,rF⟩:∃W4,W4=(w3.alloc (U #[I J mp,I J ms,I J mf,I J mr] 39)).alloc (U #[B IW,B IU,I J IV,B IX,B IQ,I J IR] 70):=⟨_,rfl⟩
  have Hl:Below w3.heap.size w3 W4:=by rw[rF];exact zA (zA (zR _) _) _
  have m4:W4.cell? ⟨w3.heap.size,0,P⟩=Z (I J mp)/\W4.cell? ⟨w3.heap.size,1,P⟩=Z (I J ms)/\W4.cell? ⟨w3.heap.size,2,P⟩=Z (I J mf)/\W4.cell? ⟨w3.heap.size,3,P⟩=Z (I J mr):=by rw[rF];simp[go_sem]
  have rM:Hid (Below W1.heap.size W1 W4):=zT rE.out Hl;have M4:Hid _:=m4;rw[<-rF];clear rF Hl m4;refine(uA _ (zT H9.out rM.out)).mono ?_;rintro en w5 ⟨⟨ad,cap,rfl,hi,pO⟩,rA⟩;have tu:Hid (Below W4.heap.size W4 w5):=rA;clear rA uA;obtain⟨W6,gU⟩:∃W6,W6=w5.alloc (U #[K ad (N+1) cap,B et,B el,I J er,B eu,B ed,I J ef,I J (lv:Int)] 142):=⟨_,rfl⟩
  have H7:Below w5.heap.size w5 W6:=by rw[gU];exact zA (zR _) _
  have c0:W6.cell? ⟨w5.heap.size,0,P⟩=Z (K ad (N+1) cap):=by rw[gU];simp[go_sem]
  have La:=hi.below H7;have fw:Hid (Below W4.heap.size W4 W6):=zT tu.out H7;have B6:Hid (Below w.heap.size w W6):=zT H9.out (zT rM.out fw.out);have Z6:Hid _:=xH (zT rM.out fw.out) mE.out;have UH:Hid (∀o,W6.frozen? ⟨w.heap.size,o,P⟩=Q):=fun o=>((zT rM.out fw.out).frozen (p:=⟨w.heap.size,o,P⟩) cO).trans (sQ.out o);have M6:Hid _:=xH fw.out M4.out;have Ox:w5.heap.size<W6.heap.size:=C _ _ c0;have FI:w3.heap.size<W6.heap.size:=C _ _ M6.out.1;have uK:Hid (∀j,xc b g0 g1 vm j->j<w.heap.size):=fun j hj=>H.out.raw.lt hj;obtain⟨g,rfl,oo,_⟩:=La N (by omega);have Oq:=pO g rfl;have hs13:W1.heap.size<=w3.heap.size:=rE.out.size
  have hs14:w3.heap.size<=w5.heap.size:=by have h1:=C _ _ M4.out.1;have h2:=tu.out.size;simp only at h1;omega
  have hs44:W1.heap.size<=W4.heap.size:=rM.out.size;have ET:Hid (zx W6 (Z ⟨g,0,P⟩) T):=La;have C0:Hid _:=c0;generalize hR:Pg.rmW p T (N+1) S []=R at*;have bH:Hid _:=hR;have CX:Hid _:=pu
  have hNI:((N+1:Nat):Int)-1=(N:Int):=by omega
  clear hR pu hi H7 pO mE sQ rE tu
  go_wp2_with fail
  rw[<-gU];clear gU
  go_wp2_with fail
  clear c0 La
  go_loopw [14,15] (fun vg kv wr=>∃(kk:Nat) (Si:Pg.Fs) (Gi:List Int),Gi.length+kk=N/\kv=I J (kk:Int)/\Hid (yfX W6 wr b g0 g1 vm Si T kk p vg Gi R)) (fun _ kv _=>(intOf kv).toNat)
  case atStart=>exact⟨N,S,[],by simp,by simp,H.out.grow B6.out,But.refl _ _,World.ownsRow_nil _ _ _ _,CX.out,bH.out⟩
  case round=>
   obtain⟨kk,Si,Gi,PT,rfl,HI⟩:=hrel
   have k0:(0:Int)<=(kk:Int):=by omega
   obtain⟨ga,gc,Ky⟩:=zF HI.out.own;subst Ky
   have sU:T.getD kk 0 ∈ T:=by
    have:kk<T.length:=by omega
    simp[List.getD,this]
   have BU:=HI.out.has _ sU;obtain⟨t0,t1,_⟩:=HI.out.mem.ok.yhK BU;obtain⟨tn,mX⟩:=y t0;obtain⟨g',eg,_,FB⟩:=ET.out kk (by omega);cases eg
   have nF:∀j,w.heap.size<=j->¬xc b g0 g1 vm j:=fun j hj h=>by have:=uK.out j h;omega
   have dC:wr.heap[w5.heap.size]?=W6.heap[w5.heap.size]?:=HI.out.but.block _ Ox (nF _ (by omega));have DW:wr.heap[g]?=W6.heap[g]?:=HI.out.but.block _ oo (nF _ (by omega));have y0:=(V dC).trans C0.out;have y1:=(V DW).trans FB;rw[mX]at BU y1 t1
   have fI:Pg.index p (3-(kk:Int))=(Pg.ix p (3-kk):Nat):=by rw[show(3-(kk:Int))=((3-kk:Nat):Int) by omega];exact Pg.yhE uF (by omega)
   have fJ:Pg.ix p (3-kk)<8:=Pg.yid _ _;have fA:=zP p (3-(kk:Int));rw[fI]at fA;have bA:=HI.out.rest;rw[ybx,mX,fI]at bA;have Mq:Hid _:=bA;have Mx:Hid _:=mX;generalize Pg.ix p (3-kk)=i at*;have uO:IntKind.i64.wrap (3-(kk:Int))=3-(kk:Int):=zr (by omega) (by omega);have rT:=HI.out.mem.raw.c0
   have mg:tn<Si.n:=by omega
   have eH:=HI.out.mem.raw.cw tn i mg fJ;have nI:=HI.out.mem.raw.f0;have gL:=HI.out.mem.ok.small
   have i0:(0:Int)<=(tn:Int):=by omega
   have i1:(tn:Int)<(Si.n:Int):=by omega
   have i2:(0:Int)<=(i:Int):=by omega
   have i3:(i:Int)<8:=by omega
   have i4:(kk:Int)<(N:Int)+1:=by omega
   have n0:¬g0=b:=HI.out.mem.raw.n0;have KM:¬b=g0:=fun e=>n0 e.symm;have AZ:g0<w.heap.size:=uK.out g0 (.inr (.inl rfl));have AC:b<w.heap.size:=uK.out b (.inl rfl)
   have e1:¬g0=g:=by omega
   have e2:¬g=g0:=by omega
   have e3:¬g0=w5.heap.size:=by omega
   have e4:¬w5.heap.size=g0:=by omega
   have Sq:g0<wr.heap.size:=HI.out.mem.raw.l0;have lF:Hid _:=BU;clear dC DW FB bA BU fI t0 t1 nF mX;generalize Si.word tn i=wo at*
   go_wp2_with fail
   go_region_held3 (fun w'=>w'.cell? ⟨b,0,P⟩=Z (K (Z ⟨g0,0,P⟩) Si.n Si.n)/\w'.cell? ⟨w5.heap.size,0,P⟩=Z (K (Z ⟨g,0,P⟩) (N+1) cap)/\w'.cell? ⟨g,kk,P⟩=Z (I J (tn:Int))) (go_keep) (
    (go_at_call 104;refine(fA _).mono ?_;rintro e w7 ⟨rfl,tq⟩
     have pg:Hid (Below wr.heap.size wr w7):=zT (zR wr).drew tq;have s0:=cell_later pg.out rT;have s1:=cell_later pg.out y0;have s2:=cell_later pg.out y1;have s3:=cell_later pg.out eH;have s4:∀o,w7.frozen? ⟨g0,o,P⟩=Q:=fun o=>(pg.out.frozen (p:=⟨g0,o,P⟩) Sq).trans (nI o)
     clear tq))
   have M8:Hid (zj (w7.setCell ⟨g0,tn*8+i,P⟩ (I ks 0)) b g0 g1 vm (Si.store (tn:Int) (i:Int) 0)):=(HI.out.mem.grow pg.out).word lF.out fJ (by decide) (by decide)
   have B8:Hid (But (xc b g0 g1 vm) W6 (w7.setCell ⟨g0,tn*8+i,P⟩ (I ks 0))):=by
    refine But.setCell ?_ (by exact .inr (.inr (.inl rfl))) _;exact HI.out.but.trans (But.yhp (F:=fun _=>False) pg.out) fun _ _ h=>h.elim
   have O8:Hid ((w7.setCell ⟨g0,tn*8+i,P⟩ (I ks 0)).ownsRow W6.heap.size 3 1 (K ga Gi.length gc) Gi.length (xG Gi)):=by
    have hb:But (fun j=>j=g0) wr (w7.setCell ⟨g0,tn*8+i,P⟩ (I ks 0)):=by
     refine But.setCell ?_ (by exact .inr rfl) _;exact But.yhp pg.out
    exact zc HI.out.own hb fun j hj e=>by have:=(HI.out.own.lt j hj).1;omega
   have S8:Hid (∀x,x ∈ T->(Si.store (tn:Int) (i:Int) 0).has x=O):=fun x hx=>by rw[Pg.yh9];exact HI.out.has x hx
   have LH:(Si.store (tn:Int) (i:Int) 0).n=Si.n:=(Pg.yif _ _ _ _).1;have Ib:Hid _:=LH
   have j0:(w7.setCell ⟨g0,tn*8+i,P⟩ (I ks 0)).cell? ⟨b,0,P⟩=Z (K (Z ⟨g0,0,P⟩) Si.n Si.n):=by have:=M8.out.raw.c0;rw[LH]at this;exact this
   have j1:(w7.setCell ⟨g0,tn*8+i,P⟩ (I ks 0)).cell? ⟨w5.heap.size,0,P⟩=Z (K (Z ⟨g,0,P⟩) (N+1) cap):=by simp[go_sem,s1,e3]
   have j2:(w7.setCell ⟨g0,tn*8+i,P⟩ (I ks 0)).cell? ⟨g,kk,P⟩=Z (I J (tn:Int)):=by simp[go_sem,s2,e1]
   go_wp2_with fail
   generalize (w7.setCell ⟨g0,tn*8+i,P⟩ (I ks 0))=W8 at*;generalize Si.store (tn:Int) (i:Int) 0=S' at*;clear s0 s1 s2 s3 s4 HI pg rT eH nI y0 y1 Sq fA LH
   by_cases Ca:kk=0
   ·have Wn:((kk:Int)==0)=O:=by simp[Ca]
    have dM:Hid (R=(S',Gi)):=by rw[Hid,<-Mq.out,ja,if_pos (by left;omega)]
    have dC:W8.heap[w.heap.size]?=W6.heap[w.heap.size]?:=B8.out.block _ (by omega) fun h=>by have:=uK.out _ h;omega
    have sS:W8.heap[w3.heap.size]?=W6.heap[w3.heap.size]?:=B8.out.block _ FI fun h=>by have:=uK.out _ h;omega
    have z0:=(V dC).trans Z6.out.1;have z1:=(V dC).trans Z6.out.2.1;have z2:=(V dC).trans Z6.out.2.2.1;have z3:=(V dC).trans Z6.out.2.2.2;have zf:∀o,W8.frozen? ⟨w.heap.size,o,P⟩=Q:=fun o=>(kh dC).trans (UH.out o);have m0:=(V sS).trans M6.out.1;have m1:=(V sS).trans M6.out.2.1;have m2:=(V sS).trans M6.out.2.2.1;have m3:=(V sS).trans M6.out.2.2.2;have fin:Hid (∀nq,ybc w b g0 g1 vm S' ⟨mp,ms,mf,mr⟩ Gi 0 (M (D #[(Pg.Mp.mk mp ms mf mr).val,K ga Gi.length gc,I J 0])) (((((W8.drewN nq).setCell ⟨w.heap.size,0,P⟩ (I J mp)).setCell ⟨w.heap.size,1,P⟩ (I J ms)).setCell ⟨w.heap.size,2,P⟩ (I J mf)).setCell ⟨w.heap.size,3,P⟩ (I J mr))):=fun nq=>ya5 H.out B6.out M8.out B8.out O8.out (below_drewN (zR _) nq) (by omega) _ _ _ _ ⟨mp,ms,mf,mr⟩ 0;clear dC sS
    go_quiet (fail)
    go_wp2_with fail
    refine bodyPost_ret (v:=D #[q #[I J mp,I J ms,I J mf,I J mr],K ga Gi.length gc,I J 0]) ?_ rfl ?_
    ·simp[results,Tryz.results98,go_sem,z0,z1,z2,z3]
    ·rw[bH.out,dM.out]
     exact fin.out _
   ·have Wn:((kk:Int)==0)=Q:=by simp[Ca]
    have nV:tn<S'.n:=by rw[Ib.out];exact mg
    have w0:W8.cell? ⟨g0,tn*8,P⟩=_:=M8.out.raw.cw tn 0 nV (by omega);have w1:=M8.out.raw.cw tn 1 nV (by omega);have w2:=M8.out.raw.cw tn 2 nV (by omega);have w3':=M8.out.raw.cw tn 3 nV (by omega);have w4:=M8.out.raw.cw tn 4 nV (by omega);have w5':=M8.out.raw.cw tn 5 nV (by omega);have w6:=M8.out.raw.cw tn 6 nV (by omega);have w7':=M8.out.raw.cw tn 7 nV (by omega);have Eg:=ydh S' tn;generalize S'.word tn 0=q0 at*;generalize S'.word tn 1=q1 at*;generalize S'.word tn 2=q2 at*;generalize S'.word tn 3=q3 at*;generalize S'.word tn 4=q4 at*;generalize S'.word tn 5=q5 at*;generalize S'.word tn 6=q6 at*;generalize S'.word tn 7=q7 at*;cases uG:Pg.yhy S' (tn:Int)
    ·have dM:Hid (R=(S',Gi)):=by rw[Hid,<-Mq.out,ja,if_pos (by right;rw[show kk+1-1=kk from rfl,Mx.out];exact uG)]
     rw[uG]at Eg
     have dC:W8.heap[w.heap.size]?=W6.heap[w.heap.size]?:=B8.out.block _ (by omega) fun h=>by have:=uK.out _ h;omega
     have sS:W8.heap[w3.heap.size]?=W6.heap[w3.heap.size]?:=B8.out.block _ FI fun h=>by have:=uK.out _ h;omega
     have z0:=(V dC).trans Z6.out.1;have z1:=(V dC).trans Z6.out.2.1;have z2:=(V dC).trans Z6.out.2.2.1;have z3:=(V dC).trans Z6.out.2.2.2;have zf:∀o,W8.frozen? ⟨w.heap.size,o,P⟩=Q:=fun o=>(kh dC).trans (UH.out o);have m0:=(V sS).trans M6.out.1;have m1:=(V sS).trans M6.out.2.1;have m2:=(V sS).trans M6.out.2.2.1;have m3:=(V sS).trans M6.out.2.2.2;have fin:Hid (∀nq,ybc w b g0 g1 vm S' ⟨mp,ms,mf,mr⟩ Gi 0 (M (D #[(Pg.Mp.mk mp ms mf mr).val,K ga Gi.length gc,I J 0])) (((((W8.drewN nq).setCell ⟨w.heap.size,0,P⟩ (I J mp)).setCell ⟨w.heap.size,1,P⟩ (I J ms)).setCell ⟨w.heap.size,2,P⟩ (I J mf)).setCell ⟨w.heap.size,3,P⟩ (I J mr))):=fun nq=>ya5 H.out B6.out M8.out B8.out O8.out (below_drewN (zR _) nq) (by omega) _ _ _ _ ⟨mp,ms,mf,mr⟩ 0;clear dC sS
     go_quiet (fail)
     go_wp2_with fail
     refine bodyPost_ret (v:=D #[q #[I J mp,I J ms,I J mf,I J mr],K ga Gi.length gc,I J 0]) ?_ rfl ?_
     ·simp[results,Tryz.results98,go_sem,z0,z1,z2,z3]
     ·rw[bH.out,dM.out]
      exact fin.out _
    ·rw[uG]at Eg
     obtain⟨m,wH⟩:∃m,kk=m+1:=⟨kk-1,by omega⟩
     have oO:Hid (Pg.rmW p T (m+1) S' (Gi++[(tn:Int)])=R):=by
      rw[Hid,<-Mq.out,ja,if_neg (by
       intro hh;rcases hh with h|h
       ·omega
       ·rw[show kk+1-1=kk from rfl,Mx.out,uG]at h;cases h)]
      rw[show kk+1-1=kk from rfl,Mx.out,wH]
     have Wl:(kk:Int)-1=(m:Int):=by omega
     have Uq:Hid _:=wH;clear wH
     have hgl:Gi.length+1<=4:=by omega
     have iq:(1:Int)<=(kk:Int):=by omega
     go_quiet (fail)
     have nR:(W8.drewN nq).ownsRow W6.heap.size 3 1 (K ga Gi.length gc) Gi.length (xG Gi):=zl O8.out (below_drewN (zR _) nq);have hs69:W6.heap.size<=W8.heap.size:=B8.out.size;obtain⟨p0,hq,rW,rZ,rX⟩:=info_parts ji
     go_wp2_with (first
      | (at_builtin;refine wpList_append_lies _ rfl _ _ 45 rfl W6.heap.size 3 p0 (I J 0) 1 8 Tryz.underlying45 hq rW rZ rX rfl (by decide) _ _ _ rfl (nR.alloc _) ⟨W8.heap.size,0,P⟩ 1 1 [I J (tn:Int)] rfl rfl ?c1 ?c2 (by decide) ?c3 ?c4 ?c5 (W8.heap.size+1) (by simp) ?_))
     case c1=>
      intro j u hj;exact World.news_of_block (cs:=#[I J (tn:Int)]) (heap_alloc_new (W8.drewN nq) _) j u hj
     case c2=>intro u hu;simp at hu;subst hu;rfl
     case c3=>unfold maxLen;omega
     case c4=>omega
     case c5=>simp;omega
     intro g9 dN w9 iE bg wz Pe;have PG:But (fun j=>(kp ga Gi.length gc).ownBlock=Z j) W8 w9:=(But.yhp (zA (below_drewN (zR W8) nq) _)).grown bg fun k hk=> .inr hk
     have fin:Hid (yfX W6 w9 b g0 g1 vm S' T m p (K (Z ⟨g9,0,P⟩) (Gi.length+1) dN) (Gi++[(tn:Int)]) R):=by
      have Hf:∀j,(kp ga Gi.length gc).ownBlock=Z j->W6.heap.size<=j:=fun j hj=>(O8.out.lt j hj).1;refine⟨M8.out.keep PG fun j hj e=> ?_,B8.out.trans PG fun i hi h=> ?_,?_,S8.out,oO.out⟩
      ·have:=Hf j e
       have:=uK.out j hj;have:=B6.out.size;omega
      ·have:=Hf i h;omega
      ·rw[z,A,jH]
       exact iE
     clear nR iE bg wz Pe PG
     go_wp2_with fail
     exact⟨⟨m,_,Gi++[(tn:Int)],by have:=Uq.out;simp;omega,by first|go_num|simp[Wl]|rfl,fin.out⟩,by have:=Uq.out;simp[intOf];omega⟩
 ·have e2:Pg.tFM S t p= .zz:=by rw[Pg.tFM,if_neg hc]
  have e4:Pg.tFE S t p=Pg.En.zero:=by rw[Pg.tFE,if_neg hc]
  have e3:Pg.rmR S t p=(S,[]):=by rw[Pg.rmR,if_neg hc]
  rw[e2,e3];rw[e2,e4]at bL;clear h e2 e3 r4 kg pJ e4;generalize Pg.tFC S t p=cc at*
  have gW:(cc !=0)=O:=by simp[hc]
  clear hc;have SG:Calls L 29 #[kO (Z ⟨b,0,P⟩),I J t,I J p] W1 fun e w'=>e=M (D #[q #[I J 0,I J 0,I J 0,I J 0],q #[B Q,B Q,I J 0,B Q,B Q,I J 0],I J cc])/\Below W1.heap.size W1 w':=bL;clear bL
  go_enter Tryz.func98,Tryz.ntmps98
  go_wp2_with fail
  rw[<-rG];clear rG;refine SG.mono ?_;rintro en w3 ⟨rfl,He⟩;obtain⟨y0,y1,y2,y3⟩:=xH He mE.out;have yf:∀o,w3.frozen? ⟨w.heap.size,o,P⟩=Q:=fun o=>(He.frozen (p:=⟨w.heap.size,o,P⟩) cO).trans (sQ.out o);have rE:Hid (Below w.heap.size w w3):=zT H9.out He;have kU:w.heap.size<w3.heap.size:=C _ _ y0
  have lX:¬w.heap.size=w3.heap.size:=by omega
  clear He SG
  go_wp2_with fail
  have Du:=zA (zA (zp rE.out w.heap.size (un _) (I J 0) (I J 0) (I J 0) (I J 0)) (U #[I J 0,I J 0,I J 0,I J 0] 39)) (U #[B Q,B Q,I J 0,B Q,B Q,I J 0] 70);refine bodyPost_ret (v:=D #[q #[I J 0,I J 0,I J 0,I J 0],K P 0 0,I J cc]) ?_ rfl ?_
  ·simp[results,Tryz.results98,go_sem,y0,y1,y2,y3,kU,lX]
  ·exact⟨P,0,rfl,fun j hj=>absurd hj (by simp),H.out.grow Du,But.yhp Du,fun g hg=>by cases hg⟩
end Go.Proofs.YtdphiompijbelaaGreat
