import Derived.Test.YtdphiompijbelaaGreatBookDel
import Derived.Deep.RegionWith
import Derived.Deep.RegionHeld3
set_option linter.all false
set_option maxRecDepth 100000
open Go.Obj renaming cells->uv
open List renaming length_append->un,length_drop->ue,length_take->yS,length_set->yC
open Nat renaming lt_of_lt_of_le->E,le_refl->kh
open Bool renaming false->O,true->K
open Go renaming bodyPost_ret->Q,cell_later->Z,World->X,Calls->z,cell_regrown->kO,heap_alloc_new->ur,Value->yB
open Go.World renaming frozen?_of_block->T,cell?_of_block->U,news_of_block->uc,cell?_setCell_same->ua,block_lt_of_cell?->yI,ownsRow_nil->yP,frozen?->yR,ownsRow->yN
open Go.Ending renaming returned->Y
open Go.Proofs.Tryz renaming prog->N
open Go.RowKit renaming Hid->C
open Option renaming none->B,some->S
open Go.Value renaming int->J,slice->R,bool->D,agg->A,pointer->ki,ownBlock->kp,tuple->ud,slice->yJ,int->yY
open Go.IntKind renaming i64->I
set_option maxHeartbeats 4000000
namespace Go.Proofs.YtdphiompijbelaaGreat
open Go.RowKit
section
open Go.Sort
structure qJ (w:X) (b:Nat) (L:List Pg.Mp) (F:Nat->Prop):Prop where
 ex:∃vb,Dbk w b vb L/\F=bkF b vb
section
variable {w w':X} {b:Nat} {L:List Pg.Mp} {F G:Nat->Prop}
theorem qJ.lt (h:qJ w b L F) {k:Nat} (hk:F k):k<w.heap.size:=by
 obtain⟨vb,h,rfl⟩:=h;exact h.lt hk
theorem qJ.keep (h:qJ w b L F) (hb:But G w w') (hF:∀k,F k->¬G k):qJ w' b L F:=by
 obtain⟨vb,h,rfl⟩:=h;exact⟨vb,h.keep hb hF,rfl⟩
end
theorem ygf {w:X} {vb:yB} {L:List Pg.Mp} {t:TypeId} (hr:w.ownsRow 0 39 4 vb L.length (zC L)) (hg:Pg.Good L):Dbk (w.alloc (uv #[vb] t)) w.heap.size vb L:=by
 have hb:=ur w (uv #[vb] t);refine⟨cell_of_row _ _ 0 _ _ _ hb,fun o=>by unfold yR;simp only[hb];simp,hr.alloc _,fun e=> ?_,hg⟩;have:=(hr.lt _ e).2;omega
theorem yeC (w:X):
 z N 73 #[] w fun e w'=>∃b F,e=Y (ki (S ⟨b,0,B⟩))/\qJ w' b [] F/\Lw w w'/\∀k,F k->w.heap.size<=k:=by
 go_enter Tryz.func73,Tryz.ntmps73
 go_wp2
 go_ret
 refine⟨_,_,rfl,⟨R B 0 0,ygf (yP _ _ _ _) Pg.Good.nil,rfl⟩,zA (zR _) _,fun k hk=> ?_⟩;rcases hk with rfl|hk
 ·exact kh _
 ·simp[kp]at hk
section
variable {b:Nat} {L:List Pg.Mp} {F:Nat->Prop}
theorem ydD (w:X) (h:qJ w b L F):
 z N 166 #[ki (S ⟨b,0,B⟩)] w fun e w'=>∃ad cap,e=Y (R ad L.length cap)/\zm w' ad L/\Lw w w'/\∀k,(yJ ad L.length cap).ownBlock=S k->w.heap.size<=k:=by
 obtain⟨vb,h,rfl⟩:=h;have rT:=h.c0;have HC:C _:=ybO w h.row h.good.len;clear h
 go_enter Tryz.func166,Tryz.ntmps166
 go_wp2_with fail
 refine Calls.mono HC.out ?_;rintro e w1 ⟨v',rfl,hr,hb⟩;obtain⟨ad,cap,rfl⟩:=zF hr;have HR:C _:=hr;have HB:C _:=hb;clear hr hb
 go_wp2
 go_ret
 exact⟨ad,cap,rfl,jx HR.out,HB.out,fun k hk=>(yN.lt HR.out k hk).1⟩
theorem ydA (w:X) (h:qJ w b L F):
 z N 162 #[ki (S ⟨b,0,B⟩)] w fun e w'=>∃b' F',e=Y (ki (S ⟨b',0,B⟩))/\qJ w' b' L F'/\Lw w w'/\∀k,F' k->w.heap.size<=k:=by
 obtain⟨vb,h,rfl⟩:=h;have rT:=h.c0;have HG:C _:=h.good;have HC:C _:=ybO w h.row h.good.len;clear h
 go_enter Tryz.func162,Tryz.ntmps162
 go_wp2_with fail
 refine Calls.mono HC.out ?_;rintro e w1 ⟨v',rfl,hr,hb⟩;obtain⟨ad,cap,rfl⟩:=zF hr;have HR:C _:=hr;have HB:C _:=hb;clear hr hb
 go_wp2
 go_ret
 refine⟨_,_,rfl,⟨_,ygf (ybv HR.out) HG.out,rfl⟩,zA HB.out _,fun k hk=> ?_⟩;rcases hk with rfl|hk
 ·exact HB.out.size
 ·exact(yN.lt HR.out k hk).1
theorem ydC (q:Int) (hq:Pg.fits q) (w:X) (h:qJ w b L F):
 z N 195 #[ki (S ⟨b,0,B⟩),J I q] w fun e w'=>e=Y (ud #[(Pg.at' L q).val,D (Pg.fnd L q).isSome])/\Lw w w':=by
 obtain⟨vb,h,rfl⟩:=h;have um:=Pg.ykT h.good q;have HH:=fun o=>jU q hq (w.alloc o) (h.grow (zA (zR _) o));cases hh:Pg.hit L (Pg.lkP q)
 ·have e0:Pg.fnd L q=B:=by rw[um,hh];rfl
  have e1:Pg.at' L q= .zz:=by simp only[Pg.at',e0]
  rw[e0,e1];simp only[hh]at HH;clear h e0 e1 um hh;generalize Pg.cut L (Pg.lkP q)=c at*
  go_enter Tryz.func195,Tryz.ntmps195
  go_wp2_with fail
  refine(HH _).mono ?_;rintro e w1 ⟨rfl,Ha⟩;have hr:∀o,w1.cell? ⟨w.heap.size,o,B⟩=_:=fun o=>Ha.cell (p:=⟨w.heap.size,o,B⟩) (by simp);have hf:∀o,w1.frozen? ⟨w.heap.size,o,B⟩=_:=fun o=>Ha.frozen (p:=⟨w.heap.size,o,B⟩) (by simp);have hB:C (Lw w w1):=zT (zA (zR _) _) Ha;clear Ha HH
  go_wp2
  refine Q (v:=ud #[A #[J I 0,J I 0,J I 0,J I 0],D O]) ?_ rfl ⟨rfl,?_⟩
  ·simp[results,Tryz.results195,go_sem,hr]
  ·exact zu hB.out _ (kh _) _ _ _ _
 ·obtain⟨Hf,_⟩:=Pg.yi0.1 hh
  have e0:Pg.fnd L q=S (Pg.cut L (Pg.lkP q)):=by rw[um,hh];rfl
  have e1:Pg.at' L q=L.getD (Pg.cut L (Pg.lkP q)) .zz:=by simp only[Pg.at',e0]
  rw[e0,e1];simp only[hh]at HH;clear e0 e1 um hh;generalize Pg.cut L (Pg.lkP q)=j at*;obtain⟨g,cap,rfl,hg,mh,dX,sD,lQ⟩:=h.mp Hf;have rT:=h.c0;have rY:=h.lb;have Hg:=h.good.len
  have i0:(0:Int)<=(j:Int):=by omega
  have i1:(j:Int)<(L.length:Int):=by omega
  clear h;generalize L.getD j .zz=m at*;generalize L.length=n at*;obtain⟨mp,ms,mf,mr⟩:=m;simp only at mh dX sD lQ
  go_enter Tryz.func195,Tryz.ntmps195
  go_wp2_with fail
  refine(HH _).mono ?_;rintro e w1 ⟨rfl,Ha⟩;have hr:∀o,w1.cell? ⟨w.heap.size,o,B⟩=_:=fun o=>Ha.cell (p:=⟨w.heap.size,o,B⟩) (by simp);have hf:∀o,w1.frozen? ⟨w.heap.size,o,B⟩=_:=fun o=>Ha.frozen (p:=⟨w.heap.size,o,B⟩) (by simp);have gQ:Lw w w1:=zT (zA (zR _) _) Ha;have hB:C _:=gQ;have c0:=Z gQ rT;have m0:=Z gQ mh;have m1:=Z gQ dX;have m2:=Z gQ sD;have m3:=Z gQ lQ;clear Ha HH gQ rT mh dX sD lQ
  go_wp2
  refine Q (v:=ud #[A #[J I mp,J I ms,J I mf,J I mr],D K]) ?_ rfl ⟨rfl,?_⟩
  ·simp[results,Tryz.results195,go_sem,hr]
  ·exact zu hB.out _ (kh _) _ _ _ _
theorem qQ (q k:Int) (u:Bool) (hq:Pg.fits q) (w:X) (h:qJ w b L F):
 z N 164 #[ki (S ⟨b,0,B⟩),A #[J I q,J I k,D u]] w fun e w'=>
  e=Y (A #[J I (Pg.ansE L q k u),J I (Pg.ansF L q k u),J I (Pg.ansR L q k u)])/\Lw w w':=by
 have HF:=fun o o'=>ydC q hq ((w.alloc o).alloc o') (h.keep (G:=fun _=>False) (But.yhJ (zA (zA (zR _) o) o')) (fun _ _=>id));clear h
 cases hf:Pg.fnd L q with
 | none=>
   have e1:Pg.at' L q= .zz:=by simp only[Pg.at',hf]
   have e2:Pg.ansE L q k u=1:=by simp[Pg.ansE,hf]
   have e3:Pg.ansF L q k u=0:=by simp[Pg.ansF,hf]
   have e4:Pg.ansR L q k u=0:=by simp[Pg.ansR,hf]
   rw[e2,e3,e4];rw[e1,hf]at HF;rw[show(.zz:Pg.Mp).val=A #[J I 0,J I 0,J I 0,J I 0]from rfl]at HF;simp only[Option.isSome_none]at HF;clear e1 e2 e3 e4 hf
   go_enter Tryz.func164,Tryz.ntmps164
   go_wp2_with fail
   refine(HF _ _).mono ?_;rintro e w1 ⟨rfl,Ha⟩;have hr:∀o,w1.cell? ⟨w.heap.size+1,o,B⟩=_:=fun o=>Ha.cell (p:=⟨w.heap.size+1,o,B⟩) (by simp);have hf:∀o,w1.frozen? ⟨w.heap.size+1,o,B⟩=_:=fun o=>Ha.frozen (p:=⟨w.heap.size+1,o,B⟩) (by simp)
   have hs:w.heap.size+1<w1.heap.size:=by have:=Ha.size;simp at this;omega
   have hB:C (Lw w w1):=zT (zA (zA (zR _) _) _) Ha;clear Ha HF
   go_wp2
   refine Q (v:=A #[J I 1,J I 0,J I 0]) ?_ rfl ⟨rfl,?_⟩
   ·simp[results,Tryz.results164,go_sem,hr,hs]
   ·exact zA (((hB.out.setCell (by simp) _).setCell (by simp) _).setCell (by simp) _) _
 | some j=>
   have e1:Pg.at' L q=L.getD j .zz:=by simp only[Pg.at',hf]
   have e2:Pg.ansE L q k u=Pg.aEnd (L.getD j .zz).r k u:=by simp only[Pg.ansE,hf]
   have e3:Pg.ansF L q k u=Pg.yie (L.getD j .zz).p (L.getD j .zz).f (L.getD j .zz).r q k u:=by simp only[Pg.ansF,hf]
   have e4:Pg.ansR L q k u=Pg.yh1 (L.getD j .zz).r k u:=by simp only[Pg.ansR,hf]
   rw[e2,e3,e4];rw[e1,hf]at HF;simp only[Option.isSome_some]at HF;have HA:=jO (L.getD j .zz).p (L.getD j .zz).s (L.getD j .zz).f (L.getD j .zz).r q k u;clear e1 e2 e3 e4 hf;generalize L.getD j .zz=y at*;obtain⟨mp,ms,mf,mr⟩:=y;simp only[Pg.Mp.val]at HF HA ⊢;generalize Pg.aEnd mr k u=x0 at*;generalize Pg.yie mp mf mr q k u=x1 at*;generalize Pg.yh1 mr k u=x2 at*
   go_enter Tryz.func164,Tryz.ntmps164
   go_wp2_with fail
   refine(HF _ _).mono ?_;rintro e w1 ⟨rfl,Ha⟩
   have hs:w.heap.size+1<w1.heap.size:=by have:=Ha.size;simp at this;omega
   have a0:w1.cell? ⟨w.heap.size,0,B⟩=S (J I q):=(Ha.cell (p:=⟨w.heap.size,0,B⟩) (by simp;omega)).trans (by simp[go_sem]);have a1:w1.cell? ⟨w.heap.size,1,B⟩=S (J I k):=(Ha.cell (p:=⟨w.heap.size,1,B⟩) (by simp;omega)).trans (by simp[go_sem]);have a2:w1.cell? ⟨w.heap.size,2,B⟩=S (D u):=(Ha.cell (p:=⟨w.heap.size,2,B⟩) (by simp;omega)).trans (by simp[go_sem]);have hr:∀o,w1.cell? ⟨w.heap.size+1,o,B⟩=_:=fun o=>Ha.cell (p:=⟨w.heap.size+1,o,B⟩) (by simp);have hf:∀o,w1.frozen? ⟨w.heap.size+1,o,B⟩=_:=fun o=>Ha.frozen (p:=⟨w.heap.size+1,o,B⟩) (by simp)
   have hs0:w.heap.size<w1.heap.size:=by omega
   have hB:C (Lw w w1):=zT (zA (zA (zR _) _) _) Ha;clear Ha HF
   go_wp2_with fail
   refine(HA _).mono ?_;rintro e w2 ⟨rfl,Hd⟩
   have pJ:w.heap.size+1<w2.heap.size:=by have:=Hd.size;simp at this;omega
   have tq:∀o,w2.cell? ⟨w.heap.size+1,o,B⟩=_:=fun o=>(Hd.cell (p:=⟨w.heap.size+1,o,B⟩) (by simp;omega)).trans ((Below.cell (p:=⟨w.heap.size+1,o,B⟩) (zA (zR w1) _) hs).trans (hr o));have iI:∀o,w2.frozen? ⟨w.heap.size+1,o,B⟩=_:=fun o=>(Hd.frozen (p:=⟨w.heap.size+1,o,B⟩) (by simp;omega)).trans ((Below.frozen (p:=⟨w.heap.size+1,o,B⟩) (zA (zR w1) _) hs).trans (hf o));have tL:C (Lw w w2):=zT (zA hB.out _) Hd;clear Hd hr hf hB a0 a1 a2 hs hs0 HA
   go_wp2
   refine Q (v:=A #[J I x0,J I x1,J I x2]) ?_ rfl ⟨rfl,?_⟩
   ·simp[results,Tryz.results164,go_sem,tq]
   ·exact((tL.out.setCell (by simp) _).setCell (by simp) _).setCell (by simp) _
end
theorem Dbk.put {w W:X} {b:Nat} {vb v':yB} {L L':List Pg.Mp} (h:Dbk w b vb L) (hb:But (fun j=>vb.ownBlock=S j) w W) (hr:W.ownsRow 0 39 4 v' L'.length (zC L')) (hv:∀j,v'.ownBlock=S j->vb.ownBlock=S j\/w.heap.size<=j) (hg:Pg.Good L'):
 Dbk (W.setCell ⟨b,0,B⟩ v') b v' L'/\But (bkF b vb) w (W.setCell ⟨b,0,B⟩ v')/\(∀k,bkF b v' k->bkF b vb k\/w.heap.size<=k):=by
 have hl:=h.lb;have kb:W.heap[b]?=w.heap[b]?:=hb.block b hl h.nb;have hc:W.cell? ⟨b,0,B⟩=S vb:=(U (a:=⟨b,0,B⟩) kb).trans h.c0;have Ho:v'.ownBlock≠S b:=fun e=>(hv b e).elim h.nb (fun h=>by omega);refine⟨⟨ua _ _ _ hc,fun o=> ?_,?_,Ho,hg⟩,?_,fun k hk=> ?_⟩
 ·have:=(T (a:=⟨b,o,B⟩) kb).trans (h.fb o)
  simpa using this
 ·exact zb hr fun k hk=>Below.heap_setCell _ _ _ _ (fun e=>Ho (by rw[hk];exact congrArg S e))
 ·exact(hb.mono (G:=bkF b vb) fun i _ hi=> .inr hi).setCell (a:=⟨b,0,B⟩) (.inr (.inl rfl)) _
 ·rcases hk with rfl|hk
  ·exact .inl (.inl rfl)
  ·exact(hv k hk).imp .inr id
section
variable {b:Nat} {L:List Pg.Mp} {F:Nat->Prop}
theorem yeB (m:Pg.Mp) (hm:Pg.fits m.p) (w:X) (h:qJ w b L F):
 z N 157 #[ki (S ⟨b,0,B⟩),m.val] w fun e w'=>e=Y (J I (Pg.addC L m))/\∃F',qJ w' b (Pg.addL L m) F'/\But F w w'/\∀k,F' k->F k\/w.heap.size<=k:=by
 obtain⟨vb,h,rfl⟩:=h
 have HK:C (∀w',Lw w w'->Pg.addC L m≠0->∃F',qJ w' b (Pg.addL L m) F'/\But (bkF b vb) w w'/\∀k,F' k->bkF b vb k\/w.heap.size<=k):=fun w' hb hc=>
  ⟨bkF b vb,⟨vb,by rw[Pg.addL,iN hc];exact h.grow hb,rfl⟩,But.yhJ hb,fun _ hk=> .inl hk⟩
 by_cases Hz:m.code=0
 ·have HM:=fun w' hb=>yc0 m hm w' (h.grow (w':=w') hb)
  have uX:=Pg.any_hit h.good Hz;cases hh:Pg.hit L (Pg.lkM m)
  ·have hC:C (Pg.addC L m=0):=by simp only[C,Pg.addC,uX,hh];simp[Hz]
   have hL:C (Pg.addL L m=L.take (Pg.cut L (Pg.lkM m))++m::L.drop (Pg.cut L (Pg.lkM m))):=by
    simp only[C,Pg.addL];rw[iP hC.out];exact Pg.ins_cut h.good hh
   have HI:C (∀(W:X) (V:Nat) (tV:TypeId),Lw w W->w.heap.size<=V->W.heap[V]?=S (uv #[J I m.p,J I m.s,J I m.f,J I m.r] tV)->
    z N 191 #[vb,J I (Pg.cut L (Pg.lkM m)),R (S ⟨V,0,B⟩) 1 1] W fun e w'=>∃ad cap,e=Y (R ad (L.length+1) cap)/\w'.cell? ⟨b,0,B⟩=S vb/\w'.frozen? ⟨b,0,B⟩=O/\
     C (∃F',qJ (w'.setCell ⟨b,0,B⟩ (R ad (L.length+1) cap)) b (Pg.addL L m) F'/\But (bkF b vb) w (w'.setCell ⟨b,0,B⟩ (R ad (L.length+1) cap))/\∀k,F' k->bkF b vb k\/w.heap.size<=k)):=by
    intro W V tV hb hV hVc;have hW:=h.grow hb;refine(ydU W hW.row h.good.len (Pg.ykB _ _) hVc (fun e=>by have:=(h.row.lt _ e).2;omega)).mono ?_;rintro e w' ⟨v',rfl,hr,hB,hv⟩;obtain⟨ad,cap,rfl⟩:=zF hr;have kb:w'.heap[b]?=W.heap[b]?:=hB.block b hW.lb hW.nb
    have Hg:(Pg.addL L m).length=L.length+1:=by
     rw[hL.out];have:=Pg.ykB L (Pg.lkM m);simp only[un,List.length_cons,yS,ue];omega
    have hg:=h.good.add m
    have MX:w'.ownsRow 0 39 4 (R ad (L.length+1) cap) (Pg.addL L m).length (zC (Pg.addL L m)):=by rw[Hg,hL.out];exact hr
    obtain⟨p1,p2,p3⟩:=hW.put hB MX hv hg;refine⟨ad,cap,rfl,(U (a:=⟨b,0,B⟩) kb).trans hW.c0,(T (a:=⟨b,0,B⟩) kb).trans (hW.fb 0),⟨_,⟨_,p1,rfl⟩,?_,fun k hk=> ?_⟩⟩
    ·exact(But.yhJ hb).trans p2 (fun i _ hi=>hi)
    ·exact(p3 k hk).imp id (fun h=>Nat.le_trans hb.size h)
   have rT:=h.c0;have rY:=h.lb;simp only[hh]at HM;rw[hC.out];have kE:Pg.check m.p m.s m.f m.r=0:=Hz;have sP:=zY m.p m.s m.f m.r;rw[kE]at sP;clear h uX hh HK Hz hL hC kE;generalize Pg.cut L (Pg.lkM m)=c at*;generalize Pg.addL L m=L' at*;generalize L.length=n at*;obtain⟨mp,ms,mf,mr⟩:=m;simp only[Pg.Mp.val]at HM ⊢;simp only at HI sP
   go_enter Tryz.func157,Tryz.ntmps157
   go_wp2_with fail
   refine(sP _).mono ?_;rintro e w1 ⟨rfl,Ha⟩;have hx:∀o,w1.cell? ⟨w.heap.size,o,B⟩=_:=fun o=>Ha.cell (p:=⟨w.heap.size,o,B⟩) (by simp);have b1:Lw w w1:=zT (zA (zR _) _) Ha
   have rG:w.heap.size<w1.heap.size:=by have:=Ha.size;simp at this;omega
   clear Ha
   go_wp2_with fail
   refine(HM _ b1).mono ?_;rintro e w2 ⟨rfl,Hd⟩;have z0:w2.cell? ⟨w.heap.size,0,B⟩=S (J I mp):=((Hd.cell (p:=⟨w.heap.size,0,B⟩) rG).trans (hx 0)).trans (by simp[go_sem]);have z1:w2.cell? ⟨w.heap.size,1,B⟩=S (J I ms):=((Hd.cell (p:=⟨w.heap.size,1,B⟩) rG).trans (hx 1)).trans (by simp[go_sem]);have z2:w2.cell? ⟨w.heap.size,2,B⟩=S (J I mf):=((Hd.cell (p:=⟨w.heap.size,2,B⟩) rG).trans (hx 2)).trans (by simp[go_sem]);have z3:w2.cell? ⟨w.heap.size,3,B⟩=S (J I mr):=((Hd.cell (p:=⟨w.heap.size,3,B⟩) rG).trans (hx 3)).trans (by simp[go_sem]);have He:Lw w w2:=zT b1 Hd;have y0:=Z He rT;have Ht:C _:=He;have pJ:w.heap.size<=w2.heap.size:=He.size;have KY:b<w2.heap.size:=E rY pJ;clear hx Hd He b1 rG rT HM sP
   go_wp2_with fail
   have uj:C _:=HI.out ((w2.alloc (uv #[J I mp,J I ms,J I mf,J I mr] 39)).drew) w2.heap.size 39 ((zA Ht.out _).trans ⟨rfl,rfl,rfl,kh _,fun _ _=>rfl⟩) pJ (ur w2 _);clear HI
   go_region_with (go_at_call 191;refine Calls.mono uj.out ?_;rintro e w' ⟨ad,cap,rfl,k0,k1,HF⟩)
   all_goals
    go_wp2
    go_ret
    exact⟨rfl,HF.out⟩
  ·have hC:C (Pg.addC L m=4):=by simp only[C,Pg.addC,uX,hh];simp[Hz]
   have ig:C _:=fun w' hb=>HK.out w' hb (by rw[hC.out];decide);simp only[hh]at HM;rw[hC.out];have kE:Pg.check m.p m.s m.f m.r=0:=Hz;have sP:=zY m.p m.s m.f m.r;rw[kE]at sP;clear h uX hh HK Hz hC kE;generalize Pg.cut L (Pg.lkM m)=c at*;generalize Pg.addL L m=L' at*;obtain⟨mp,ms,mf,mr⟩:=m;simp only[Pg.Mp.val]at HM ⊢;simp only at sP
   go_enter Tryz.func157,Tryz.ntmps157
   go_wp2_with fail
   refine(sP _).mono ?_;rintro e w1 ⟨rfl,Ha⟩;have hx:∀o,w1.cell? ⟨w.heap.size,o,B⟩=_:=fun o=>Ha.cell (p:=⟨w.heap.size,o,B⟩) (by simp);have b1:Lw w w1:=zT (zA (zR _) _) Ha
   have rG:w.heap.size<w1.heap.size:=by have:=Ha.size;simp at this;omega
   clear Ha
   go_wp2_with fail
   refine(HM _ b1).mono ?_;rintro e w2 ⟨rfl,Hd⟩;have Ht:C (Lw w w2):=zT b1 Hd;clear hx Hd b1 rG HM sP
   go_wp2
   go_ret
   exact⟨rfl,ig.out _ Ht.out⟩
 ·have hC:C (Pg.addC L m=Pg.check m.p m.s m.f m.r):=by simp only[C,Pg.addC];rw[iP Hz];rfl
  have ig:C _:=fun w' hb=>HK.out w' hb (by rw[hC.out];exact Hz)
  have Ho:(Pg.check m.p m.s m.f m.r !=0)=K:=by
   have:Pg.check m.p m.s m.f m.r≠0:=Hz
   simpa using this
  rw[hC.out];have sP:=zY m.p m.s m.f m.r;clear h HK Hz hC;generalize Pg.addL L m=L' at*;obtain⟨mp,ms,mf,mr⟩:=m;simp only at sP Ho;simp only[Pg.Mp.val];generalize Pg.check mp ms mf mr=x at*
  go_enter Tryz.func157,Tryz.ntmps157
  go_wp2_with fail
  refine(sP _).mono ?_;rintro e w1 ⟨rfl,Ha⟩;have HB:C (Lw w w1):=zT (zA (zR _) _) Ha;clear Ha
  go_wp2
  go_ret
  exact⟨rfl,ig.out _ HB.out⟩
theorem ydE {vb:yB} {L:List Pg.Mp} {k:Nat} (w:X) (hr:w.ownsRow 0 39 4 vb L.length (zC L)) (hn:L.length<=4096) (hk:k<L.length):
 z N 193 #[vb,J I k,J I (k+1)] w fun e w'=>∃g cap,vb=R (S ⟨g,0,B⟩) L.length cap/\e=Y (R (S ⟨g,0,B⟩) (L.length-1) cap)/\w'.ownsRow 0 39 4 (R (S ⟨g,0,B⟩) (L.length-1) cap) (L.eraseIdx k).length (zC (L.eraseIdx k))/\But (fun j=>vb.ownBlock=S j) w w':=by
 have Hg:(L.eraseIdx k).length=L.length-1:=by rw[List.length_eraseIdx,iP hk]
 have hcut:(zC L).take (k*4)++(zC L).drop ((k+1)*4)=zC (L.eraseIdx k):=by
  have e:∀j,j<=L.length->(zC L).take (j*4)=zC (L.take j)/\(zC L).drop (j*4)=zC (L.drop j):=by
   intro j hj
   have e:zC L=zC (L.take j)++zC (L.drop j):=by rw[<-xh,List.take_append_drop]
   have hl:(zC (L.take j)).length=j*4:=by rw[xZ,yS];congr 1;omega
   exact⟨by rw[e,List.take_left' hl],by rw[e,List.drop_left' hl]⟩
  rw[(e k (by omega)).1,(e (k+1) (by omega)).2,<-xh,List.eraseIdx_eq_take_drop_succ]
 obtain⟨_,RF⟩:=hr;rcases RF with ⟨_,e0⟩|⟨g,cap,cur,rfl,_,hg,rO,tY,fU,dB⟩
 ·omega
 ·refine(ydF w hg hn hk rO (by unfold maxLen at tY;omega) fU dB (qS L)).mono ?_
  rintro e w' ⟨rfl,h1,h2⟩;rw[hcut]at h1;exact⟨g,cap,rfl,rfl,by rw[Hg];exact h1,h2.mono fun i _ hi=>by rw[hi];rfl⟩
theorem ydB (q:Int) (hq:Pg.fits q) (w:X) (h:qJ w b L F):
 z N 159 #[ki (S ⟨b,0,B⟩),J I q] w fun e w'=>e=Y (ud #[(Pg.yjp L q).val,J I (Pg.yij L q)])/\∃F',qJ w' b (Pg.yiL L q) F'/\But F w w'/\∀k,F' k->F k\/w.heap.size<=k:=by
 obtain⟨vb,h,rfl⟩:=h
 have HK:C (∀w',Lw w w'->Pg.yij L q≠0->∃F',qJ w' b (Pg.yiL L q) F'/\But (bkF b vb) w w'/\∀k,F' k->bkF b vb k\/w.heap.size<=k):=fun w' hb hc=>
  ⟨bkF b vb,⟨vb,by rw[Pg.yiL,iN hc];exact h.grow hb,rfl⟩,But.yhJ hb,fun _ hk=> .inl hk⟩
 cases Hl:Pg.below q 4096
 ·have hC:Pg.yij L q=1:=by simp[Pg.yij,Hl]
  have hM:Pg.yjp L q= .zz:=by simp[Pg.yjp,hC]
  have ig:C _:=fun w' hb=>HK.out w' hb (by rw[hC];decide);rw[hC,hM,show(.zz:Pg.Mp).val=A #[J I 0,J I 0,J I 0,J I 0]from rfl];clear h HK hC hM;generalize Pg.yiL L q=L' at*
  go_enter Tryz.func159,Tryz.ntmps159
  go_wp2_with (go_at_call 172;refine(xj _ _).mono ?_;rintro e w' ⟨rfl,rfl⟩)
  refine Q (v:=ud #[A #[J I 0,J I 0,J I 0,J I 0],J I 1]) ?_ rfl ⟨rfl,?_⟩
  ·simp[results,Tryz.results159,go_sem]
  ·exact ig.out _ (zA (zR _) _)
 ·have um:=Pg.ykT h.good q
  have HH:=fun o=>jU q hq (w.alloc o) (h.grow (zA (zR _) o));cases hh:Pg.hit L (Pg.lkP q)
  ·have e0:Pg.fnd L q=B:=by rw[um,hh];rfl
   have hC:Pg.yij L q=5:=by simp[Pg.yij,Hl,e0]
   have hM:Pg.yjp L q= .zz:=by simp[Pg.yjp,hC]
   have ig:C _:=fun w' hb=>HK.out w' hb (by rw[hC];decide);rw[hC,hM,show(.zz:Pg.Mp).val=A #[J I 0,J I 0,J I 0,J I 0]from rfl];simp only[hh]at HH;clear h HK hC hM e0 um hh;generalize Pg.yiL L q=L' at*;generalize Pg.cut L (Pg.lkP q)=c at*
   go_enter Tryz.func159,Tryz.ntmps159
   go_wp2_with (go_at_call 172;refine(xj _ _).mono ?_;rintro e w' ⟨rfl,rfl⟩)
   refine(HH _).mono ?_;rintro e w1 ⟨rfl,Ha⟩;have hr:∀o,w1.cell? ⟨w.heap.size,o,B⟩=_:=fun o=>Ha.cell (p:=⟨w.heap.size,o,B⟩) (by simp);have hf:∀o,w1.frozen? ⟨w.heap.size,o,B⟩=_:=fun o=>Ha.frozen (p:=⟨w.heap.size,o,B⟩) (by simp);have hB:C (Lw w w1):=zT (zA (zR _) _) Ha;clear Ha HH
   go_wp2
   refine Q (v:=ud #[A #[J I 0,J I 0,J I 0,J I 0],J I 5]) ?_ rfl ⟨rfl,?_⟩
   ·simp[results,Tryz.results159,go_sem,hr]
   ·exact ig.out _ (zu hB.out _ (kh _) _ _ _ _)
  ·obtain⟨Hf,_⟩:=Pg.yi0.1 hh
   have e0:Pg.fnd L q=S (Pg.cut L (Pg.lkP q)):=by rw[um,hh];rfl
   have hC:Pg.yij L q=0:=by simp[Pg.yij,Hl,e0]
   have hM:Pg.yjp L q=L.getD (Pg.cut L (Pg.lkP q)) .zz:=by simp only[Pg.yjp,hC,if_true,Pg.at',e0]
   have hL:Pg.yiL L q=L.eraseIdx (Pg.cut L (Pg.lkP q)):=by simp only[Pg.yiL,hC,if_true,e0]
   rw[hC,hM,hL];simp only[hh]at HH;clear HK hC hM hL e0 um hh;generalize Pg.cut L (Pg.lkP q)=j at*;obtain⟨g,cap,rfl,hg,mh,dX,sD,lQ⟩:=h.mp Hf;have oC:g≠b:=fun e=>h.nb (by rw[e];rfl)
   have HD:C (∀W,Lw w W->z N 193 #[R (S ⟨g,0,B⟩) L.length cap,J I j,J I (j+1)] W fun e w'=>e=Y (R (S ⟨g,0,B⟩) (L.length-1) cap)/\w'.cell? ⟨b,0,B⟩=S (R (S ⟨g,0,B⟩) L.length cap)/\w'.frozen? ⟨b,0,B⟩=O/\But (fun k=>k=g) W w'/\
    C (qJ (w'.setCell ⟨b,0,B⟩ (R (S ⟨g,0,B⟩) (L.length-1) cap)) b (L.eraseIdx j) (bkF b (R (S ⟨g,0,B⟩) L.length cap))/\But (bkF b (R (S ⟨g,0,B⟩) L.length cap)) w (w'.setCell ⟨b,0,B⟩ (R (S ⟨g,0,B⟩) (L.length-1) cap)))):=by
    intro W hb;have hW:=h.grow hb;refine(ydE W hW.row h.good.len Hf).mono ?_;rintro e w' ⟨g',cap',he,rfl,hr,hB⟩;cases he;have kb:w'.heap[b]?=W.heap[b]?:=hB.block b hW.lb hW.nb;obtain⟨p1,p2,p3⟩:=hW.put hB hr (fun k hk=> .inl hk) (h.good.erase j);refine⟨rfl,(U (a:=⟨b,0,B⟩) kb).trans hW.c0,(T (a:=⟨b,0,B⟩) kb).trans (hW.fb 0),hB.mono (fun i _ hi=>by simpa[kp]using hi.symm),⟨⟨_,p1,rfl⟩,?_⟩⟩;exact(But.yhJ hb).trans p2 (fun i _ hi=>hi)
   have rT:=h.c0;have rY:=h.lb;have Hg:=h.good.len
   have i0:(0:Int)<=(j:Int):=by omega
   have i1:(j:Int)<(L.length:Int):=by omega
   clear h;generalize L.eraseIdx j=L' at*;generalize L.getD j .zz=m at*;generalize L.length=n at*;obtain⟨mp,ms,mf,mr⟩:=m;simp only[Pg.Mp.val]at*
   go_enter Tryz.func159,Tryz.ntmps159
   go_wp2_with (go_at_call 172;refine(xj _ _).mono ?_;rintro e w' ⟨rfl,rfl⟩)
   refine(HH _).mono ?_;rintro e w1 ⟨rfl,Ha⟩;have hr:∀o,w1.cell? ⟨w.heap.size,o,B⟩=_:=fun o=>Ha.cell (p:=⟨w.heap.size,o,B⟩) (by simp);have hf:∀o,w1.frozen? ⟨w.heap.size,o,B⟩=_:=fun o=>Ha.frozen (p:=⟨w.heap.size,o,B⟩) (by simp)
   have rG:w.heap.size<w1.heap.size:=by have:=Ha.size;simp at this;omega
   have gQ:Lw w w1:=zT (zA (zR _) _) Ha
   have hlb1:b<w1.heap.size:=by omega
   have hB:C _:=gQ;have c0:=Z gQ rT;have m0:=Z gQ mh;have m1:=Z gQ dX;have m2:=Z gQ sD;have m3:=Z gQ lQ;clear Ha HH gQ rT mh dX sD lQ
   go_wp2_with fail
   have ky:Lw w (w1.alloc (uv #[J I mp,J I ms,J I mf,J I mr] 39)):=zA hB.out _;refine Calls.mono (HD.out _ ky) ?_;rintro e w2 ⟨rfl,k0,k1,fI,HF⟩
   have dE:w1.heap.size<(w1.alloc (uv #[J I mp,J I ms,J I mf,J I mr] 39)).heap.size:=by simp
   have t1:∀o,w2.cell? ⟨w1.heap.size,o,B⟩=_:=fun o=>fI.cell (a:=⟨w1.heap.size,o,B⟩) dE (by show ¬w1.heap.size=g;omega);have z0:w2.cell? ⟨w1.heap.size,0,B⟩=S (J I mp):=(t1 0).trans (by simp[go_sem]);have z1:w2.cell? ⟨w1.heap.size,1,B⟩=S (J I ms):=(t1 1).trans (by simp[go_sem]);have z2:w2.cell? ⟨w1.heap.size,2,B⟩=S (J I mf):=(t1 2).trans (by simp[go_sem]);have z3:w2.cell? ⟨w1.heap.size,3,B⟩=S (J I mr):=(t1 3).trans (by simp[go_sem])
   have su:w.heap.size<(w1.alloc (uv #[J I mp,J I ms,J I mf,J I mr] 39)).heap.size:=by simp;omega
   have t2:∀o,w2.cell? ⟨w.heap.size,o,B⟩=_:=fun o=>(fI.cell (a:=⟨w.heap.size,o,B⟩) su (by show ¬w.heap.size=g;omega)).trans ((Below.cell (p:=⟨w.heap.size,o,B⟩) (zA (zR w1) _) rG).trans (hr o));have t3:∀o,w2.frozen? ⟨w.heap.size,o,B⟩=_:=fun o=>(fI.frozen (a:=⟨w.heap.size,o,B⟩) su (by show ¬w.heap.size=g;omega)).trans ((Below.frozen (p:=⟨w.heap.size,o,B⟩) (zA (zR w1) _) rG).trans (hf o))
   have n1:w1.heap.size≠b:=by omega
   have n2:w.heap.size≠b:=by omega
   have n3:w1.heap.size≠w.heap.size:=by omega
   clear fI t1 hr hf ky hB c0 m0 m1 m2 m3 HD dE su
   go_wp2
   refine Q (v:=ud #[A #[J I mp,J I ms,J I mf,J I mr],J I 0]) ?_ rfl ⟨rfl,?_⟩
   ·simp[results,Tryz.results159,go_sem,t2]
   ·obtain⟨f1,f2⟩:=HF.out
    have oQ:=vw (But.refl (fun k=>k=w.heap.size) (w2.setCell ⟨b,0,B⟩ (R (S ⟨g,0,B⟩) (n-1) cap))) w.heap.size (.inr rfl) (J I mp) (J I ms) (J I mf) (J I mr);refine⟨_,f1.keep oQ (fun k hk=> ?_),f2.trans oQ (fun i hi e=> ?_),fun k hk=> .inl hk⟩
    ·rcases hk with rfl|hk
     ·exact fun e=>n2 e.symm
     ·simp only[kp,Option.some.injEq]at hk
      omega
    ·omega
end
theorem vW:∀(L:List Pg.Mp) (k:Nat) (r:Int),k<L.length->(zC L).set (k*4+3) (J I r)=zC (L.set k ((L.getD k .zz).rts r))
 | [],_,_,h=>by simp at h
 | x::t,0,r,_=>by simp[zC,Pg.Mp.rts]
 | x::t,k+1,r,h=>by
   have ih:=vW t k r (by simpa using h)
   have e1:∀(y:Pg.Mp) (s:List Pg.Mp),zC (y::s)=J I y.p::J I y.s::J I y.f::J I y.r::zC s:=fun y s=>by simp[zC]
   rw[e1,show(k+1)*4+3=k*4+3+4 by omega];simp only[List.set_cons_succ,List.getD_cons_succ,e1,ih]
theorem yda (q r:Int):Pg.check q 0 0 r=if Pg.below q 4096=K/\Pg.below r 8=K then 0 else 1:=by
 have hs:Pg.span 0=1:=rfl;have hb:Pg.below 0 1048576=K:=rfl;unfold Pg.check;rw[hs,hb]
 cases Pg.below q 4096<;>cases Pg.below r 8<;>simp
theorem ybp {L:List Pg.Mp} (h:Pg.Good L) {k:Nat} (hk:k<L.length) {r:Int} (hr:Pg.below r 8=K):Pg.Good (L.set k ((L.getD k .zz).rts r)):=by
 obtain⟨_,h2⟩:=Pg.prot_add h hk hr;rw[<-h2];exact(h.erase k).add _
section
variable {b:Nat} {L:List Pg.Mp} {F:Nat->Prop}
theorem ybk (q r:Int) (hq:Pg.fits q) (w:X) (h:qJ w b L F):
 z N 161 #[ki (S ⟨b,0,B⟩),J I q,J I r] w fun e w'=>e=Y (ud #[(Pg.ykt L q r).val,J I (Pg.yiV L q r)])/\∃F',qJ w' b (Pg.yjm L q r) F'/\But F w w'/\∀k,F' k->F k\/w.heap.size<=k:=by
 obtain⟨vb,h,rfl⟩:=h
 have HK:C (∀w',Lw w w'->Pg.yiV L q r≠0->∃F',qJ w' b (Pg.yjm L q r) F'/\But (bkF b vb) w w'/\∀k,F' k->bkF b vb k\/w.heap.size<=k):=fun w' hb hc=>
  ⟨bkF b vb,⟨vb,by rw[Pg.yjm,iN hc];exact h.grow hb,rfl⟩,But.yhJ hb,fun _ hk=> .inl hk⟩
 have sP:=zY q 0 0 r;rw[yda]at sP
 by_cases hc:Pg.below q 4096=K/\Pg.below r 8=K
 ·obtain⟨PI,Rm⟩:=hc
  rw[iP ⟨PI,Rm⟩]at sP;have um:=Pg.ykT h.good q;have HH:=fun w' hb=>jU q hq w' (h.grow (w':=w') hb);cases hh:Pg.hit L (Pg.lkP q)
  ·have e0:Pg.fnd L q=B:=by rw[um,hh];rfl
   have hC:Pg.yiV L q r=5:=by simp[Pg.yiV,Pg.yij,PI,Rm,e0]
   have hM:Pg.ykt L q r= .zz:=by simp[Pg.ykt,hC]
   have ig:C _:=fun w' hb=>HK.out w' hb (by rw[hC];decide);rw[hC,hM,show(.zz:Pg.Mp).val=A #[J I 0,J I 0,J I 0,J I 0]from rfl];simp only[hh]at HH;clear h HK hC hM e0 um hh;generalize Pg.yjm L q r=L' at*;generalize Pg.cut L (Pg.lkP q)=c at*
   go_enter Tryz.func161,Tryz.ntmps161
   go_wp2_with fail
   refine(sP _).mono ?_;rintro e w1 ⟨rfl,Ha⟩;have b1:Lw w w1:=zT (zA (zR _) _) Ha
   have rG:w.heap.size<w1.heap.size:=by have:=Ha.size;simp at this;omega
   have sO:∀o,w1.cell? ⟨w.heap.size,o,B⟩=_:=fun o=>Ha.cell (p:=⟨w.heap.size,o,B⟩) (by simp);have si:∀o,w1.frozen? ⟨w.heap.size,o,B⟩=_:=fun o=>Ha.frozen (p:=⟨w.heap.size,o,B⟩) (by simp);clear Ha
   go_wp2_with fail
   refine(HH _ b1).mono ?_;rintro e w2 ⟨rfl,Hd⟩;have tq:∀o,w2.cell? ⟨w.heap.size,o,B⟩=_:=fun o=>(Hd.cell (p:=⟨w.heap.size,o,B⟩) rG).trans (sO o);have iI:∀o,w2.frozen? ⟨w.heap.size,o,B⟩=_:=fun o=>(Hd.frozen (p:=⟨w.heap.size,o,B⟩) rG).trans (si o);have hB:C (Lw w w2):=zT b1 Hd;clear Hd HH sP sO si b1 rG
   go_wp2
   refine Q (v:=ud #[A #[J I 0,J I 0,J I 0,J I 0],J I 5]) ?_ rfl ⟨rfl,?_⟩
   ·simp[results,Tryz.results161,go_sem,tq]
   ·exact ig.out _ (zu hB.out _ (kh _) _ _ _ _)
  ·obtain⟨Hf,_⟩:=Pg.yi0.1 hh
   have e0:Pg.fnd L q=S (Pg.cut L (Pg.lkP q)):=by rw[um,hh];rfl
   have hC:Pg.yiV L q r=0:=by simp[Pg.yiV,Pg.yij,PI,Rm,e0]
   have hM:Pg.ykt L q r=(L.getD (Pg.cut L (Pg.lkP q)) .zz).rts r:=by simp only[Pg.ykt,hC,if_true,Pg.at',e0]
   have hL:Pg.yjm L q r=L.set (Pg.cut L (Pg.lkP q)) ((L.getD (Pg.cut L (Pg.lkP q)) .zz).rts r):=by simp only[Pg.yjm,hC,if_true,e0]
   rw[hC,hM,hL];simp only[hh]at HH;clear HK hC hM hL e0 um hh;generalize Pg.cut L (Pg.lkP q)=j at*;obtain⟨g,cap,rfl,hg,mh,dX,sD,lQ⟩:=h.mp Hf;have oC:g≠b:=fun e=>h.nb (by rw[e];rfl)
   have HP:C (∀W,Lw w W->W.frozen? ⟨g,j*4+3,B⟩=O/\Dbk (W.setCell ⟨g,j*4+3,B⟩ (J I r)) b (R (S ⟨g,0,B⟩) L.length cap) (L.set j ((L.getD j .zz).rts r))):=by
    intro W hb;have hW:=h.grow hb;obtain⟨hl,RF⟩:=hW.row;rcases RF with ⟨e,_⟩|⟨g',cap',cur,e,_,gB,rO,tY,fU,dB⟩
    ·cases e
    ·cases e
     refine⟨by simp[yR,gB],?_⟩;have mi:=setCell_eq_setRow W g (j*4+3) cur _ _ (J I r) gB;have GV:b≠g:=fun e=>oC e.symm;refine⟨?_,fun o=> ?_,?_,hW.nb,ybp h.good Hf Rm⟩
     ·rw[mi,cell_setRow_other _ _ _ _ GV];exact hW.c0
     ·rw[mi,T (a:=⟨b,o,B⟩) (setRow_other _ _ _ _ GV)];exact hW.fb o
     ·rw[mi,yC,<-vW L j r Hf]
      refine⟨by rw[yC];exact hl,.inr ⟨g,cap,_,rfl,Nat.zero_le _,setRow_heap W g cur _ _ _ gB,rO,tY,by simpa using fU,?_⟩⟩;rw[Array.toList_setIfInBounds,List.take_set,dB]
   have HX:C _:=h;have rT:=h.c0;have rY:=h.lb;have Hg:=h.good.len
   have i0:(0:Int)<=(j:Int):=by omega
   have i1:(j:Int)<(L.length:Int):=by omega
   clear h;generalize L.set j ((L.getD j .zz).rts r)=L' at*;generalize L.getD j .zz=m at*;generalize L.length=n at*;obtain⟨mp,ms,mf,mr⟩:=m;simp only[Pg.Mp.val,Pg.Mp.rts]at*
   go_enter Tryz.func161,Tryz.ntmps161
   go_wp2_with fail
   refine(sP _).mono ?_;rintro e w1 ⟨rfl,Ha⟩;have b1:Lw w w1:=zT (zA (zR _) _) Ha
   have rG:w.heap.size<w1.heap.size:=by have:=Ha.size;simp at this;omega
   have sO:∀o,w1.cell? ⟨w.heap.size,o,B⟩=_:=fun o=>Ha.cell (p:=⟨w.heap.size,o,B⟩) (by simp);have si:∀o,w1.frozen? ⟨w.heap.size,o,B⟩=_:=fun o=>Ha.frozen (p:=⟨w.heap.size,o,B⟩) (by simp);clear Ha
   go_wp2_with fail
   refine(HH _ b1).mono ?_;rintro e w2 ⟨rfl,Hd⟩;have tq:∀o,w2.cell? ⟨w.heap.size,o,B⟩=_:=fun o=>(Hd.cell (p:=⟨w.heap.size,o,B⟩) rG).trans (sO o);have iI:∀o,w2.frozen? ⟨w.heap.size,o,B⟩=_:=fun o=>(Hd.frozen (p:=⟨w.heap.size,o,B⟩) rG).trans (si o);have gQ:Lw w w2:=zT b1 Hd;have c0:=Z gQ rT;have m0:=Z gQ mh;have m1:=Z gQ dX;have m2:=Z gQ sD;have m3:=Z gQ lQ;obtain⟨fz,HD⟩:=HP.out w2 gQ;have HD:C _:=HD;have hB:C _:=gQ
   have n1:g≠w.heap.size:=by omega
   have n2:b≠w.heap.size:=by omega
   clear Hd HH sP sO si b1 rG gQ rT mh dX sD lQ HP
   go_wp2
   refine Q (v:=ud #[A #[J I mp,J I ms,J I mf,J I r],J I 0]) ?_ rfl ⟨rfl,?_⟩
   ·simp[results,Tryz.results161,go_sem,tq]
   ·have f1:qJ (w2.setCell ⟨g,j*4+3,B⟩ (J I r)) b L' (bkF b (R (S ⟨g,0,B⟩) n cap)):=⟨_,HD.out,rfl⟩
    have f2:But (bkF b (R (S ⟨g,0,B⟩) n cap)) w (w2.setCell ⟨g,j*4+3,B⟩ (J I r)):=(But.yhJ hB.out).setCell (a:=⟨g,j*4+3,B⟩) (.inr (.inr rfl)) _;have oQ:=vw (But.refl (fun k=>k=w.heap.size) (w2.setCell ⟨g,j*4+3,B⟩ (J I r))) w.heap.size (.inr rfl) (J I mp) (J I ms) (J I mf) (J I r);refine⟨_,f1.keep oQ (fun k hk=> ?_),f2.trans oQ (fun i hi e=> ?_),fun k hk=> .inl hk⟩
    ·rcases hk with rfl|hk
     ·exact n2
     ·simp only[kp,Option.some.injEq]at hk
      omega
    ·omega
 ·rw[iN hc]at sP
  have hC:Pg.yiV L q r=1:=by
   unfold Pg.yiV Pg.yij
   cases h1:Pg.below q 4096<;>cases h2:Pg.below r 8<;>simp_all
  have hM:Pg.ykt L q r= .zz:=by simp[Pg.ykt,hC]
  have ig:C _:=fun w' hb=>HK.out w' hb (by rw[hC];decide);rw[hC,hM,show(.zz:Pg.Mp).val=A #[J I 0,J I 0,J I 0,J I 0]from rfl];clear h HK hC hM hc;generalize Pg.yjm L q r=L' at*
  go_enter Tryz.func161,Tryz.ntmps161
  go_wp2_with fail
  refine(sP _).mono ?_;rintro e w1 ⟨rfl,Ha⟩;have hr:∀o,w1.cell? ⟨w.heap.size,o,B⟩=_:=fun o=>Ha.cell (p:=⟨w.heap.size,o,B⟩) (by simp);have hf:∀o,w1.frozen? ⟨w.heap.size,o,B⟩=_:=fun o=>Ha.frozen (p:=⟨w.heap.size,o,B⟩) (by simp);have hB:C (Lw w w1):=zT (zA (zR _) _) Ha;clear Ha sP
  go_wp2
  refine Q (v:=ud #[A #[J I 0,J I 0,J I 0,J I 0],J I 1]) ?_ rfl ⟨rfl,?_⟩
  ·simp[results,Tryz.results161,go_sem,hr]
  ·exact ig.out _ (zu hB.out _ (kh _) _ _ _ _)
end
end
theorem zv (s:Int) (w:X):
 z N 123 #[J I s] w fun r w'=>r=Y (J I (Pg.span s))/\w'=w:=by
 by_cases hs:0<=s/\s<=2
 ·obtain⟨s0,s2⟩:=hs
  go_enter Tryz.func123,Tryz.ntmps123
  go_wp2
  go_loop [3,4] (fun n i=>∃(k m:Int),0<=k/\k<=s/\i=J I k/\n=J I m/\0<=m/\m<=64/\C (m=Pg.span k)) (fun _ i=>(s-intOf i).toNat)
  case atStart=>exact⟨0,1,by omega,by omega,rfl,rfl,by omega,by omega,rfl⟩
  case round=>
   obtain⟨k,m,k0,k1,rfl,rfl,m0,m1,HM⟩:=hrel
   by_cases Hf:k<s
   ·have H1:C (m*8=Pg.span (k+1)):=by
     have:k=0\/k=1:=by omega
     have e:=HM.out
     rcases this with rfl|rfl<;>simp[C,Pg.span]at* <;>omega
    go_wp2
    go_round
    case rel=>exact⟨k+1,m*8,by omega,by omega,rfl,rfl,by omega,by have:=Pg.yh2 (k+1);have:=H1.out;omega,H1⟩
    case measure=>simp[intOf];omega
   ·go_wp2
    go_ret
    have:k=s:=by omega
    exact⟨by rw[<-this,<-HM.out];rfl,rfl⟩
 ·have H:C (Pg.span s=0):=by rcases Pg.yhX s with h|h|h|h<;>simp only[C]<;>omega
  by_cases hn:s<0
  ·have hd:decide (s<0)=K:=by simpa using hn
   clear hs
   go_enter Tryz.func123,Tryz.ntmps123
   go_wp2
   go_ret
   exact⟨by rw[H.out];rfl,rfl⟩
  ·have hd:decide (s<0)=O:=by simpa using hn
   have h3:2<s:=by omega
   have hd2:decide (2<s)=K:=by simpa using h3
   clear hs
   go_enter Tryz.func123,Tryz.ntmps123
   go_wp2
   go_ret
   exact⟨by rw[H.out];rfl,rfl⟩
theorem vh (p s f r:Int) (w:X):
 z N 109 #[A #[J I p,J I s,J I f,J I r]] w fun e w'=>e=Y (J I (Pg.check p s f r))/\Lw w w':=by
 have hs:=Pg.yh2 s
 by_cases h0:Pg.span s=0
 ·have hb:(Pg.span s==0)=K:=by simpa using h0
  have H:C (Pg.span s=0):=h0;clear h0
  go_enter Tryz.func109,Tryz.ntmps109
  go_wp2_with (go_at_call 123;refine(zv _ _).mono ?_;rintro e w' ⟨rfl,rfl⟩)
  go_ret
  exact⟨by rw[Pg.yj8 H.out];rfl,zA (zR _) _⟩
 ·have hb:(Pg.span s==0)=O:=by simpa using h0
  have H:C (Pg.span s≠0):=h0
  have h1:1<=Pg.span s:=by omega
  clear h0
  by_cases hr:(!Pg.below p 4096|| !Pg.below f 1048576|| !Pg.below r 8)=K
  ·have HR:C (Pg.check p s f r=1):=Pg.yiE H.out hr
   have hc:(p<0)\/(0<=p/\4096<=p)\/(0<=p/\p<4096/\f<0)\/(0<=p/\p<4096/\0<=f/\1048576<=f)\/(0<=p/\p<4096/\0<=f/\f<1048576/\r<0)\/(0<=p/\p<4096/\0<=f/\f<1048576/\0<=r/\8<=r):=by
    simp[Pg.below]at hr;omega
   clear hr;rcases hc with a|⟨a,b⟩|⟨a,b,c⟩|⟨a,b,c,d⟩|⟨a,b,c,d,e⟩|⟨a,b,c,d,e,g⟩
   all_goals
    go_enter Tryz.func109,Tryz.ntmps109
    go_wp2_with (go_at_call 123;refine(zv _ _).mono ?_;rintro e w' ⟨rfl,rfl⟩)
    go_ret
    exact⟨by rw[HR.out];rfl,zA (zR _) _⟩
  ·have b1:Pg.below p 4096=K:=by cases h:Pg.below p 4096<;>simp_all
   have b2:Pg.below f 1048576=K:=by cases h:Pg.below f 1048576<;>simp_all
   have b3:Pg.below r 8=K:=by cases h:Pg.below r 8<;>simp_all
   have HA:C (Pg.check p s f r=if p%Pg.span s=0/\f%Pg.span s=0 then 0 else 3):=Pg.yin H.out b1 b2 b3;obtain⟨p0,p1⟩:=Pg.zB.1 b1;obtain⟨f0,f1⟩:=Pg.zB.1 b2;obtain⟨r0,r1⟩:=Pg.zB.1 b3;clear hr b1 b2 b3;rcases Pg.yhX s with ⟨rfl,hv⟩|⟨rfl,hv⟩|⟨rfl,hv⟩|⟨_,_,_,hv⟩
   ·have HA:C (Pg.check p 0 f r=0):=by have:=HA.out;simp only[hv,Int.emod_one,and_self,if_true]at this;exact this
    go_enter Tryz.func109,Tryz.ntmps109
    go_wp2_with (go_at_call 123;refine(zv _ _).mono ?_;rintro e w' ⟨rfl,rfl⟩)
    go_quiet (fail)
    go_wp2
    go_ret
    exact⟨by rw[HA.out];rfl,below_drewN (zA (zR _) _) _⟩
   ·by_cases d1:p%8=0
    ·have e1:(p/8*8 !=p)=O:=by rw[bne_eq_false_iff_eq];omega
     by_cases d2:f%8=0
     ·have HA:C (Pg.check p 1 f r=0):=by have:=HA.out;simp only[hv,d1,d2,and_self,if_true]at this;exact this
      have e2:(f/8*8 !=f)=O:=by rw[bne_eq_false_iff_eq];omega
      clear d1 d2
      go_enter Tryz.func109,Tryz.ntmps109
      go_wp2_with (go_at_call 123;refine(zv _ _).mono ?_;rintro e w' ⟨rfl,rfl⟩)
      go_quiet (fail)
      go_wp2
      go_ret
      exact⟨by rw[HA.out];rfl,below_drewN (zA (zR _) _) _⟩
     ·have HA:C (Pg.check p 1 f r=3):=by have:=HA.out;simp only[hv,d1,d2,and_false,if_false]at this;exact this
      have e2:(f/8*8 !=f)=K:=by rw[bne_iff_ne];omega
      clear d1 d2
      go_enter Tryz.func109,Tryz.ntmps109
      go_wp2_with (go_at_call 123;refine(zv _ _).mono ?_;rintro e w' ⟨rfl,rfl⟩)
      go_quiet (fail)
      go_wp2
      go_ret
      exact⟨by rw[HA.out];rfl,below_drewN (zA (zR _) _) _⟩
    ·have HA:C (Pg.check p 1 f r=3):=by have:=HA.out;simp only[hv,d1,false_and,if_false]at this;exact this
     have e1:(p/8*8 !=p)=K:=by rw[bne_iff_ne];omega
     clear d1
     go_enter Tryz.func109,Tryz.ntmps109
     go_wp2_with (go_at_call 123;refine(zv _ _).mono ?_;rintro e w' ⟨rfl,rfl⟩)
     go_quiet (fail)
     go_wp2
     go_ret
     exact⟨by rw[HA.out];rfl,below_drewN (zA (zR _) _) _⟩
   ·by_cases d1:p%64=0
    ·have e1:(p/64*64 !=p)=O:=by rw[bne_eq_false_iff_eq];omega
     by_cases d2:f%64=0
     ·have HA:C (Pg.check p 2 f r=0):=by have:=HA.out;simp only[hv,d1,d2,and_self,if_true]at this;exact this
      have e2:(f/64*64 !=f)=O:=by rw[bne_eq_false_iff_eq];omega
      clear d1 d2
      go_enter Tryz.func109,Tryz.ntmps109
      go_wp2_with (go_at_call 123;refine(zv _ _).mono ?_;rintro e w' ⟨rfl,rfl⟩)
      go_quiet (fail)
      go_wp2
      go_ret
      exact⟨by rw[HA.out];rfl,below_drewN (zA (zR _) _) _⟩
     ·have HA:C (Pg.check p 2 f r=3):=by have:=HA.out;simp only[hv,d1,d2,and_false,if_false]at this;exact this
      have e2:(f/64*64 !=f)=K:=by rw[bne_iff_ne];omega
      clear d1 d2
      go_enter Tryz.func109,Tryz.ntmps109
      go_wp2_with (go_at_call 123;refine(zv _ _).mono ?_;rintro e w' ⟨rfl,rfl⟩)
      go_quiet (fail)
      go_wp2
      go_ret
      exact⟨by rw[HA.out];rfl,below_drewN (zA (zR _) _) _⟩
    ·have HA:C (Pg.check p 2 f r=3):=by have:=HA.out;simp only[hv,d1,false_and,if_false]at this;exact this
     have e1:(p/64*64 !=p)=K:=by rw[bne_iff_ne];omega
     clear d1
     go_enter Tryz.func109,Tryz.ntmps109
     go_wp2_with (go_at_call 123;refine(zv _ _).mono ?_;rintro e w' ⟨rfl,rfl⟩)
     go_quiet (fail)
     go_wp2
     go_ret
     exact⟨by rw[HA.out];rfl,below_drewN (zA (zR _) _) _⟩
   ·exact absurd hv H.out
theorem qA (p s f r q:Int) (hp:Pg.fits p) (hq:Pg.fits q) (w:X):
 z N 132 #[A #[J I p,J I s,J I f,J I r],J I q] w fun e w'=>e=Y (D (Pg.over p s q))/\Lw w w':=by
 have hs:=Pg.yh2 s;unfold Pg.fits at hp hq
 by_cases h:q<p
 ·have HM:C (Pg.over p s q=O):=by simp[C,Pg.over];omega
  go_enter Tryz.func132,Tryz.ntmps132
  go_wp2_with (go_at_call 123;refine(zv _ _).mono ?_;rintro e w' ⟨rfl,rfl⟩)
  go_ret
  exact⟨by rw[HM.out];rfl,zA (zR _) _⟩
 ·go_enter Tryz.func132,Tryz.ntmps132
  go_wp2_with (go_at_call 123;refine(zv _ _).mono ?_;rintro e w' ⟨rfl,rfl⟩)
  go_loop [1,6] (fun a i=>∃k:Int,0<=k/\k<=Pg.span s/\k<=q-p/\i=J I k/\a=J I (q-k)) (fun _ i=>(Pg.span s-intOf i).toNat)
  case atStart=>exact⟨0,by omega,by omega,by omega,rfl,by simp⟩
  case round=>
   obtain⟨k,k0,k1,k2,rfl,rfl⟩:=hrel
   by_cases Hf:k<Pg.span s
   ·by_cases he:q-k=p
    ·have hb:(q-k==p)=K:=by simpa using he
     have HM:C (Pg.over p s q=K):=by simp[C,Pg.over];omega
     clear he
     go_wp2
     go_ret
     exact⟨by rw[HM.out];rfl,zA (zR _) _⟩
    ·have hb:(q-k==p)=O:=by simpa using he
     have hm:(q-k== -9223372036854775808)=O:=by simp;omega
     go_wp2
     go_round
     case rel=>exact⟨k+1,by omega,by omega,by omega,rfl,by congr 1;omega⟩
     case measure=>simp[intOf];omega
   ·have HM:C (Pg.over p s q=O):=by simp[C,Pg.over];omega
    go_wp2
    go_ret
    exact⟨by rw[HM.out];rfl,zA (zR _) _⟩
theorem yfA (p s f r p' s' f' r':Int) (hp:Pg.fits p) (hq:Pg.fits p') (w:X):
 z N 128 #[A #[J I p,J I s,J I f,J I r],A #[J I p',J I s',J I f',J I r']] w fun e w'=>e=Y (D (Pg.meet p s p' s'))/\Lw w w':=by
 cases h:Pg.over p s p'
 ·have HM:C (Pg.meet p s p' s'=Pg.over p' s' p):=by simp[C,Pg.meet,h]
  go_enter Tryz.func128,Tryz.ntmps128
  go_wp2_with fail
  refine(qA _ _ _ _ _ hp hq _).mono ?_;rintro e w1 ⟨rfl,Ha⟩;obtain⟨rO,si⟩:=xV Ha
  go_wp2_with fail
  refine(qA _ _ _ _ _ hq hp _).mono ?_;rintro e w2 ⟨rfl,Hd⟩
  go_wp2
  go_ret
  exact⟨by rw[HM.out];rfl,zT (zT (zA (zA (zR _) _) _) Ha) Hd⟩
 ·have HM:C (Pg.meet p s p' s'=K):=by simp[C,Pg.meet,h]
  go_enter Tryz.func128,Tryz.ntmps128
  go_wp2_with fail
  refine(qA _ _ _ _ _ hp hq _).mono ?_;rintro e w1 ⟨rfl,Ha⟩;obtain⟨rO,si⟩:=xV Ha
  go_wp2
  go_ret
  exact⟨by rw[HM.out];rfl,zT (zA (zA (zR _) _) _) Ha⟩
theorem vx (r p k:Int) (u:Bool) (w:X):
 z N 107 #[J I r,A #[J I p,J I k,D u]] w fun e w'=>e=Y (D (Pg.may r k u))/\Lw w w':=by
 have t1:bits .and I r 1=((Pg.r8 r&&&1:Nat):Int):=Pg.yi8 r 1 (by decide);have t2:bits .and I r 2=((Pg.r8 r&&&2:Nat):Int):=Pg.yi8 r 2 (by decide);have t4:bits .and I r 4=((Pg.r8 r&&&4:Nat):Int):=Pg.yi8 r 4 (by decide);have hl:=Pg.r8_lt r;have hm:Pg.may r k u=((Pg.r8 r&&&Pg.asks k u)==Pg.asks k u):=rfl;generalize Pg.r8 r=x at*;have HM:C _:=hm;clear hm
 by_cases k1:k=1
 ·have q1:(k==1)=K:=by simpa using k1
  have q2:(k==2)=O:=by simp;omega
  have ha:C (Pg.asks k u=if u=K then 3 else 1):=by subst k1;cases u<;>rfl
  clear k1
  have hx:x=0\/x=1\/x=2\/x=3\/x=4\/x=5\/x=6\/x=7:=by omega
  rcases hx with rfl|rfl|rfl|rfl|rfl|rfl|rfl|rfl<;>cases u
  all_goals
   go_enter Tryz.func107,Tryz.ntmps107
   go_wp2
   go_ret
   exact⟨by rw[HM.out,ha.out];rfl,zA (zR _) _⟩
 ·have q1:(k==1)=O:=by simpa using k1
  have hx:x=0\/x=1\/x=2\/x=3\/x=4\/x=5\/x=6\/x=7:=by omega
  by_cases k2:k=2
  ·have q2:(k==2)=K:=by simpa using k2
   have ha:C (Pg.asks k u=if u=K then 6 else 4):=by subst k2;cases u<;>rfl
   clear k1 k2
   rcases hx with rfl|rfl|rfl|rfl|rfl|rfl|rfl|rfl<;>cases u
   all_goals
    go_enter Tryz.func107,Tryz.ntmps107
    go_wp2
    go_ret
    exact⟨by rw[HM.out,ha.out];rfl,zA (zR _) _⟩
  ·have q2:(k==2)=O:=by simpa using k2
   have ha:C (Pg.asks k u=if u=K then 2 else 0):=by cases u<;>simp[C,Pg.asks,k1,k2]
   clear k1 k2
   rcases hx with rfl|rfl|rfl|rfl|rfl|rfl|rfl|rfl<;>cases u
   all_goals
    go_enter Tryz.func107,Tryz.ntmps107
    go_wp2
    go_ret
    exact⟨by rw[HM.out,ha.out];rfl,zA (zR _) _⟩
theorem zJ (p k:Int) (u:Bool) (w:X):
 z N 43 #[A #[J I p,J I k,D u]] w fun e w'=>e=Y (J I (Pg.zK p k))/\Lw w w':=by
 by_cases h2:0<=p/\p<4096
 ·have HB:C (Pg.below p 4096=K):=Pg.zB.2 h2
  obtain⟨p0,p1⟩:=h2
  by_cases hk:k=0\/k=1\/k=2
  ·have HK:C (Pg.isKind k=K):=by simp[C,Pg.isKind];omega
   rcases hk with rfl|rfl|rfl
   all_goals
    go_enter Tryz.func43,Tryz.ntmps43
    go_wp2
    go_ret
    exact⟨by simp[Pg.zK,HK.out,HB.out],zA (zR _) _⟩
  ·have HK:C (Pg.isKind k=O):=by simp[C,Pg.isKind];omega
   have e0:(k !=0)=K:=by rw[bne_iff_ne];omega
   have e1:(k !=1)=K:=by rw[bne_iff_ne];omega
   have e2:(k !=2)=K:=by rw[bne_iff_ne];omega
   clear hk
   go_enter Tryz.func43,Tryz.ntmps43
   go_wp2
   go_ret
   exact⟨by simp[Pg.zK,HK.out],zA (zR _) _⟩
 ·have HB:C (Pg.below p 4096=O):=by simp[C,Pg.below];omega
  by_cases hk:k=0\/k=1\/k=2
  ·have HK:C (Pg.isKind k=K):=by simp[C,Pg.isKind];omega
   have hp:p<0\/(0<=p/\4096<=p):=by omega
   clear h2
   rcases hk with rfl|rfl|rfl<;>rcases hp with a|⟨a,b⟩
   all_goals
    go_enter Tryz.func43,Tryz.ntmps43
    go_wp2
    go_ret
    exact⟨by simp[Pg.zK,HK.out,HB.out],zA (zR _) _⟩
  ·have HK:C (Pg.isKind k=O):=by simp[C,Pg.isKind];omega
   have e0:(k !=0)=K:=by rw[bne_iff_ne];omega
   have e1:(k !=1)=K:=by rw[bne_iff_ne];omega
   have e2:(k !=2)=K:=by rw[bne_iff_ne];omega
   clear hk h2
   go_enter Tryz.func43,Tryz.ntmps43
   go_wp2
   go_ret
   exact⟨by simp[Pg.zK,HK.out],zA (zR _) _⟩
theorem ybe (p s f r q k:Int) (u:Bool) (w:X):
 z N 84 #[A #[J I p,J I s,J I f,J I r],A #[J I q,J I k,D u]] w fun e w'=>
  e=Y (if Pg.may r k u=K then A #[J I 0,J I (wrap64 (f+wrap64 (q-p))),J I r]else A #[J I 2,J I 0,J I 0])/\Lw w w':=by
 cases h:Pg.may r k u
 ·go_enter Tryz.func84,Tryz.ntmps84
  go_wp2_with fail
  refine(vx _ _ _ _ _).mono ?_;rintro e w1 ⟨rfl,Ha⟩;obtain⟨rO,si⟩:=xV Ha
  have hz:w.heap.size+2<w1.heap.size:=by have:=Ha.size;simp at this;omega
  go_wp2
  refine Q (v:=A #[J I 2,J I 0,J I 0]) ?_ rfl ⟨by simp,?_⟩
  ·simp[results,Tryz.results84,go_sem,rO]
  ·exact(((zT (zA (zA (zA (zR _) _) _) _) Ha).setCell (by simp;omega) _).setCell (by simp;omega) _).setCell (by simp;omega) _
 ·go_enter Tryz.func84,Tryz.ntmps84
  go_wp2_with fail
  refine(vx _ _ _ _ _).mono ?_;rintro e w1 ⟨rfl,Ha⟩;obtain⟨rO,si⟩:=xV Ha
  have hz:w.heap.size+2<w1.heap.size:=by have:=Ha.size;simp at this;omega
  go_wp2
  refine Q (v:=A #[J I 0,J I (wrap64 (f+wrap64 (q-p))),J I r]) ?_ rfl ⟨by simp,?_⟩
  ·simp[results,Tryz.results84,go_sem,rO]
  ·exact(((zT (zA (zA (zA (zR _) _) _) _) Ha).setCell (by simp;omega) _).setCell (by simp;omega) _).setCell (by simp;omega) _
theorem qn (p s f r q k:Int) (u:Bool) (w:X):
 z N 84 #[A #[J I p,J I s,J I f,J I r],A #[J I q,J I k,D u]] w fun e w'=>
  e=Y (A #[J I (Pg.aEnd r k u),J I (Pg.yie p f r q k u),J I (Pg.yh1 r k u)])/\Lw w w':=by
 refine(ybe p s f r q k u w).mono ?_;rintro e w' ⟨rfl,hb⟩;refine⟨?_,hb⟩;unfold Pg.aEnd Pg.yie Pg.yh1
 split<;>rfl
theorem zQ (p l:Int) (w:X):
 z N 104 #[J I p,J I l] w fun e w'=>e=Y (J I (Pg.index p l))/\Lw w w':=by
 by_cases h:(0<=p/\p<4096)/\0<=l/\l<4
 ·obtain⟨⟨p0,p1⟩,l0,l1⟩:=h
  have hl:l=0\/l=1\/l=2\/l=3:=by omega
  obtain⟨i0,i1,i2,i3⟩:=Pg.index_at p0 p1;have I0:C _:=i0;have I1:C _:=i1;have I2:C _:=i2;have I3:C _:=i3;clear i0 i1 i2 i3;rcases hl with rfl|rfl|rfl|rfl
  ·go_enter Tryz.func104,Tryz.ntmps104
   go_wp2
   go_ret
   exact⟨by rw[I0.out];rfl,zA (zR _) _⟩
  ·go_enter Tryz.func104,Tryz.ntmps104
   go_wp2
   go_ret
   exact⟨by rw[I1.out];rfl,zA (zR _) _⟩
  ·go_enter Tryz.func104,Tryz.ntmps104
   go_wp2
   go_ret
   exact⟨by rw[I2.out];rfl,zA (zR _) _⟩
  ·go_enter Tryz.func104,Tryz.ntmps104
   go_wp2
   go_ret
   exact⟨by rw[I3.out];rfl,zA (zR _) _⟩
 ·have HI:C (Pg.index p l= -1):=by
   have:(Pg.below p 4096&&Pg.below l 4)=O:=by
    cases h1:Pg.below p 4096
    ·rfl
    ·cases h2:Pg.below l 4
     ·rfl
     ·exact absurd ⟨Pg.zB.1 h1,Pg.zB.1 h2⟩ h
   simp[C,Pg.index,this]
  have hc:p<0\/(0<=p/\4096<=p)\/(0<=p/\p<4096/\l<0)\/(0<=p/\p<4096/\0<=l/\4<=l):=by omega
  clear h;rcases hc with a|⟨a,b⟩|⟨a,b,c⟩|⟨a,b,c,d⟩
  all_goals
   go_enter Tryz.func104,Tryz.ntmps104
   go_wp2
   go_ret
   exact⟨by rw[HI.out];rfl,zR _⟩
section
open Go.Sort
theorem vP:(Tryz.prog.info? 121).map (fun i=>(i.zero,i.size,i.bytes))=S (S (A #[J I 0,J I 0,J I 0,J I 0,D O]),5,40):=by kernel_rfl
structure vl (w:X) (b:Nat) (vb:yB) (L:List Pg.Ln):Prop where
 c0:w.cell? ⟨b,0,B⟩=S vb
 fb:∀p,w.frozen? ⟨b,p,B⟩=O
 row:zl w 121 5 vb L.length (zL L)
 nb:vb.ownBlock≠S b
 kept:Pg.Kept L
namespace vl
variable {w w' W:X} {b:Nat} {vb v':yB} {L L':List Pg.Ln}
theorem lb (h:vl w b vb L):b<w.heap.size:=yI _ _ h.c0
theorem lt (h:vl w b vb L) {k:Nat} (hk:bkF b vb k):k<w.heap.size:=by
 rcases hk with rfl|hk
 ·exact h.lb
 ·exact h.row.lt k hk
theorem keep (h:vl w b vb L) {F:Nat->Prop} (hb:But F w w') (hF:∀k,bkF b vb k->¬F k):vl w' b vb L:=by
 have kb:=hb.block b h.lb (hF b (.inl rfl));exact⟨(U kb).trans h.c0,fun p=>(T kb).trans (h.fb p),h.row.but hb fun k hk=>hF k (.inr hk),h.nb,h.kept⟩
theorem grow (h:vl w b vb L) (hb:Lw w w'):vl w' b vb L:=h.keep (F:=fun _=>False) (But.yhJ hb) (fun _ _=>id)
theorem put (h:vl w b vb L) (hb:But (fun j=>vb.ownBlock=S j) w W) (hr:zl W 121 5 v' L'.length (zL L')) (hv:∀j,v'.ownBlock=S j->vb.ownBlock=S j\/w.heap.size<=j) (hg:Pg.Kept L'):
 vl (W.setCell ⟨b,0,B⟩ v') b v' L'/\Chg b 0 (bkF b vb) w (W.setCell ⟨b,0,B⟩ v')/\(∀k,bkF b v' k->bkF b vb k\/w.heap.size<=k):=by
 have hl:=h.lb;have kb:W.heap[b]?=w.heap[b]?:=hb.block b hl h.nb;have hc:W.cell? ⟨b,0,B⟩=S vb:=(U (a:=⟨b,0,B⟩) kb).trans h.c0;have Ho:v'.ownBlock≠S b:=fun e=>(hv b e).elim h.nb (fun h=>by omega);refine⟨⟨ua _ _ _ hc,fun p=> ?_,?_,Ho,hg⟩,⟨?_,fun p hp=> ?_⟩,fun k hk=> ?_⟩
 ·have:=(T (a:=⟨b,p,B⟩) kb).trans (h.fb p)
  simpa using this
 ·exact hr.of_block fun k hk=>Below.heap_setCell _ _ _ _ (fun e=>Ho (by rw[hk];exact congrArg S e))
 ·exact(hb.mono (G:=bkF b vb) fun i _ hi=> .inr hi).setCell (a:=⟨b,0,B⟩) (.inr (.inl rfl)) _
 ·rw[World.cell?_setCell_other _ _ _ _ (fun e=>hp (by injection e with _ e;exact e.symm))]
  exact U (a:=⟨b,p,B⟩) kb
 ·rcases hk with rfl|hk
  ·exact .inl (.inl rfl)
  ·exact(hv k hk).imp .inr id
end vl
theorem jQ {b:Nat} {vb:yB} {L:List Pg.Ln} (q:Int) (hq:Pg.fits q) (w:X) (h:vl w b vb L):
 z N 101 #[ki (S ⟨b,0,B⟩),J I q] w fun e w'=>e=Y (J I (Pg.yjz L q))/\Lw w w':=by
 obtain⟨ad,cap,rfl⟩:=h.row.form;have Hg:=h.kept.le;have HB:C _:=h;clear h
 go_enter Tryz.func101,Tryz.ntmps101
 go_wp2
 go_loopw [5] (fun i wr=>∃j:Nat,j<=L.length/\i=J I j/\C ((∀t,t<j->(L.getD t .zz).has q=O)/\Lw w wr)) (fun i _=>L.length-(intOf i).toNat)
 case atStart=>exact⟨0,by omega,rfl,⟨fun t ht=>by omega,zR _⟩⟩
 case round=>
  obtain⟨j,hj,rfl,HR⟩:=hrel;have rT:=(HB.out.grow HR.out.2).c0
  have i0:(0:Int)<=(j:Int):=by omega
  by_cases Hf:j<L.length
  ·obtain⟨g,o,rfl,hg,hm⟩:=zt (HB.out.grow HR.out.2).row j Hf
   obtain⟨k0,k1,k2,k3,k4⟩:=hm
   have i1:(j:Int)<(L.length:Int):=by omega
   have HC:=qA (L.getD j .zz).m.p (L.getD j .zz).m.s (L.getD j .zz).m.f (L.getD j .zz).m.r q (HB.out.kept.fits Hf) hq wr;cases hh:(L.getD j .zz).has q
   ·have HN:C (∀t,t<j+1->(L.getD t .zz).has q=O):=fun t ht=>by
     by_cases e:t=j
     ·rw[e];exact hh
     ·exact HR.out.1 t (by omega)
    rw[show Pg.over (L.getD j .zz).m.p (L.getD j .zz).m.s q=O from hh]at HC;clear hh;generalize L.getD j .zz=x at*;obtain⟨⟨p,s,f,r⟩,d⟩:=x
    go_wp2_with (go_at_call 132;refine HC.mono ?_;rintro e w1 ⟨rfl,Ha⟩;have uT:C _:=zT HR.out.2 Ha;clear Ha)
    go_roundw
    case rel=>exact⟨j+1,by omega,by go_num,⟨HN.out,uT.out⟩⟩
    case measure=>simp[intOf];omega
   ·have HF:C (Pg.yjz L q=(j:Int)):=by
     show Pg.yjz L q=(j:Int)
     unfold Pg.yjz Pg.kFnd;rw[Pg.yld (P:=fun l=>l.has q) Hf hh HR.out.1]
    rw[show Pg.over (L.getD j .zz).m.p (L.getD j .zz).m.s q=K from hh]at HC;clear hh;generalize L.getD j .zz=x at*;obtain⟨⟨p,s,f,r⟩,d⟩:=x
    go_wp2_with (go_at_call 132;refine HC.mono ?_;rintro e w1 ⟨rfl,Ha⟩;have uT:C _:=zT HR.out.2 Ha;clear Ha)
    go_ret
    exact⟨zy HF.out.symm,uT.out⟩
  ·have i1:¬(j:Int)<(L.length:Int):=by omega
   have HF:C (Pg.yjz L q= -1):=by
    show Pg.yjz L q= -1
    unfold Pg.yjz Pg.kFnd;rw[Pg.ylc (P:=fun l=>l.has q) fun t ht=>HR.out.1 t (by omega)]
   go_wp2
   go_ret
   exact⟨zy HF.out.symm,HR.out.2⟩
theorem yaP {b:Nat} {vb:yB} {L:List Pg.Ln} (m:Pg.Mp) (hm:Pg.fits m.p) (w:X) (h:vl w b vb L):
 z N 110 #[ki (S ⟨b,0,B⟩),m.val] w fun e w'=>e=Y (J I ((L.length:Int)-((Pg.yiI L m).length:Int)))/\∃vb',vl w' b vb' (Pg.yiI L m)/\Chg b 0 (bkF b vb) w w'/\∀k,bkF b vb' k->bkF b vb k\/w.heap.size<=k:=by
 have Hg:=h.kept.le;have HX:C _:=h;obtain⟨q0,dG,rW,tJ,rX⟩:=info_parts vP;obtain⟨ad,cap,rfl⟩:=h.row.form;obtain⟨w1,mo⟩:=eY (w.alloc (uv #[J I m.p,J I m.s,J I m.f,J I m.r] 39))
 have hB:C (Lw w w1):=by rw[mo];exact zA (zR _) _
 have sN:w.heap.size<w1.heap.size:=by rw[mo];simp
 have hmx:C (ybJ w1 w.heap.size 0 m):=by rw[mo];exact⟨by simp[go_sem],by simp[go_sem],by simp[go_sem],by simp[go_sem]⟩
 have rY:=h.lb;have Sa:C (Pg.yiI L m=L.filter (fun l=> !l.meets m)):=rfl;have gp:(Pg.yiI L m).length<=6:=(h.kept.drop m).le;have WI:C _:=h.kept.drop m;generalize Pg.yiI L m=LD at*;clear h;obtain⟨mp,ms,mf,mr⟩:=m;simp only at mo;simp only[Pg.Mp.val]
 go_enter Tryz.func110,Tryz.ntmps110
 go_wp2_with fail
 rw[<-mo];clear mo
 go_loopw [5,6] (fun v i wr=>∃j:Nat,j<=L.length/\i=J I j/\∃ad cap,∃M:List Pg.Ln,v=R ad M.length cap/\M.length<=j/\C (M=(L.take j).filter (fun l=> !l.meets ⟨mp,ms,mf,mr⟩)/\wr.ownsRow w1.heap.size 121 5 (R ad M.length cap) M.length (zL M)/\Lw w1 wr)) (fun _ i _=>L.length-(intOf i).toNat)
 case atStart=>exact⟨0,by omega,rfl,B,0,[],rfl,by simp,⟨by simp,yP _ _ _ _,zR _⟩⟩
 case round=>
  obtain⟨j,hj,rfl,Pk,cap2,M,rfl,hM,HR⟩:=hrel;have HW:C _:=(HX.out.grow hB.out).grow HR.out.2.2;have rT:=HW.out.c0
  have i0:(0:Int)<=(j:Int):=by omega
  by_cases Hf:j<L.length
  ·obtain⟨g,o,rfl,hg,Ry⟩:=zt HW.out.row j Hf
   obtain⟨k0,k1,k2,k3,k4⟩:=Ry
   have i1:(j:Int)<(L.length:Int):=by omega
   have HC:=yfA (L.getD j .zz).m.p (L.getD j .zz).m.s (L.getD j .zz).m.f (L.getD j .zz).m.r mp ms mf mr (HX.out.kept.fits Hf) hm;obtain⟨m0,m1,m2,m3⟩:=hmx.out.below HR.out.2.2 sN;simp only[Nat.zero_add]at m0 m1 m2 m3
   have UT:w.heap.size<wr.heap.size:=by have:=HR.out.2.2.size;omega
   have Rm:b<wr.heap.size:=HW.out.lb;have hws:w1.heap.size<=wr.heap.size:=HR.out.2.2.size;have HY:C ((!(L.getD j .zz).meets ⟨mp,ms,mf,mr⟩)=K->(L.take (j+1)).filter (fun l=> !l.meets ⟨mp,ms,mf,mr⟩)=(L.take j).filter (fun l=> !l.meets ⟨mp,ms,mf,mr⟩)++[L.getD j .zz]):=fun h=>Pg.yiZ (P:=fun l=> !l.meets ⟨mp,ms,mf,mr⟩) Hf h;have HN:C ((!(L.getD j .zz).meets ⟨mp,ms,mf,mr⟩)=O->(L.take (j+1)).filter (fun l=> !l.meets ⟨mp,ms,mf,mr⟩)=(L.take j).filter (fun l=> !l.meets ⟨mp,ms,mf,mr⟩)):=fun h=>Pg.yiM (P:=fun l=> !l.meets ⟨mp,ms,mf,mr⟩) Hf h;have CG:C (Pg.meet (L.getD j .zz).m.p (L.getD j .zz).m.s mp ms=(L.getD j .zz).meets ⟨mp,ms,mf,mr⟩):=rfl;generalize L.getD j .zz=x at*;obtain⟨⟨p,s,f,r⟩,d⟩:=x;simp only at k0 k1 k2 k3 k4;have r0:=kO k0;have r1:=kO k1;have r2:=kO k2;have r3:=kO k3;have r4:=kO rT;have r5:=kO m0;have r6:=kO m1;have r7:=kO m2;have r8:=kO m3;cases hx:(Pg.Ln.mk ⟨p,s,f,r⟩ d).meets ⟨mp,ms,mf,mr⟩
   ·rw[CG.out,hx]at HC
    have HY:C _:=HY.out (by rw[hx];rfl);clear hx CG HN
    go_wp2_with fail
    refine wp_region_quiet_below (by kernel_rfl) (by kernel_rfl) ?_
    repeat (first
     | go_big_quiet_step ((go_at_call 128;exact Calls.regrown_of (HC _))))
    refine wpQuiet_nil ?_;intro _ sF;obtain⟨⟨dq,osq⟩,rfl⟩:=sF;have Hd:=below_regrown wr dq osq;have gW:C (Lw w1 (grow (redrawn wr dq) osq)):=zT HR.out.2.2 Hd;have s0:=r0 dq osq;have s1:=r1 dq osq;have s2:=r2 dq osq;have s3:=r3 dq osq;have s4:=r4 dq osq;have s5:=Z Hd k4;have Hq:=zn HR.out.2.1 Hd;have hz2w:=Hd.size;have HO:C ((grow (redrawn wr dq) osq).ownsRow w1.heap.size 121 5 (R Pk M.length cap2) M.length (zL M)):=Hq;generalize grow (redrawn wr dq) osq=w2 at*;clear r0 r1 r2 r3 r4 r5 r6 r7 r8 k0 k1 k2 k3 k4 m0 m1 m2 m3 rT HC Hd
    go_wp2_with (first
     | (at_builtin;refine wpList_append_lies _ rfl _ _ 63 rfl w1.heap.size 121 q0 _ 5 40 Tryz.underlying63 dG rW tJ rX rfl (by decide) _ _ _ rfl (Hq.alloc _) ⟨w2.heap.size,0,B⟩ 1 1 [J I p,J I s,J I f,J I r,D d] rfl rfl ?c1 ?c2 (by decide) ?c3 ?c4 ?c5 (w2.heap.size+1) (by simp) ?_))
    case c1=>exact fun j u hj=>uc (ur w2 _) j u hj
    case c2=>intro u hu;simp at hu;rcases hu with rfl|rfl|rfl|rfl|rfl<;>rfl
    case c3=>unfold maxLen;omega
    case c4=>omega
    case c5=>simp;omega
    intro g3 tX w3 tC Hr hat fC
    have fin:C (M++[Pg.Ln.mk ⟨p,s,f,r⟩ d]=(L.take (j+1)).filter (fun l=> !l.meets ⟨mp,ms,mf,mr⟩)/\w3.ownsRow w1.heap.size 121 5 (R (S ⟨g3,0,B⟩) (M++[Pg.Ln.mk ⟨p,s,f,r⟩ d]).length tX) (M++[Pg.Ln.mk ⟨p,s,f,r⟩ d]).length (zL (M++[Pg.Ln.mk ⟨p,s,f,r⟩ d]))/\Lw w1 w3):=
     ⟨by rw[HY.out,<-HR.out.1],by rw[xN,un];exact tC,yd5 gW.out HO.out Hr⟩
    clear tC Hr hat fC Hq
    go_wp2
    go_roundw
    case rel=>exact⟨j+1,by omega,by go_num,_,tX,M++[Pg.Ln.mk ⟨p,s,f,r⟩ d],by simp,by simp;omega,fin.out⟩
    case measure=>simp[intOf];omega
   ·rw[CG.out,hx]at HC
    have HN:C _:=HN.out (by rw[hx];rfl);clear hx CG HY
    go_wp2_with fail
    refine wp_region_quiet_below (by kernel_rfl) (by kernel_rfl) ?_
    repeat (first
     | go_big_quiet_step ((go_at_call 128;exact Calls.regrown_of (HC _))))
    refine wpQuiet_nil ?_;intro _ sF;obtain⟨⟨dq,osq⟩,rfl⟩:=sF;have Hd:=below_regrown wr dq osq;have gW:C (Lw w1 (grow (redrawn wr dq) osq)):=zT HR.out.2.2 Hd;have HO:C ((grow (redrawn wr dq) osq).ownsRow w1.heap.size 121 5 (R Pk M.length cap2) M.length (zL M)):=zn HR.out.2.1 Hd;generalize grow (redrawn wr dq) osq=w2 at*;clear r0 r1 r2 r3 r4 r5 r6 r7 r8 k0 k1 k2 k3 k4 m0 m1 m2 m3 rT HC Hd
    go_wp2
    go_roundw
    case rel=>exact⟨j+1,by omega,by go_num,_,cap2,M,rfl,by omega,by rw[HN.out];exact HR.out.1,HO.out,gW.out⟩
    case measure=>simp[intOf];omega
  ·have i1:¬(j:Int)<(L.length:Int):=by omega
   have EZ:M=LD:=by rw[HR.out.1,Sa.out,List.take_of_length_le (by omega)]
   have GL:=HW.out.fb 0;have Rm:b<wr.heap.size:=HW.out.lb;have HF:C _:=HX.out.put (W:=wr) (L':=M) (v':=R Pk M.length cap2) ((But.yhJ (zT hB.out HR.out.2.2))) (zl.yjV HR.out.2.1) (fun j hj=> .inr (by have:=(HR.out.2.1.lt j hj).1;omega)) (by rw[EZ];exact WI.out)
   go_wp2
   go_ret
   obtain⟨f1,f2,f3⟩:=HF.out;rw[EZ]at f1 f2 f3;exact⟨rfl,_,f1,f2,f3⟩
theorem vl.yiy {w:X} {b g o cap:Nat} {L:List Pg.Ln} (h:vl w b (R (S ⟨g,o,B⟩) L.length cap) L) (h0:0<L.length) {o':Nat} (ho:o'=o+5\/(cap=1/\o'=o)):
 vl (w.setCell ⟨b,0,B⟩ (R (S ⟨g,o',B⟩) (L.length-1) (cap-1))) b (R (S ⟨g,o',B⟩) (L.length-1) (cap-1)) (L.drop 1)/\Chg b 0 (bkF b (R (S ⟨g,o,B⟩) L.length cap)) w (w.setCell ⟨b,0,B⟩ (R (S ⟨g,o',B⟩) (L.length-1) (cap-1)))/\(∀k,bkF b (R (S ⟨g,o',B⟩) (L.length-1) (cap-1)) k->bkF b (R (S ⟨g,o,B⟩) L.length cap) k\/w.heap.size<=k):=by
 have ht:=h.row.tail h0 ho;have e:=(xX L 1).2;rw[show 1*5=5 from rfl]at e;rw[e]at ht;exact h.put (But.refl _ w) (by rw[ue];exact ht) (fun j hj=> .inl hj) h.kept.tail
theorem yez {b:Nat} {vb:yB} {L:List Pg.Ln} (l:Pg.Ln) (hm:Pg.fits l.m.p) (w:X) (h:vl w b vb L):
 z N 58 #[ki (S ⟨b,0,B⟩),l.val] w fun e w'=>e=Y (D (l.m.code==0))/\∃vb',vl w' b vb' (Pg.kPut L l)/\Chg b 0 (bkF b vb) w w'/\∀k,bkF b vb' k->bkF b vb k\/w.heap.size<=k:=by
 have HX:C _:=h;have KW:∀k,bkF b vb k->k<w.heap.size:=fun k hk=>h.lt hk;have sP:=vh l.m.p l.m.s l.m.f l.m.r;have rY:b<w.heap.size:=h.lb
 by_cases Hz:l.m.code=0
 ·have kE:Pg.check l.m.p l.m.s l.m.f l.m.r=0:=Hz
  rw[kE]at sP
  have hr:(l.m.code==0)=K:=by simp[Hz]
  have wH:C (Pg.Kept (Pg.kPut L l)):=h.kept.put l;have Pf:C ((Pg.yiI L l.m).length<=6):=(h.kept.drop l.m).le;have HD:=fun w' (hb:Lw w w')=>yaP l.m hm w' (h.grow hb);rw[hr];rw[Pg.ylg Hz]at wH ⊢;clear h Hz kE hr;generalize Pg.yiI L l.m=L1 at*;obtain⟨L2,Rb⟩:=eY (Pg.yjr L1);rw[<-Rb]at wH
  have FC:C (L2.length<=5):=by rw[Rb];exact Pg.yjP Pf.out
  have gW:C (L2=Pg.yjr L1):=Rb;clear Rb;generalize bkF b vb=F at*;obtain⟨⟨mp,ms,mf,mr⟩,d⟩:=l;simp only[Pg.Ln.val,Pg.Mp.val]at*
  go_enter Tryz.func58,Tryz.ntmps58
  go_wp2_with fail
  refine(sP _).mono ?_;rintro e w1 ⟨rfl,Ha⟩;have aC:∀p,w1.cell? ⟨w.heap.size,p,B⟩=_:=fun p=>Ha.cell (p:=⟨w.heap.size,p,B⟩) (by simp);have bS:Lw w w1:=zT (zA (zR _) _) Ha
  have rG:w.heap.size<w1.heap.size:=by have:=Ha.size;simp at this;omega
  have ry:C _:=bS;clear Ha bS sP
  go_wp2_with fail
  refine(HD _ ry.out).mono ?_;rintro e w2 ⟨rfl,AV,h2,tY,sW⟩
  have tO:¬F w.heap.size:=fun hf=>by have:=KW _ hf;omega
  have nG:∀p,w2.cell? ⟨w.heap.size,p,B⟩=_:=fun p=>(tY.but.cell (a:=⟨w.heap.size,p,B⟩) rG tO).trans (aC p);have pJ:w.heap.size<w2.heap.size:=E rG tY.but.size;have lX:C (Chg b 0 F w w2):=(Chg.yhJ (o:=0) ry.out rY).trans tY (fun i _ hi=>hi);have sW:C (∀k,bkF b AV k->F k\/w.heap.size<k):=fun k hk=>(sW k hk).imp id (fun h=>by omega);obtain⟨Pk,cap2,rfl⟩:=h2.row.form;have c20:=h2.c0;have UZ:=h2.lb;have FV:=h2.fb 0;clear tY HD aC HX
  by_cases h6:L1.length=6
  ·have i6:((L1.length:Int)==6)=K:=by simp[h6]
   have eR:L1.drop 1=L2:=by rw[gW.out];simp[Pg.yjr,h6]
   have eL:L1.length-1=L2.length:=by rw[<-eR,ue]
   obtain⟨g2,o2,cp,e,fV,Bo,lS⟩:=h2.row.shape (by omega);cases e;have H2:C _:=h2
   have j1:(1:Int)<=(L1.length:Int):=by omega
   have j2:¬(cap2=1):=by omega
   have j3:cap2<=9223372036854775807:=by unfold maxLen at lS;omega
   obtain⟨e1,e2,e3⟩:=H2.out.yiy (by omega) (o':=o2+5) (.inl rfl);rw[eR]at e1;rw[eL]at e1 e2 e3;obtain⟨w3,kV⟩:=eY (w2.setCell ⟨b,0,B⟩ (R (S ⟨g2,o2+5,B⟩) L2.length (cap2-1)));rw[<-kV]at e1 e2;have Sk:¬bkF b (R (S ⟨g2,o2,B⟩) L1.length cap2) w.heap.size:=fun hf=>(sW.out _ hf).elim tO (fun h=>by omega);have lG:∀p,w3.cell? ⟨w.heap.size,p,B⟩=_:=fun p=>(e2.but.cell (a:=⟨w.heap.size,p,B⟩) pJ Sk).trans (nG p);have aF:w.heap.size<w3.heap.size:=E pJ e2.but.size;have wC:C (Chg b 0 F w w3):=lX.out.trans e2 (fun i hi hg=>(sW.out i hg).elim id (fun h=>by omega));have mW:C (∀k,bkF b (R (S ⟨g2,o2+5,B⟩) L2.length (cap2-1)) k->F k\/w.heap.size<=k):=fun k hk=>(e3 k hk).elim (fun h=>(sW.out k h).imp id (fun h=>by omega)) (fun h=> .inr (by omega));have x0:w3.cell? ⟨w.heap.size,0,B⟩=S (J I mp):=(lG 0).trans (by simp[go_sem]);have x1:w3.cell? ⟨w.heap.size,1,B⟩=S (J I ms):=(lG 1).trans (by simp[go_sem]);have x2:w3.cell? ⟨w.heap.size,2,B⟩=S (J I mf):=(lG 2).trans (by simp[go_sem]);have x3:w3.cell? ⟨w.heap.size,3,B⟩=S (J I mr):=(lG 3).trans (by simp[go_sem]);have x4:w3.cell? ⟨w.heap.size,4,B⟩=S (D d):=(lG 4).trans (by simp[go_sem]);have t3:C _:=e1;clear lG nG h2 e2 e3 e1 fV lS h6
   go_wp2_with fail
   rw[<-kV];have t3:=t3.out;clear c20 kV FV;obtain⟨gX,tX,RG⟩:∃gX tX,yJ (S ⟨g2,o2+5,B⟩) L2.length (cap2-1)=R gX L2.length tX:=⟨_,_,rfl⟩;rw[RG]at t3 mW;clear RG;have Hq:=t3.row;have r0:=t3.c0;have rf:=t3.fb 0;have bH:=t3.lb;have lS:=t3.nb;have iQ:L2.length<=5:=FC.out;have Ph:C _:=t3;have mX:C (Pg.Kept (L2++[⟨⟨mp,ms,mf,mr⟩,d⟩])):=wH.out;obtain⟨q0,dG,rW,tJ,rX⟩:=info_parts vP
   have dm:∀u,u ∈ [yY I mp,J I ms,J I mf,J I mr,D d]->u.oneCell'=K:=by
    intro u hu;simp at hu;rcases hu with rfl|rfl|rfl|rfl|rfl<;>rfl
   have dX:L2.length+1<=maxLen:=by unfold maxLen;omega
   have sD:(L2.length+1)*40<=140737488355328:=by omega
   have oo:w.heap.size<w3.heap.size:=aF;have fF:zl (w3.alloc (uv #[J I mp,J I ms,J I mf,J I mr,D d] 121)).drew 121 5 (R gX L2.length tX) L2.length (zL L2):=Hq.but (F:=fun _=>False) (((But.refl _ w3).alloc _).drew) (fun _ _=>id);obtain⟨g6,o6,cap6,w6,bJ,hO,Gb,hA⟩:=jH (P:=N) (w3.alloc (uv #[J I mp,J I ms,J I mf,J I mr,D d] 121)).drew 63 63 121 q0 _ 5 40 Tryz.underlying63 dG rW tJ rX rfl (by decide) _ _ _ fF ⟨w3.heap.size,0,B⟩ 1 1 [J I mp,J I ms,J I mf,J I mr,D d] rfl (fun j u hj=>uc (ur w3 _) j u hj) dm (by decide) dX sD;have l8:But (fun j=>(yJ gX L2.length tX).ownBlock=S j) w3 w6:=((But.refl _ w3).alloc _).drew.trans Gb (fun _ _ h=>h);have sS:w6.heap[b]?=w3.heap[b]?:=l8.block b bH lS;have e9:w6.cell? ⟨b,0,B⟩=S (R gX L2.length tX):=(U sS).trans r0;have Mh:w6.frozen? ⟨b,0,B⟩=O:=(T sS).trans rf
   have uB:zl w6 121 5 (R (S ⟨g6,o6,B⟩) (L2.length+1) cap6) (L2++[Pg.Ln.mk ⟨mp,ms,mf,mr⟩ d]).length (zL (L2++[Pg.Ln.mk ⟨mp,ms,mf,mr⟩ d])):=by
    rw[xN,un];exact hO
   have HF:C _:=Ph.out.put l8 uB (fun j hj=>by
    rcases hA with h|h
    ·exact .inl (h.trans hj)
    ·exact .inr (by simp[kp]at hj;simp at h;omega)) mX.out
   have K3:b<w6.heap.size:=E bH l8.size;clear t3 aF uB l8 hO hA Gb sS Hq fF
   go_wp2
   go_region_law (refine zw rfl (.tmp 31) (.tmp 33) 63 63 rfl (R gX L2.length tX) (R (S ⟨w3.heap.size,0,B⟩) 1 1) (by simp[Act.eval]) (by simp[Act.eval]) bJ ?_)
   all_goals
    go_wp2
    go_ret
    obtain⟨f1,f2,f3⟩:=HF.out;refine⟨rfl,_,by rw[<-gW.out];exact f1,wC.out.trans f2 (fun i hi hg=>(mW.out i hg).elim id (fun h=>by omega)),fun k hk=>(f3 k hk).elim (mW.out k) (fun h=> .inr (by omega))⟩
  ·have i6:((L1.length:Int)==6)=O:=by
    have:¬((L1.length:Int)=6):=by omega
    simpa using this
   have eR:L1=L2:=by rw[gW.out];simp[Pg.yjr,h6]
   rw[eR]at h2 c20 i6 sW;clear eR;have wC:C _:=lX.out;have mW:C (∀k,bkF b (R Pk L2.length cap2) k->F k\/w.heap.size<=k):=fun k hk=>(sW.out k hk).imp id (fun h=>by omega);have t3:C _:=h2;have x0:w2.cell? ⟨w.heap.size,0,B⟩=S (J I mp):=(nG 0).trans (by simp[go_sem]);have x1:w2.cell? ⟨w.heap.size,1,B⟩=S (J I ms):=(nG 1).trans (by simp[go_sem]);have x2:w2.cell? ⟨w.heap.size,2,B⟩=S (J I mf):=(nG 2).trans (by simp[go_sem]);have x3:w2.cell? ⟨w.heap.size,3,B⟩=S (J I mr):=(nG 3).trans (by simp[go_sem]);have x4:w2.cell? ⟨w.heap.size,4,B⟩=S (D d):=(nG 4).trans (by simp[go_sem]);have aF:w.heap.size<w2.heap.size:=pJ;clear nG h2 UZ
   go_wp2_with fail
   clear c20 FV;have t3:=t3.out;generalize w2=w3 at*;generalize Pk=gX at*;generalize cap2=tX at*;have Hq:=t3.row;have r0:=t3.c0;have rf:=t3.fb 0;have bH:=t3.lb;have lS:=t3.nb;have iQ:L2.length<=5:=FC.out;have Ph:C _:=t3;have mX:C (Pg.Kept (L2++[⟨⟨mp,ms,mf,mr⟩,d⟩])):=wH.out;obtain⟨q0,dG,rW,tJ,rX⟩:=info_parts vP
   have dm:∀u,u ∈ [yY I mp,J I ms,J I mf,J I mr,D d]->u.oneCell'=K:=by
    intro u hu;simp at hu;rcases hu with rfl|rfl|rfl|rfl|rfl<;>rfl
   have dX:L2.length+1<=maxLen:=by unfold maxLen;omega
   have sD:(L2.length+1)*40<=140737488355328:=by omega
   have oo:w.heap.size<w3.heap.size:=aF;have fF:zl (w3.alloc (uv #[J I mp,J I ms,J I mf,J I mr,D d] 121)).drew 121 5 (R gX L2.length tX) L2.length (zL L2):=Hq.but (F:=fun _=>False) (((But.refl _ w3).alloc _).drew) (fun _ _=>id);obtain⟨g6,o6,cap6,w6,bJ,hO,Gb,hA⟩:=jH (P:=N) (w3.alloc (uv #[J I mp,J I ms,J I mf,J I mr,D d] 121)).drew 63 63 121 q0 _ 5 40 Tryz.underlying63 dG rW tJ rX rfl (by decide) _ _ _ fF ⟨w3.heap.size,0,B⟩ 1 1 [J I mp,J I ms,J I mf,J I mr,D d] rfl (fun j u hj=>uc (ur w3 _) j u hj) dm (by decide) dX sD;have l8:But (fun j=>(yJ gX L2.length tX).ownBlock=S j) w3 w6:=((But.refl _ w3).alloc _).drew.trans Gb (fun _ _ h=>h);have sS:w6.heap[b]?=w3.heap[b]?:=l8.block b bH lS;have e9:w6.cell? ⟨b,0,B⟩=S (R gX L2.length tX):=(U sS).trans r0;have Mh:w6.frozen? ⟨b,0,B⟩=O:=(T sS).trans rf
   have uB:zl w6 121 5 (R (S ⟨g6,o6,B⟩) (L2.length+1) cap6) (L2++[Pg.Ln.mk ⟨mp,ms,mf,mr⟩ d]).length (zL (L2++[Pg.Ln.mk ⟨mp,ms,mf,mr⟩ d])):=by
    rw[xN,un];exact hO
   have HF:C _:=Ph.out.put l8 uB (fun j hj=>by
    rcases hA with h|h
    ·exact .inl (h.trans hj)
    ·exact .inr (by simp[kp]at hj;simp at h;omega)) mX.out
   have K3:b<w6.heap.size:=E bH l8.size;clear t3 aF uB l8 hO hA Gb sS Hq fF
   go_wp2
   go_region_law (refine zw rfl (.tmp 31) (.tmp 33) 63 63 rfl (R gX L2.length tX) (R (S ⟨w3.heap.size,0,B⟩) 1 1) (by simp[Act.eval]) (by simp[Act.eval]) bJ ?_)
   all_goals
    go_wp2
    go_ret
    obtain⟨f1,f2,f3⟩:=HF.out;refine⟨rfl,_,by rw[<-gW.out];exact f1,wC.out.trans f2 (fun i hi hg=>(mW.out i hg).elim id (fun h=>by omega)),fun k hk=>(f3 k hk).elim (mW.out k) (fun h=> .inr (by omega))⟩
 ·have hr:(l.m.code==0)=O:=by simp[Hz]
  have Ho:(Pg.check l.m.p l.m.s l.m.f l.m.r !=0)=K:=by
   have:Pg.check l.m.p l.m.s l.m.f l.m.r≠0:=Hz
   simpa using this
  rw[hr,Pg.ylI Hz];clear Hz hr h;obtain⟨⟨mp,ms,mf,mr⟩,d⟩:=l;simp only at sP Ho;simp only[Pg.Ln.val];generalize Pg.check mp ms mf mr=x at*
  go_enter Tryz.func58,Tryz.ntmps58
  go_wp2_with fail
  refine(sP _).mono ?_;rintro e w1 ⟨rfl,Ha⟩;have HB:C (Lw w w1):=zT (zA (zR _) _) Ha;clear Ha
  go_wp2
  go_ret
  exact⟨rfl,_,HX.out.grow HB.out,Chg.yhJ HB.out rY,fun k hk=> .inl hk⟩
structure ygc (w:X) (b:Nat) (ad:Option Addr) (cap:Nat) (L:List Pg.Mp):Prop where
 c0:w.cell? ⟨b,0,B⟩=S (R ad L.length cap)
 maps:zm w ad L
 good:Pg.Good L
namespace ygc
variable {w w':X} {b:Nat} {ad:Option Addr} {cap:Nat} {L:List Pg.Mp}
theorem lb (h:ygc w b ad cap L):b<w.heap.size:=yI _ _ h.c0
theorem grow (h:ygc w b ad cap L) (hb:Lw w w'):ygc w' b ad cap L:=⟨(hb.cell (p:=⟨b,0,B⟩) h.lb).trans h.c0,h.maps.below hb,h.good⟩
end ygc
theorem yd4 {b:Nat} {ad:Option Addr} {cap:Nat} {L:List Pg.Mp} (q:Int) (hq:Pg.fits q) (w:X) (h:ygc w b ad cap L):
 z N 83 #[ki (S ⟨b,0,B⟩),J I q] w fun e w'=>e=Y (J I (Pg.fndN L q))/\Lw w w':=by
 have Hg:=h.good.len;have HB:C _:=h;clear h
 go_enter Tryz.func83,Tryz.ntmps83
 go_wp2
 go_loopw [5] (fun i wr=>∃j:Nat,j<=L.length/\i=J I j/\C ((∀t,t<j->(L.getD t .zz).has q=O)/\Lw w wr)) (fun i _=>L.length-(intOf i).toNat)
 case atStart=>exact⟨0,by omega,rfl,⟨fun t ht=>by omega,zR _⟩⟩
 case round=>
  obtain⟨j,hj,rfl,HR⟩:=hrel;have rT:=(HB.out.grow HR.out.2).c0
  have i0:(0:Int)<=(j:Int):=by omega
  by_cases Hf:j<L.length
  ·obtain⟨g,rfl,hg,hm⟩:=(HB.out.grow HR.out.2).maps j Hf
   obtain⟨k0,k1,k2,k3⟩:=hm
   have i1:(j:Int)<(L.length:Int):=by omega
   have d9:=HB.out.good.ok (L.getD j .zz) (by rw[Pg.yjg Hf];exact List.getElem_mem _);have HC:=qA (L.getD j .zz).p (L.getD j .zz).s (L.getD j .zz).f (L.getD j .zz).r q (Pg.yjW d9).2.2.1 hq wr;cases hh:(L.getD j .zz).has q
   ·have HN:C (∀t,t<j+1->(L.getD t .zz).has q=O):=fun t ht=>by
     by_cases e:t=j
     ·rw[e];exact hh
     ·exact HR.out.1 t (by omega)
    rw[show Pg.over (L.getD j .zz).p (L.getD j .zz).s q=O from hh]at HC;clear hh d9;generalize L.getD j .zz=x at*;obtain⟨p,s,f,r⟩:=x
    go_wp2_with (go_at_call 132;refine HC.mono ?_;rintro e w1 ⟨rfl,Ha⟩;have uT:C _:=zT HR.out.2 Ha;clear Ha)
    go_roundw
    case rel=>exact⟨j+1,by omega,by go_num,⟨HN.out,uT.out⟩⟩
    case measure=>simp[intOf];omega
   ·have HF:C (Pg.fndN L q=(j:Int)):=by simp[C,Pg.fndN,Pg.yl4 Hf hh HR.out.1]
    rw[show Pg.over (L.getD j .zz).p (L.getD j .zz).s q=K from hh]at HC;clear hh d9;generalize L.getD j .zz=x at*;obtain⟨p,s,f,r⟩:=x
    go_wp2_with (go_at_call 132;refine HC.mono ?_;rintro e w1 ⟨rfl,Ha⟩;have uT:C _:=zT HR.out.2 Ha;clear Ha)
    go_ret
    exact⟨zy HF.out.symm,uT.out⟩
  ·have i1:¬(j:Int)<(L.length:Int):=by omega
   have HF:C (Pg.fndN L q= -1):=by
    have:Pg.fnd L q=B:=Pg.yl3 fun t ht=>HR.out.1 t (by omega);simp[C,Pg.fndN,this]
   go_wp2
   go_ret
   exact⟨zy HF.out.symm,HR.out.2⟩
theorem ycg {b:Nat} {ad:Option Addr} {cap:Nat} {L:List Pg.Mp} (q k:Int) (u:Bool) (hq:Pg.fits q) (w:X) (h:ygc w b ad cap L):
 z N 44 #[ki (S ⟨b,0,B⟩),A #[J I q,J I k,D u]] w fun e w'=>
  e=Y (A #[J I (Pg.ansE L q k u),J I (Pg.ansF L q k u),J I (Pg.ansR L q k u)])/\Lw w w':=by
 have HX:C _:=h;have HF:=fun o o'=>yd4 q hq ((w.alloc o).alloc o') ((h.grow (zA (zR _) o)).grow (zA (zR _) o'));have Hg:=h.good.len
 cases hf:Pg.fnd L q with
 | none=>
   have e1:Pg.fndN L q= -1:=by simp[Pg.fndN,hf]
   have e2:Pg.ansE L q k u=1:=by simp[Pg.ansE,hf]
   have e3:Pg.ansF L q k u=0:=by simp[Pg.ansF,hf]
   have e4:Pg.ansR L q k u=0:=by simp[Pg.ansR,hf]
   rw[e2,e3,e4];rw[e1]at HF;clear h e1 e2 e3 e4 hf
   go_enter Tryz.func44,Tryz.ntmps44
   go_wp2_with fail
   refine(HF _ _).mono ?_;rintro e w1 ⟨rfl,Ha⟩;have hr:∀o,w1.cell? ⟨w.heap.size+1,o,B⟩=_:=fun o=>Ha.cell (p:=⟨w.heap.size+1,o,B⟩) (by simp);have hf:∀o,w1.frozen? ⟨w.heap.size+1,o,B⟩=_:=fun o=>Ha.frozen (p:=⟨w.heap.size+1,o,B⟩) (by simp);have hB:C (Lw w w1):=zT (zA (zA (zR _) _) _) Ha;clear Ha HF
   go_wp2
   refine Q (v:=A #[J I 1,J I 0,J I 0]) ?_ rfl ⟨rfl,?_⟩
   ·simp[results,Tryz.results44,go_sem,hr]
   ·exact((hB.out.setCell (by simp) _).setCell (by simp) _).setCell (by simp) _
 | some j=>
   have hj:=Pg.fnd_some hf
   have e1:Pg.fndN L q=(j:Int):=by simp[Pg.fndN,hf]
   have e2:Pg.ansE L q k u=Pg.aEnd (L.getD j .zz).r k u:=by simp only[Pg.ansE,hf]
   have e3:Pg.ansF L q k u=Pg.yie (L.getD j .zz).p (L.getD j .zz).f (L.getD j .zz).r q k u:=by simp only[Pg.ansF,hf]
   have e4:Pg.ansR L q k u=Pg.yh1 (L.getD j .zz).r k u:=by simp only[Pg.ansR,hf]
   rw[e2,e3,e4];rw[e1]at HF;have HA:=qn (L.getD j .zz).p (L.getD j .zz).s (L.getD j .zz).f (L.getD j .zz).r q k u;have KP:=hj.1;obtain⟨g,rfl,hg,hm⟩:=h.maps j KP;have rT:=h.c0;have rY:=h.lb
   have i0:(0:Int)<=(j:Int):=by omega
   have i1:(j:Int)<(L.length:Int):=by omega
   have n0:¬(j:Int)<0:=by omega
   obtain⟨k0,k1,k2,k3⟩:=hm;clear h e1 e2 e3 e4 hf hj;generalize L.getD j .zz=y at*;obtain⟨mp,ms,mf,mr⟩:=y;simp only at k0 k1 k2 k3 HA ⊢
   go_enter Tryz.func44,Tryz.ntmps44
   go_wp2_with fail
   refine(HF _ _).mono ?_;rintro e w1 ⟨rfl,Ha⟩;have hB:Lw w w1:=zT (zA (zA (zR _) _) _) Ha;have hr:C (∀o,w1.cell? ⟨w.heap.size+1,o,B⟩=_):=fun o=>Ha.cell (p:=⟨w.heap.size+1,o,B⟩) (by simp);have hf:C (∀o,w1.frozen? ⟨w.heap.size+1,o,B⟩=_):=fun o=>Ha.frozen (p:=⟨w.heap.size+1,o,B⟩) (by simp);have a0:w1.cell? ⟨w.heap.size,0,B⟩=S (J I q):=(Ha.cell (p:=⟨w.heap.size,0,B⟩) (by simp;omega)).trans (by simp[go_sem]);have a1:w1.cell? ⟨w.heap.size,1,B⟩=S (J I k):=(Ha.cell (p:=⟨w.heap.size,1,B⟩) (by simp;omega)).trans (by simp[go_sem]);have a2:w1.cell? ⟨w.heap.size,2,B⟩=S (D u):=(Ha.cell (p:=⟨w.heap.size,2,B⟩) (by simp;omega)).trans (by simp[go_sem])
   have sN:w.heap.size+1<w1.heap.size:=by have:=Ha.size;simp at this;omega
   have b0:=(hB.cell (p:=⟨b,0,B⟩) rY).trans rT;have l0:=(hB.cell (p:=⟨g,j*4,B⟩) hg).trans k0;have l1:=(hB.cell (p:=⟨g,j*4+1,B⟩) hg).trans k1;have l2:=(hB.cell (p:=⟨g,j*4+2,B⟩) hg).trans k2;have l3:=(hB.cell (p:=⟨g,j*4+3,B⟩) hg).trans k3;have dA:b<w1.heap.size:=E rY hB.size;have ol:g<w1.heap.size:=E hg hB.size
   have Nh:w.heap.size<w1.heap.size:=by omega
   have y1:w.heap.size+1≠b:=by omega
   have y2:w.heap.size+1≠g:=by omega
   have y3:b≠w.heap.size+1:=by omega
   have y4:g≠w.heap.size+1:=by omega
   have HB:C _:=hB;clear Ha HF hB k0 k1 k2 k3 rT
   go_wp2
   go_region_held3 (fun w'=>w'.cell? ⟨b,0,B⟩=S (R (S ⟨g,0,B⟩) L.length cap)/\w'.cell? ⟨g,j*4,B⟩=S (J I mp)/\w'.cell? ⟨g,j*4+1,B⟩=S (J I ms)/\w'.cell? ⟨g,j*4+2,B⟩=S (J I mf)/\w'.cell? ⟨g,j*4+3,B⟩=S (J I mr)/\w'.cell? ⟨w.heap.size,0,B⟩=S (J I q)/\w'.cell? ⟨w.heap.size,1,B⟩=S (J I k)/\w'.cell? ⟨w.heap.size,2,B⟩=S (D u)) (go_keep) (first
    | (go_at_call 84;refine(HA _).mono ?_;rintro e w2 ⟨rfl,Hd⟩;have s0:∀o,w2.cell? ⟨w.heap.size+1,o,B⟩=_:=fun o=>(Hd.cell (p:=⟨w.heap.size+1,o,B⟩) (by simpa using sN)).trans (hr.out o);have s1:∀o,w2.frozen? ⟨w.heap.size+1,o,B⟩=_:=fun o=>(Hd.frozen (p:=⟨w.heap.size+1,o,B⟩) (by simpa using sN)).trans (hf.out o);have z0:=(Hd.cell (p:=⟨b,0,B⟩) (by simpa using dA)).trans (by simpa using b0);have z1:=(Hd.cell (p:=⟨g,j*4,B⟩) (by simpa using ol)).trans (by simpa using l0);have z2:=(Hd.cell (p:=⟨g,j*4+1,B⟩) (by simpa using ol)).trans (by simpa using l1);have z3:=(Hd.cell (p:=⟨g,j*4+2,B⟩) (by simpa using ol)).trans (by simpa using l2);have z4:=(Hd.cell (p:=⟨g,j*4+3,B⟩) (by simpa using ol)).trans (by simpa using l3);have z5:=(Hd.cell (p:=⟨w.heap.size,0,B⟩) (by simpa using Nh)).trans (by simpa using a0);have z6:=(Hd.cell (p:=⟨w.heap.size,1,B⟩) (by simpa using Nh)).trans (by simpa using a1);have z7:=(Hd.cell (p:=⟨w.heap.size,2,B⟩) (by simpa using Nh)).trans (by simpa using a2);have Ht:C (Lw w w2):=zT HB.out.drew Hd;clear Hd))
   all_goals
    go_wp2
    refine Q (v:=A #[J I (Pg.aEnd mr k u),J I (Pg.yie mp mf mr q k u),J I (Pg.yh1 mr k u)]) ?_ rfl ⟨rfl,?_⟩
    ·simp[results,Tryz.results44,go_sem,s0]
    ·exact((Ht.out.setCell (by simp) _).setCell (by simp) _).setCell (by simp) _
end
end Go.Proofs.YtdphiompijbelaaGreat
