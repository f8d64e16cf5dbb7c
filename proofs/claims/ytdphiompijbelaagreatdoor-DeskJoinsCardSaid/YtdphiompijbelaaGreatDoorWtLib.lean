import Derived.Test.YtdphiompijbelaaGreatDoorBookDel
import Derived.Deep.RegionWith
import Derived.WideKeyRuns
import Derived.Laws.StructEq
import Derived.MapKept
import Derived.Test.YtdphiompijbelaaGreatDoorDkY
set_option linter.all false
set_option maxRecDepth 100000
open Go.Obj renaming cells->d
open Bool renaming true->z,false->kF
open Array renaming getElem?_eq_some_iff->H,toList_modify->kS
open List renaming mem_of_getElem?->D,mem_iff_getElem?->kI,getElem?_modify->kB,mem_cons->kP,length_take->kC,length_set->kN
open Nat renaming le_refl->M
open Go.World renaming frozen?_of_block->O,cell?_of_block->E,frozen?->kY,ownsRow->kT
open Go.RowKit renaming Hid->T
open Go.Ending renaming returned->R
open Go renaming cell_later->C,World->N,bodyPost_ret->Q,Calls->X,heap_alloc_new->kJ,Value->kV
open Go.Proofs.Tryz renaming prog->P
open Option renaming none->B,some->S
open Go.Value renaming int->J,slice->Y,pointer->Z,agg->U,tuple->K,ownBlock->A,bool->kR
open Go.IntKind renaming i64->I
set_option maxHeartbeats 4000000
namespace Go.Proofs.YtdphiompijbelaaGreatDoor
open Go.RowKit
section
open Go.Sort
structure qv (w:N) (b:Nat) (L:List Pg.Mp) (F:Nat->Prop):Prop where
 ex:∃vb,Dbk w b vb L/\F=bkF b vb
section
variable {w w':N} {b:Nat} {L:List Pg.Mp} {F G:Nat->Prop}
theorem qv.lt (h:qv w b L F) {k:Nat} (hk:F k):k<w.heap.size:=by
 obtain⟨vb,h,rfl⟩:=h;exact h.lt hk
theorem qv.keep (h:qv w b L F) (hb:But G w w') (hF:∀k,F k->¬G k):qv w' b L F:=by
 obtain⟨vb,h,rfl⟩:=h;exact⟨vb,h.keep hb hF,rfl⟩
end
theorem yfn {w:N} {vb:kV} {L:List Pg.Mp} {t:TypeId} (hr:w.ownsRow 0 76 4 vb L.length (zC L)) (hg:Pg.Good L):Dbk (w.alloc (d #[vb] t)) w.heap.size vb L:=by
 have hb:=kJ w (d #[vb] t);refine⟨cell_of_row _ _ 0 _ _ _ hb,fun o=>by unfold kY;simp only[hb];simp,hr.alloc _,fun e=> ?_,hg⟩;have:=(hr.lt _ e).2;omega
theorem ydL (w:N):
 X P 109 #[] w fun e w'=>∃b F,e=R (Z (S ⟨b,0,B⟩))/\qv w' b [] F/\Below w.heap.size w w'/\∀k,F k->w.heap.size<=k:=by
 go_enter Tryz.func109,Tryz.ntmps109
 go_wp2_with fail
 go_ret
 refine⟨_,_,rfl,⟨Y B 0 0,yfn (World.ownsRow_nil _ _ _ _) Pg.Good.nil,rfl⟩,zA (zR _) _,fun k hk=> ?_⟩;rcases hk with rfl|hk
 ·exact M _
 ·simp[A]at hk
section
variable {b:Nat} {L:List Pg.Mp} {F:Nat->Prop}
theorem yc1 (w:N) (h:qv w b L F):
 X P 198 #[Z (S ⟨b,0,B⟩)] w fun e w'=>∃ad cap,e=R (Y ad L.length cap)/\xg w' ad L/\Below w.heap.size w w'/\∀k,(Value.slice ad L.length cap).ownBlock=S k->w.heap.size<=k:=by
 obtain⟨vb,h,rfl⟩:=h;have hc0:=h.c0;have HC:T _:=ya5 w h.row h.good.len;clear h
 go_enter Tryz.func198,Tryz.ntmps198
 go_wp2_with fail
 refine Calls.mono HC.out ?_;rintro e w1 ⟨v',rfl,hr,hb⟩;obtain⟨ad,cap,rfl⟩:=zF hr;have HR:T _:=hr;have HB:T _:=hb;clear hr hb
 go_wp2_with fail
 go_ret
 exact⟨ad,cap,rfl,jj HR.out,HB.out,fun k hk=>(kT.lt HR.out k hk).1⟩
theorem ycY (w:N) (h:qv w b L F):
 X P 194 #[Z (S ⟨b,0,B⟩)] w fun e w'=>∃b' F',e=R (Z (S ⟨b',0,B⟩))/\qv w' b' L F'/\Below w.heap.size w w'/\∀k,F' k->w.heap.size<=k:=by
 obtain⟨vb,h,rfl⟩:=h;have hc0:=h.c0;have HG:T _:=h.good;have HC:T _:=ya5 w h.row h.good.len;clear h
 go_enter Tryz.func194,Tryz.ntmps194
 go_wp2_with fail
 refine Calls.mono HC.out ?_;rintro e w1 ⟨v',rfl,hr,hb⟩;obtain⟨ad,cap,rfl⟩:=zF hr;have HR:T _:=hr;have HB:T _:=hb;clear hr hb
 go_wp2_with fail
 go_ret
 refine⟨_,_,rfl,⟨_,yfn (yaY HR.out) HG.out,rfl⟩,zA HB.out _,fun k hk=> ?_⟩;rcases hk with rfl|hk
 ·exact HB.out.size
 ·exact(kT.lt HR.out k hk).1
theorem yc0 (q:Int) (hq:Pg.fits q) (w:N) (h:qv w b L F):
 X P 237 #[Z (S ⟨b,0,B⟩),J I q] w fun e w'=>e=R (K #[(Pg.at' L q).val,kR (Pg.fnd L q).isSome])/\Below w.heap.size w w':=by
 obtain⟨vb,h,rfl⟩:=h;have hfh:=Pg.ykJ h.good q;have HH:=fun o=>jF q hq (w.alloc o) (h.grow (zA (zR _) o));cases hh:Pg.hit L (Pg.lkP q)
 ·have e0:Pg.fnd L q=B:=by rw[hfh,hh];rfl
  have e1:Pg.at' L q= .zz:=by simp only[Pg.at',e0]
  rw[e0,e1];simp only[hh]at HH;clear h e0 e1 hfh hh;generalize Pg.cut L (Pg.lkP q)=c at*
  go_enter Tryz.func237,Tryz.ntmps237
  go_wp2_with fail
  refine(HH _).mono ?_;rintro e w1 ⟨rfl,hb1⟩;have hr:∀o,w1.cell? ⟨w.heap.size,o,B⟩=_:=fun o=>hb1.cell (p:=⟨w.heap.size,o,B⟩) (by simp);have hf:∀o,w1.frozen? ⟨w.heap.size,o,B⟩=_:=fun o=>hb1.frozen (p:=⟨w.heap.size,o,B⟩) (by simp);have hB:T (Below w.heap.size w w1):=zT (zA (zR _) _) hb1;clear hb1 HH
  go_wp2_with fail
  refine Q (v:=K #[U #[J I 0,J I 0,J I 0,J I 0],kR kF]) ?_ rfl ⟨rfl,?_⟩
  ·simp[results,Tryz.results237,go_sem,hr]
  ·exact zo hB.out _ (M _) _ _ _ _
 ·obtain⟨hlt,_⟩:=Pg.yiI.1 hh
  have e0:Pg.fnd L q=S (Pg.cut L (Pg.lkP q)):=by rw[hfh,hh];rfl
  have e1:Pg.at' L q=L.getD (Pg.cut L (Pg.lkP q)) .zz:=by simp only[Pg.at',e0]
  rw[e0,e1];simp only[hh]at HH;clear e0 e1 hfh hh;generalize Pg.cut L (Pg.lkP q)=j at*;obtain⟨g,cap,rfl,hg,hm0,hm1,hm2,hm3⟩:=h.mp hlt;have hc0:=h.c0;have hlb:=h.lb;have hlen:=h.good.len
  have i0:(0:Int)<=(j:Int):=by omega
  have i1:(j:Int)<(L.length:Int):=by omega
  clear h;generalize L.getD j .zz=m at*;generalize L.length=n at*;obtain⟨mp,ms,mf,mr⟩:=m;simp only at hm0 hm1 hm2 hm3
  go_enter Tryz.func237,Tryz.ntmps237
  go_wp2_with fail
  refine(HH _).mono ?_;rintro e w1 ⟨rfl,hb1⟩;have hr:∀o,w1.cell? ⟨w.heap.size,o,B⟩=_:=fun o=>hb1.cell (p:=⟨w.heap.size,o,B⟩) (by simp);have hf:∀o,w1.frozen? ⟨w.heap.size,o,B⟩=_:=fun o=>hb1.frozen (p:=⟨w.heap.size,o,B⟩) (by simp);have hB0:Below w.heap.size w w1:=zT (zA (zR _) _) hb1;have hB:T _:=hB0;have c0:=C hB0 hc0;have m0:=C hB0 hm0;have m1:=C hB0 hm1;have m2:=C hB0 hm2;have m3:=C hB0 hm3;clear hb1 HH hB0 hc0 hm0 hm1 hm2 hm3
  go_wp2_with fail
  refine Q (v:=K #[U #[J I mp,J I ms,J I mf,J I mr],kR z]) ?_ rfl ⟨rfl,?_⟩
  ·simp[results,Tryz.results237,go_sem,hr]
  ·exact zo hB.out _ (M _) _ _ _ _
theorem qF (q k:Int) (u:Bool) (hq:Pg.fits q) (w:N) (h:qv w b L F):
 X P 196 #[Z (S ⟨b,0,B⟩),U #[J I q,J I k,kR u]] w fun e w'=>
  e=R (U #[J I (Pg.ansE L q k u),J I (Pg.ansF L q k u),J I (Pg.ansR L q k u)])/\Below w.heap.size w w':=by
 have HF:=fun o o'=>yc0 q hq ((w.alloc o).alloc o') (h.keep (G:=fun _=>False) (But.yhl (zA (zA (zR _) o) o')) (fun _ _=>id));clear h
 cases hf:Pg.fnd L q with
 | none=>
   have e1:Pg.at' L q= .zz:=by simp only[Pg.at',hf]
   have e2:Pg.ansE L q k u=1:=by simp[Pg.ansE,hf]
   have e3:Pg.ansF L q k u=0:=by simp[Pg.ansF,hf]
   have e4:Pg.ansR L q k u=0:=by simp[Pg.ansR,hf]
   rw[e2,e3,e4];rw[e1,hf]at HF;rw[show(.zz:Pg.Mp).val=U #[J I 0,J I 0,J I 0,J I 0]from rfl]at HF;simp only[Option.isSome_none]at HF;clear e1 e2 e3 e4 hf
   go_enter Tryz.func196,Tryz.ntmps196
   go_wp2_with fail
   refine(HF _ _).mono ?_;rintro e w1 ⟨rfl,hb1⟩;have hr:∀o,w1.cell? ⟨w.heap.size+1,o,B⟩=_:=fun o=>hb1.cell (p:=⟨w.heap.size+1,o,B⟩) (by simp);have hf:∀o,w1.frozen? ⟨w.heap.size+1,o,B⟩=_:=fun o=>hb1.frozen (p:=⟨w.heap.size+1,o,B⟩) (by simp)
   have hs:w.heap.size+1<w1.heap.size:=by have:=hb1.size;simp at this;omega
   have hB:T (Below w.heap.size w w1):=zT (zA (zA (zR _) _) _) hb1;clear hb1 HF
   go_wp2_with fail
   refine Q (v:=U #[J I 1,J I 0,J I 0]) ?_ rfl ⟨rfl,?_⟩
   ·simp[results,Tryz.results196,go_sem,hr,hs]
   ·exact zA (((hB.out.setCell (by simp) _).setCell (by simp) _).setCell (by simp) _) _
 | some j=>
   have e1:Pg.at' L q=L.getD j .zz:=by simp only[Pg.at',hf]
   have e2:Pg.ansE L q k u=Pg.aEnd (L.getD j .zz).r k u:=by simp only[Pg.ansE,hf]
   have e3:Pg.ansF L q k u=Pg.yij (L.getD j .zz).p (L.getD j .zz).f (L.getD j .zz).r q k u:=by simp only[Pg.ansF,hf]
   have e4:Pg.ansR L q k u=Pg.yhV (L.getD j .zz).r k u:=by simp only[Pg.ansR,hf]
   rw[e2,e3,e4];rw[e1,hf]at HF;simp only[Option.isSome_some]at HF;have HA:=jB (L.getD j .zz).p (L.getD j .zz).s (L.getD j .zz).f (L.getD j .zz).r q k u;clear e1 e2 e3 e4 hf;generalize L.getD j .zz=y at*;obtain⟨mp,ms,mf,mr⟩:=y;simp only[Pg.Mp.val]at HF HA ⊢;generalize Pg.aEnd mr k u=x0 at*;generalize Pg.yij mp mf mr q k u=x1 at*;generalize Pg.yhV mr k u=x2 at*
   go_enter Tryz.func196,Tryz.ntmps196
   go_wp2_with fail
   refine(HF _ _).mono ?_;rintro e w1 ⟨rfl,hb1⟩
   have hs:w.heap.size+1<w1.heap.size:=by have:=hb1.size;simp at this;omega
   have a0:w1.cell? ⟨w.heap.size,0,B⟩=S (J I q):=(hb1.cell (p:=⟨w.heap.size,0,B⟩) (by simp;omega)).trans (by simp[go_sem]);have a1:w1.cell? ⟨w.heap.size,1,B⟩=S (J I k):=(hb1.cell (p:=⟨w.heap.size,1,B⟩) (by simp;omega)).trans (by simp[go_sem]);have a2:w1.cell? ⟨w.heap.size,2,B⟩=S (kR u):=(hb1.cell (p:=⟨w.heap.size,2,B⟩) (by simp;omega)).trans (by simp[go_sem]);have hr:∀o,w1.cell? ⟨w.heap.size+1,o,B⟩=_:=fun o=>hb1.cell (p:=⟨w.heap.size+1,o,B⟩) (by simp);have hf:∀o,w1.frozen? ⟨w.heap.size+1,o,B⟩=_:=fun o=>hb1.frozen (p:=⟨w.heap.size+1,o,B⟩) (by simp)
   have hs0:w.heap.size<w1.heap.size:=by omega
   have hB:T (Below w.heap.size w w1):=zT (zA (zA (zR _) _) _) hb1;clear hb1 HF
   go_wp2_with fail
   refine(HA _).mono ?_;rintro e w2 ⟨rfl,hb2⟩
   have hs2:w.heap.size+1<w2.heap.size:=by have:=hb2.size;simp at this;omega
   have hr2:∀o,w2.cell? ⟨w.heap.size+1,o,B⟩=_:=fun o=>(hb2.cell (p:=⟨w.heap.size+1,o,B⟩) (by simp;omega)).trans ((Below.cell (p:=⟨w.heap.size+1,o,B⟩) (zA (zR w1) _) hs).trans (hr o));have hf2:∀o,w2.frozen? ⟨w.heap.size+1,o,B⟩=_:=fun o=>(hb2.frozen (p:=⟨w.heap.size+1,o,B⟩) (by simp;omega)).trans ((Below.frozen (p:=⟨w.heap.size+1,o,B⟩) (zA (zR w1) _) hs).trans (hf o));have hB2:T (Below w.heap.size w w2):=zT (zA hB.out _) hb2;clear hb2 hr hf hB a0 a1 a2 hs hs0 HA
   go_wp2_with fail
   refine Q (v:=U #[J I x0,J I x1,J I x2]) ?_ rfl ⟨rfl,?_⟩
   ·simp[results,Tryz.results196,go_sem,hr2]
   ·exact((hB2.out.setCell (by simp) _).setCell (by simp) _).setCell (by simp) _
end
theorem Dbk.put {w W:N} {b:Nat} {vb v':kV} {L L':List Pg.Mp} (h:Dbk w b vb L) (hb:But (fun j=>vb.ownBlock=S j) w W) (hr:W.ownsRow 0 76 4 v' L'.length (zC L')) (hv:∀j,v'.ownBlock=S j->vb.ownBlock=S j\/w.heap.size<=j) (hg:Pg.Good L'):
 Dbk (W.setCell ⟨b,0,B⟩ v') b v' L'/\But (bkF b vb) w (W.setCell ⟨b,0,B⟩ v')/\(∀k,bkF b v' k->bkF b vb k\/w.heap.size<=k):=by
 have hl:=h.lb;have kb:W.heap[b]?=w.heap[b]?:=hb.block b hl h.nb;have hc:W.cell? ⟨b,0,B⟩=S vb:=(E (a:=⟨b,0,B⟩) kb).trans h.c0;have hne:v'.ownBlock≠S b:=fun e=>(hv b e).elim h.nb (fun h=>by omega);refine⟨⟨World.cell?_setCell_same _ _ _ hc,fun o=> ?_,?_,hne,hg⟩,?_,fun k hk=> ?_⟩
 ·have:=(O (a:=⟨b,o,B⟩) kb).trans (h.fb o)
  simpa using this
 ·exact zc hr fun k hk=>Below.heap_setCell _ _ _ _ (fun e=>hne (by rw[hk];exact congrArg S e))
 ·exact(hb.mono (G:=bkF b vb) fun i _ hi=> .inr hi).setCell (a:=⟨b,0,B⟩) (.inr (.inl rfl)) _
 ·rcases hk with rfl|hk
  ·exact .inl (.inl rfl)
  ·exact(hv k hk).imp .inr id
section
variable {b:Nat} {L:List Pg.Mp} {F:Nat->Prop}
theorem ydK (m:Pg.Mp) (hm:Pg.fits m.p) (w:N) (h:qv w b L F):
 X P 189 #[Z (S ⟨b,0,B⟩),m.val] w fun e w'=>e=R (J I (Pg.addC L m))/\∃F',qv w' b (Pg.addL L m) F'/\But F w w'/\∀k,F' k->F k\/w.heap.size<=k:=by
 obtain⟨vb,h,rfl⟩:=h
 have HK:T (∀w',Below w.heap.size w w'->Pg.addC L m≠0->∃F',qv w' b (Pg.addL L m) F'/\But (bkF b vb) w w'/\∀k,F' k->bkF b vb k\/w.heap.size<=k):=fun w' hb hc=>
  ⟨bkF b vb,⟨vb,by rw[Pg.addL,if_neg hc];exact h.grow hb,rfl⟩,But.yhl hb,fun _ hk=> .inl hk⟩
 by_cases hcode:m.code=0
 ·have HM:=fun w' hb=>yck m hm w' (h.grow (w':=w') hb)
  have hah:=Pg.any_hit h.good hcode;cases hh:Pg.hit L (Pg.lkM m)
  ·have hC:T (Pg.addC L m=0):=by simp only[T,Pg.addC,hah,hh];simp[hcode]
   have hL:T (Pg.addL L m=L.take (Pg.cut L (Pg.lkM m))++m::L.drop (Pg.cut L (Pg.lkM m))):=by
    simp only[T,Pg.addL];rw[if_pos hC.out];exact Pg.ins_cut h.good hh
   have HI:T (∀(W:N) (V:Nat) (tV:TypeId),Below w.heap.size w W->w.heap.size<=V->W.heap[V]?=S (d #[J I m.p,J I m.s,J I m.f,J I m.r] tV)->
    X P 233 #[vb,J I (Pg.cut L (Pg.lkM m)),Y (S ⟨V,0,B⟩) 1 1] W fun e w'=>∃ad cap,e=R (Y ad (L.length+1) cap)/\w'.cell? ⟨b,0,B⟩=S vb/\w'.frozen? ⟨b,0,B⟩=kF/\
     T (∃F',qv (w'.setCell ⟨b,0,B⟩ (Y ad (L.length+1) cap)) b (Pg.addL L m) F'/\But (bkF b vb) w (w'.setCell ⟨b,0,B⟩ (Y ad (L.length+1) cap))/\∀k,F' k->bkF b vb k\/w.heap.size<=k)):=by
    intro W V tV hb hV hVc;have hW:=h.grow hb;refine(ydh W hW.row h.good.len (Pg.ykq _ _) hVc (fun e=>by have:=(h.row.lt _ e).2;omega)).mono ?_;rintro e w' ⟨v',rfl,hr,hB,hv⟩;obtain⟨ad,cap,rfl⟩:=zF hr;have kb:w'.heap[b]?=W.heap[b]?:=hB.block b hW.lb hW.nb
    have hlen:(Pg.addL L m).length=L.length+1:=by
     rw[hL.out];have:=Pg.ykq L (Pg.lkM m);simp only[List.length_append,List.length_cons,kC,List.length_drop];omega
    have hg:=h.good.add m
    have hr':w'.ownsRow 0 76 4 (Y ad (L.length+1) cap) (Pg.addL L m).length (zC (Pg.addL L m)):=by rw[hlen,hL.out];exact hr
    obtain⟨p1,p2,p3⟩:=hW.put hB hr' hv hg;refine⟨ad,cap,rfl,(E (a:=⟨b,0,B⟩) kb).trans hW.c0,(O (a:=⟨b,0,B⟩) kb).trans (hW.fb 0),⟨_,⟨_,p1,rfl⟩,?_,fun k hk=> ?_⟩⟩
    ·exact(But.yhl hb).trans p2 (fun i _ hi=>hi)
    ·exact(p3 k hk).imp id (fun h=>Nat.le_trans hb.size h)
   have hc0:=h.c0;have hlb:=h.lb;simp only[hh]at HM;rw[hC.out];have hce:Pg.check m.p m.s m.f m.r=0:=hcode;have HCK:=zE m.p m.s m.f m.r;rw[hce]at HCK;clear h hah hh HK hcode hL hC hce;generalize Pg.cut L (Pg.lkM m)=c at*;generalize Pg.addL L m=L' at*;generalize L.length=n at*;obtain⟨mp,ms,mf,mr⟩:=m;simp only[Pg.Mp.val]at HM ⊢;simp only at HI HCK
   go_enter Tryz.func189,Tryz.ntmps189
   go_wp2_with fail
   refine(HCK _).mono ?_;rintro e w1 ⟨rfl,hb1⟩;have hx:∀o,w1.cell? ⟨w.heap.size,o,B⟩=_:=fun o=>hb1.cell (p:=⟨w.heap.size,o,B⟩) (by simp);have b1:Below w.heap.size w w1:=zT (zA (zR _) _) hb1
   have hs1:w.heap.size<w1.heap.size:=by have:=hb1.size;simp at this;omega
   clear hb1
   go_wp2_with fail
   refine(HM _ b1).mono ?_;rintro e w2 ⟨rfl,hb2⟩;have z0:w2.cell? ⟨w.heap.size,0,B⟩=S (J I mp):=((hb2.cell (p:=⟨w.heap.size,0,B⟩) hs1).trans (hx 0)).trans (by simp[go_sem]);have z1:w2.cell? ⟨w.heap.size,1,B⟩=S (J I ms):=((hb2.cell (p:=⟨w.heap.size,1,B⟩) hs1).trans (hx 1)).trans (by simp[go_sem]);have z2:w2.cell? ⟨w.heap.size,2,B⟩=S (J I mf):=((hb2.cell (p:=⟨w.heap.size,2,B⟩) hs1).trans (hx 2)).trans (by simp[go_sem]);have z3:w2.cell? ⟨w.heap.size,3,B⟩=S (J I mr):=((hb2.cell (p:=⟨w.heap.size,3,B⟩) hs1).trans (hx 3)).trans (by simp[go_sem]);have hb3:Below w.heap.size w w2:=zT b1 hb2;have y0:=C hb3 hc0;have HB2:T _:=hb3;have hs2:w.heap.size<=w2.heap.size:=hb3.size;have hlb2:b<w2.heap.size:=Nat.lt_of_lt_of_le hlb hs2;clear hx hb2 hb3 b1 hs1 hc0 HM HCK
   go_wp2_with fail
   have hcall:T _:=HI.out ((w2.alloc (d #[J I mp,J I ms,J I mf,J I mr] 76)).drew) w2.heap.size 76 ((zA HB2.out _).trans ⟨rfl,rfl,rfl,M _,fun _ _=>rfl⟩) hs2 (kJ w2 _);clear HI
   go_region_with (go_at_call 233;refine Calls.mono hcall.out ?_;rintro e w' ⟨ad,cap,rfl,k0,k1,HF⟩)
   all_goals
    go_wp2_with fail
    go_ret
    exact⟨rfl,HF.out⟩
  ·have hC:T (Pg.addC L m=4):=by simp only[T,Pg.addC,hah,hh];simp[hcode]
   have HK':T _:=fun w' hb=>HK.out w' hb (by rw[hC.out];decide);simp only[hh]at HM;rw[hC.out];have hce:Pg.check m.p m.s m.f m.r=0:=hcode;have HCK:=zE m.p m.s m.f m.r;rw[hce]at HCK;clear h hah hh HK hcode hC hce;generalize Pg.cut L (Pg.lkM m)=c at*;generalize Pg.addL L m=L' at*;obtain⟨mp,ms,mf,mr⟩:=m;simp only[Pg.Mp.val]at HM ⊢;simp only at HCK
   go_enter Tryz.func189,Tryz.ntmps189
   go_wp2_with fail
   refine(HCK _).mono ?_;rintro e w1 ⟨rfl,hb1⟩;have hx:∀o,w1.cell? ⟨w.heap.size,o,B⟩=_:=fun o=>hb1.cell (p:=⟨w.heap.size,o,B⟩) (by simp);have b1:Below w.heap.size w w1:=zT (zA (zR _) _) hb1
   have hs1:w.heap.size<w1.heap.size:=by have:=hb1.size;simp at this;omega
   clear hb1
   go_wp2_with fail
   refine(HM _ b1).mono ?_;rintro e w2 ⟨rfl,hb2⟩;have HB2:T (Below w.heap.size w w2):=zT b1 hb2;clear hx hb2 b1 hs1 HM HCK
   go_wp2_with fail
   go_ret
   exact⟨rfl,HK'.out _ HB2.out⟩
 ·have hC:T (Pg.addC L m=Pg.check m.p m.s m.f m.r):=by simp only[T,Pg.addC];rw[if_pos hcode];rfl
  have HK':T _:=fun w' hb=>HK.out w' hb (by rw[hC.out];exact hcode)
  have hne:(Pg.check m.p m.s m.f m.r !=0)=z:=by
   have:Pg.check m.p m.s m.f m.r≠0:=hcode
   simpa using this
  rw[hC.out];have HCK:=zE m.p m.s m.f m.r;clear h HK hcode hC;generalize Pg.addL L m=L' at*;obtain⟨mp,ms,mf,mr⟩:=m;simp only at HCK hne;simp only[Pg.Mp.val];generalize Pg.check mp ms mf mr=x at*
  go_enter Tryz.func189,Tryz.ntmps189
  go_wp2_with fail
  refine(HCK _).mono ?_;rintro e w1 ⟨rfl,hb1⟩;have HB:T (Below w.heap.size w w1):=zT (zA (zR _) _) hb1;clear hb1
  go_wp2_with fail
  go_ret
  exact⟨rfl,HK'.out _ HB.out⟩
theorem yc2 {vb:kV} {L:List Pg.Mp} {k:Nat} (w:N) (hr:w.ownsRow 0 76 4 vb L.length (zC L)) (hn:L.length<=4096) (hk:k<L.length):
 X P 235 #[vb,J I k,J I (k+1)] w fun e w'=>∃g cap,vb=Y (S ⟨g,0,B⟩) L.length cap/\e=R (Y (S ⟨g,0,B⟩) (L.length-1) cap)/\w'.ownsRow 0 76 4 (Y (S ⟨g,0,B⟩) (L.length-1) cap) (L.eraseIdx k).length (zC (L.eraseIdx k))/\But (fun j=>vb.ownBlock=S j) w w':=by
 have hlen:(L.eraseIdx k).length=L.length-1:=by rw[List.length_eraseIdx,if_pos hk]
 have hcut:(zC L).take (k*4)++(zC L).drop ((k+1)*4)=zC (L.eraseIdx k):=by
  have e:∀j,j<=L.length->(zC L).take (j*4)=zC (L.take j)/\(zC L).drop (j*4)=zC (L.drop j):=by
   intro j hj
   have e:zC L=zC (L.take j)++zC (L.drop j):=by rw[<-zH,List.take_append_drop]
   have hl:(zC (L.take j)).length=j*4:=by rw[xy,kC];congr 1;omega
   exact⟨by rw[e,List.take_left' hl],by rw[e,List.drop_left' hl]⟩
  rw[(e k (by omega)).1,(e (k+1) (by omega)).2,<-zH,List.eraseIdx_eq_take_drop_succ]
 obtain⟨_,hrr⟩:=hr;rcases hrr with ⟨_,e0⟩|⟨g,cap,cur,rfl,_,hg,hc1,hc2,hc3,hc4⟩
 ·omega
 ·refine(yc3 w hg hn hk hc1 (by unfold maxLen at hc2;omega) hc3 hc4 (qJ L)).mono ?_
  rintro e w' ⟨rfl,h1,h2⟩;rw[hcut]at h1;exact⟨g,cap,rfl,rfl,by rw[hlen];exact h1,h2.mono fun i _ hi=>by rw[hi];rfl⟩
theorem ycZ (q:Int) (hq:Pg.fits q) (w:N) (h:qv w b L F):
 X P 191 #[Z (S ⟨b,0,B⟩),J I q] w fun e w'=>e=R (K #[(Pg.yi0 L q).val,J I (Pg.yhN L q)])/\∃F',qv w' b (Pg.yio L q) F'/\But F w w'/\∀k,F' k->F k\/w.heap.size<=k:=by
 obtain⟨vb,h,rfl⟩:=h
 have HK:T (∀w',Below w.heap.size w w'->Pg.yhN L q≠0->∃F',qv w' b (Pg.yio L q) F'/\But (bkF b vb) w w'/\∀k,F' k->bkF b vb k\/w.heap.size<=k):=fun w' hb hc=>
  ⟨bkF b vb,⟨vb,by rw[Pg.yio,if_neg hc];exact h.grow hb,rfl⟩,But.yhl hb,fun _ hk=> .inl hk⟩
 cases hb4:Pg.below q 4096
 ·have hC:Pg.yhN L q=1:=by simp[Pg.yhN,hb4]
  have hM:Pg.yi0 L q= .zz:=by simp[Pg.yi0,hC]
  have HK':T _:=fun w' hb=>HK.out w' hb (by rw[hC];decide);rw[hC,hM,show(.zz:Pg.Mp).val=U #[J I 0,J I 0,J I 0,J I 0]from rfl];clear h HK hC hM;generalize Pg.yio L q=L' at*
  go_enter Tryz.func191,Tryz.ntmps191
  go_wp2_with (go_at_call 208;refine(zN _ _).mono ?_;rintro e w' ⟨rfl,rfl⟩)
  refine Q (v:=K #[U #[J I 0,J I 0,J I 0,J I 0],J I 1]) ?_ rfl ⟨rfl,?_⟩
  ·simp[results,Tryz.results191,go_sem]
  ·exact HK'.out _ (zA (zR _) _)
 ·have hfh:=Pg.ykJ h.good q
  have HH:=fun o=>jF q hq (w.alloc o) (h.grow (zA (zR _) o));cases hh:Pg.hit L (Pg.lkP q)
  ·have e0:Pg.fnd L q=B:=by rw[hfh,hh];rfl
   have hC:Pg.yhN L q=5:=by simp[Pg.yhN,hb4,e0]
   have hM:Pg.yi0 L q= .zz:=by simp[Pg.yi0,hC]
   have HK':T _:=fun w' hb=>HK.out w' hb (by rw[hC];decide);rw[hC,hM,show(.zz:Pg.Mp).val=U #[J I 0,J I 0,J I 0,J I 0]from rfl];simp only[hh]at HH;clear h HK hC hM e0 hfh hh;generalize Pg.yio L q=L' at*;generalize Pg.cut L (Pg.lkP q)=c at*
   go_enter Tryz.func191,Tryz.ntmps191
   go_wp2_with (go_at_call 208;refine(zN _ _).mono ?_;rintro e w' ⟨rfl,rfl⟩)
   refine(HH _).mono ?_;rintro e w1 ⟨rfl,hb1⟩;have hr:∀o,w1.cell? ⟨w.heap.size,o,B⟩=_:=fun o=>hb1.cell (p:=⟨w.heap.size,o,B⟩) (by simp);have hf:∀o,w1.frozen? ⟨w.heap.size,o,B⟩=_:=fun o=>hb1.frozen (p:=⟨w.heap.size,o,B⟩) (by simp);have hB:T (Below w.heap.size w w1):=zT (zA (zR _) _) hb1;clear hb1 HH
   go_wp2_with fail
   refine Q (v:=K #[U #[J I 0,J I 0,J I 0,J I 0],J I 5]) ?_ rfl ⟨rfl,?_⟩
   ·simp[results,Tryz.results191,go_sem,hr]
   ·exact HK'.out _ (zo hB.out _ (M _) _ _ _ _)
  ·obtain⟨hlt,_⟩:=Pg.yiI.1 hh
   have e0:Pg.fnd L q=S (Pg.cut L (Pg.lkP q)):=by rw[hfh,hh];rfl
   have hC:Pg.yhN L q=0:=by simp[Pg.yhN,hb4,e0]
   have hM:Pg.yi0 L q=L.getD (Pg.cut L (Pg.lkP q)) .zz:=by simp only[Pg.yi0,hC,if_true,Pg.at',e0]
   have hL:Pg.yio L q=L.eraseIdx (Pg.cut L (Pg.lkP q)):=by simp only[Pg.yio,hC,if_true,e0]
   rw[hC,hM,hL];simp only[hh]at HH;clear HK hC hM hL e0 hfh hh;generalize Pg.cut L (Pg.lkP q)=j at*;obtain⟨g,cap,rfl,hg,hm0,hm1,hm2,hm3⟩:=h.mp hlt;have hnb:g≠b:=fun e=>h.nb (by rw[e];rfl)
   have HD:T (∀W,Below w.heap.size w W->X P 235 #[Y (S ⟨g,0,B⟩) L.length cap,J I j,J I (j+1)] W fun e w'=>e=R (Y (S ⟨g,0,B⟩) (L.length-1) cap)/\w'.cell? ⟨b,0,B⟩=S (Y (S ⟨g,0,B⟩) L.length cap)/\w'.frozen? ⟨b,0,B⟩=kF/\But (fun k=>k=g) W w'/\
    T (qv (w'.setCell ⟨b,0,B⟩ (Y (S ⟨g,0,B⟩) (L.length-1) cap)) b (L.eraseIdx j) (bkF b (Y (S ⟨g,0,B⟩) L.length cap))/\But (bkF b (Y (S ⟨g,0,B⟩) L.length cap)) w (w'.setCell ⟨b,0,B⟩ (Y (S ⟨g,0,B⟩) (L.length-1) cap)))):=by
    intro W hb;have hW:=h.grow hb;refine(yc2 W hW.row h.good.len hlt).mono ?_;rintro e w' ⟨g',cap',he,rfl,hr,hB⟩;cases he;have kb:w'.heap[b]?=W.heap[b]?:=hB.block b hW.lb hW.nb;obtain⟨p1,p2,p3⟩:=hW.put hB hr (fun k hk=> .inl hk) (h.good.erase j);refine⟨rfl,(E (a:=⟨b,0,B⟩) kb).trans hW.c0,(O (a:=⟨b,0,B⟩) kb).trans (hW.fb 0),hB.mono (fun i _ hi=>by simpa[A]using hi.symm),⟨⟨_,p1,rfl⟩,?_⟩⟩;exact(But.yhl hb).trans p2 (fun i _ hi=>hi)
   have hc0:=h.c0;have hlb:=h.lb;have hlen:=h.good.len
   have i0:(0:Int)<=(j:Int):=by omega
   have i1:(j:Int)<(L.length:Int):=by omega
   clear h;generalize L.eraseIdx j=L' at*;generalize L.getD j .zz=m at*;generalize L.length=n at*;obtain⟨mp,ms,mf,mr⟩:=m;simp only[Pg.Mp.val]at*
   go_enter Tryz.func191,Tryz.ntmps191
   go_wp2_with (go_at_call 208;refine(zN _ _).mono ?_;rintro e w' ⟨rfl,rfl⟩)
   refine(HH _).mono ?_;rintro e w1 ⟨rfl,hb1⟩;have hr:∀o,w1.cell? ⟨w.heap.size,o,B⟩=_:=fun o=>hb1.cell (p:=⟨w.heap.size,o,B⟩) (by simp);have hf:∀o,w1.frozen? ⟨w.heap.size,o,B⟩=_:=fun o=>hb1.frozen (p:=⟨w.heap.size,o,B⟩) (by simp)
   have hs1:w.heap.size<w1.heap.size:=by have:=hb1.size;simp at this;omega
   have hB0:Below w.heap.size w w1:=zT (zA (zR _) _) hb1
   have hlb1:b<w1.heap.size:=by omega
   have hB:T _:=hB0;have c0:=C hB0 hc0;have m0:=C hB0 hm0;have m1:=C hB0 hm1;have m2:=C hB0 hm2;have m3:=C hB0 hm3;clear hb1 HH hB0 hc0 hm0 hm1 hm2 hm3
   go_wp2_with fail
   have hbW:Below w.heap.size w (w1.alloc (d #[J I mp,J I ms,J I mf,J I mr] 76)):=zA hB.out _;refine Calls.mono (HD.out _ hbW) ?_;rintro e w2 ⟨rfl,k0,k1,hbt,HF⟩
   have hl1:w1.heap.size<(w1.alloc (d #[J I mp,J I ms,J I mf,J I mr] 76)).heap.size:=by simp
   have t1:∀o,w2.cell? ⟨w1.heap.size,o,B⟩=_:=fun o=>hbt.cell (a:=⟨w1.heap.size,o,B⟩) hl1 (by show ¬w1.heap.size=g;omega);have z0:w2.cell? ⟨w1.heap.size,0,B⟩=S (J I mp):=(t1 0).trans (by simp[go_sem]);have z1:w2.cell? ⟨w1.heap.size,1,B⟩=S (J I ms):=(t1 1).trans (by simp[go_sem]);have z2:w2.cell? ⟨w1.heap.size,2,B⟩=S (J I mf):=(t1 2).trans (by simp[go_sem]);have z3:w2.cell? ⟨w1.heap.size,3,B⟩=S (J I mr):=(t1 3).trans (by simp[go_sem])
   have hl2:w.heap.size<(w1.alloc (d #[J I mp,J I ms,J I mf,J I mr] 76)).heap.size:=by simp;omega
   have t2:∀o,w2.cell? ⟨w.heap.size,o,B⟩=_:=fun o=>(hbt.cell (a:=⟨w.heap.size,o,B⟩) hl2 (by show ¬w.heap.size=g;omega)).trans ((Below.cell (p:=⟨w.heap.size,o,B⟩) (zA (zR w1) _) hs1).trans (hr o));have t3:∀o,w2.frozen? ⟨w.heap.size,o,B⟩=_:=fun o=>(hbt.frozen (a:=⟨w.heap.size,o,B⟩) hl2 (by show ¬w.heap.size=g;omega)).trans ((Below.frozen (p:=⟨w.heap.size,o,B⟩) (zA (zR w1) _) hs1).trans (hf o))
   have n1:w1.heap.size≠b:=by omega
   have n2:w.heap.size≠b:=by omega
   have n3:w1.heap.size≠w.heap.size:=by omega
   clear hbt t1 hr hf hbW hB c0 m0 m1 m2 m3 HD hl1 hl2
   go_wp2_with fail
   refine Q (v:=K #[U #[J I mp,J I ms,J I mf,J I mr],J I 0]) ?_ rfl ⟨rfl,?_⟩
   ·simp[results,Tryz.results191,go_sem,t2]
   ·obtain⟨f1,f2⟩:=HF.out
    have hbs:=yaG (But.refl (fun k=>k=w.heap.size) (w2.setCell ⟨b,0,B⟩ (Y (S ⟨g,0,B⟩) (n-1) cap))) w.heap.size (.inr rfl) (J I mp) (J I ms) (J I mf) (J I mr);refine⟨_,f1.keep hbs (fun k hk=> ?_),f2.trans hbs (fun i hi e=> ?_),fun k hk=> .inl hk⟩
    ·rcases hk with rfl|hk
     ·exact fun e=>n2 e.symm
     ·simp only[A,Option.some.injEq]at hk
      omega
    ·omega
end
theorem vx:∀(L:List Pg.Mp) (k:Nat) (r:Int),k<L.length->(zC L).set (k*4+3) (J I r)=zC (L.set k ((L.getD k .zz).rts r))
 | [],_,_,h=>by simp at h
 | x::t,0,r,_=>by simp[zC,Pg.Mp.rts]
 | x::t,k+1,r,h=>by
   have ih:=vx t k r (by simpa using h)
   have e1:∀(y:Pg.Mp) (s:List Pg.Mp),zC (y::s)=J I y.p::J I y.s::J I y.f::J I y.r::zC s:=fun y s=>by simp[zC]
   rw[e1,show(k+1)*4+3=k*4+3+4 by omega];simp only[List.set_cons_succ,List.getD_cons_succ,e1,ih]
theorem ycp (q r:Int):Pg.check q 0 0 r=if Pg.below q 4096=z/\Pg.below r 8=z then 0 else 1:=by
 have hs:Pg.span 0=1:=rfl;have hb:Pg.below 0 1048576=z:=rfl;unfold Pg.check;rw[hs,hb]
 cases Pg.below q 4096<;>cases Pg.below r 8<;>simp
theorem yaQ {L:List Pg.Mp} (h:Pg.Good L) {k:Nat} (hk:k<L.length) {r:Int} (hr:Pg.below r 8=z):Pg.Good (L.set k ((L.getD k .zz).rts r)):=by
 obtain⟨_,h2⟩:=Pg.prot_add h hk hr;rw[<-h2];exact(h.erase k).add _
section
variable {b:Nat} {L:List Pg.Mp} {F:Nat->Prop}
theorem yaJ (q r:Int) (hq:Pg.fits q) (w:N) (h:qv w b L F):
 X P 193 #[Z (S ⟨b,0,B⟩),J I q,J I r] w fun e w'=>e=R (K #[(Pg.ykj L q r).val,J I (Pg.yiE L q r)])/\∃F',qv w' b (Pg.yi4 L q r) F'/\But F w w'/\∀k,F' k->F k\/w.heap.size<=k:=by
 obtain⟨vb,h,rfl⟩:=h
 have HK:T (∀w',Below w.heap.size w w'->Pg.yiE L q r≠0->∃F',qv w' b (Pg.yi4 L q r) F'/\But (bkF b vb) w w'/\∀k,F' k->bkF b vb k\/w.heap.size<=k):=fun w' hb hc=>
  ⟨bkF b vb,⟨vb,by rw[Pg.yi4,if_neg hc];exact h.grow hb,rfl⟩,But.yhl hb,fun _ hk=> .inl hk⟩
 have HCK:=zE q 0 0 r;rw[ycp]at HCK
 by_cases hc:Pg.below q 4096=z/\Pg.below r 8=z
 ·obtain⟨hbq,hbr⟩:=hc
  rw[if_pos ⟨hbq,hbr⟩]at HCK;have hfh:=Pg.ykJ h.good q;have HH:=fun w' hb=>jF q hq w' (h.grow (w':=w') hb);cases hh:Pg.hit L (Pg.lkP q)
  ·have e0:Pg.fnd L q=B:=by rw[hfh,hh];rfl
   have hC:Pg.yiE L q r=5:=by simp[Pg.yiE,Pg.yhN,hbq,hbr,e0]
   have hM:Pg.ykj L q r= .zz:=by simp[Pg.ykj,hC]
   have HK':T _:=fun w' hb=>HK.out w' hb (by rw[hC];decide);rw[hC,hM,show(.zz:Pg.Mp).val=U #[J I 0,J I 0,J I 0,J I 0]from rfl];simp only[hh]at HH;clear h HK hC hM e0 hfh hh;generalize Pg.yi4 L q r=L' at*;generalize Pg.cut L (Pg.lkP q)=c at*
   go_enter Tryz.func193,Tryz.ntmps193
   go_wp2_with fail
   refine(HCK _).mono ?_;rintro e w1 ⟨rfl,hb1⟩;have b1:Below w.heap.size w w1:=zT (zA (zR _) _) hb1
   have hs1:w.heap.size<w1.heap.size:=by have:=hb1.size;simp at this;omega
   have hr1:∀o,w1.cell? ⟨w.heap.size,o,B⟩=_:=fun o=>hb1.cell (p:=⟨w.heap.size,o,B⟩) (by simp);have hf1:∀o,w1.frozen? ⟨w.heap.size,o,B⟩=_:=fun o=>hb1.frozen (p:=⟨w.heap.size,o,B⟩) (by simp);clear hb1
   go_wp2_with fail
   refine(HH _ b1).mono ?_;rintro e w2 ⟨rfl,hb2⟩;have hr2:∀o,w2.cell? ⟨w.heap.size,o,B⟩=_:=fun o=>(hb2.cell (p:=⟨w.heap.size,o,B⟩) hs1).trans (hr1 o);have hf2:∀o,w2.frozen? ⟨w.heap.size,o,B⟩=_:=fun o=>(hb2.frozen (p:=⟨w.heap.size,o,B⟩) hs1).trans (hf1 o);have hB:T (Below w.heap.size w w2):=zT b1 hb2;clear hb2 HH HCK hr1 hf1 b1 hs1
   go_wp2_with fail
   refine Q (v:=K #[U #[J I 0,J I 0,J I 0,J I 0],J I 5]) ?_ rfl ⟨rfl,?_⟩
   ·simp[results,Tryz.results193,go_sem,hr2]
   ·exact HK'.out _ (zo hB.out _ (M _) _ _ _ _)
  ·obtain⟨hlt,_⟩:=Pg.yiI.1 hh
   have e0:Pg.fnd L q=S (Pg.cut L (Pg.lkP q)):=by rw[hfh,hh];rfl
   have hC:Pg.yiE L q r=0:=by simp[Pg.yiE,Pg.yhN,hbq,hbr,e0]
   have hM:Pg.ykj L q r=(L.getD (Pg.cut L (Pg.lkP q)) .zz).rts r:=by simp only[Pg.ykj,hC,if_true,Pg.at',e0]
   have hL:Pg.yi4 L q r=L.set (Pg.cut L (Pg.lkP q)) ((L.getD (Pg.cut L (Pg.lkP q)) .zz).rts r):=by simp only[Pg.yi4,hC,if_true,e0]
   rw[hC,hM,hL];simp only[hh]at HH;clear HK hC hM hL e0 hfh hh;generalize Pg.cut L (Pg.lkP q)=j at*;obtain⟨g,cap,rfl,hg,hm0,hm1,hm2,hm3⟩:=h.mp hlt;have hnb:g≠b:=fun e=>h.nb (by rw[e];rfl)
   have HP:T (∀W,Below w.heap.size w W->W.frozen? ⟨g,j*4+3,B⟩=kF/\Dbk (W.setCell ⟨g,j*4+3,B⟩ (J I r)) b (Y (S ⟨g,0,B⟩) L.length cap) (L.set j ((L.getD j .zz).rts r))):=by
    intro W hb;have hW:=h.grow hb;obtain⟨hl,hrr⟩:=hW.row;rcases hrr with ⟨e,_⟩|⟨g',cap',cur,e,_,hgc,hc1,hc2,hc3,hc4⟩
    ·cases e
    ·cases e
     refine⟨by simp[kY,hgc],?_⟩;have hset:=setCell_eq_setRow W g (j*4+3) cur _ _ (J I r) hgc;have hgn:b≠g:=fun e=>hnb e.symm;refine⟨?_,fun o=> ?_,?_,hW.nb,yaQ h.good hlt hbr⟩
     ·rw[hset,cell_setRow_other _ _ _ _ hgn];exact hW.c0
     ·rw[hset,O (a:=⟨b,o,B⟩) (setRow_other _ _ _ _ hgn)];exact hW.fb o
     ·rw[hset,kN,<-vx L j r hlt]
      refine⟨by rw[kN];exact hl,.inr ⟨g,cap,_,rfl,Nat.zero_le _,setRow_heap W g cur _ _ _ hgc,hc1,hc2,by simpa using hc3,?_⟩⟩;rw[Array.toList_setIfInBounds,List.take_set,hc4]
   have HX:T _:=h;have hc0:=h.c0;have hlb:=h.lb;have hlen:=h.good.len
   have i0:(0:Int)<=(j:Int):=by omega
   have i1:(j:Int)<(L.length:Int):=by omega
   clear h;generalize L.set j ((L.getD j .zz).rts r)=L' at*;generalize L.getD j .zz=m at*;generalize L.length=n at*;obtain⟨mp,ms,mf,mr⟩:=m;simp only[Pg.Mp.val,Pg.Mp.rts]at*
   go_enter Tryz.func193,Tryz.ntmps193
   go_wp2_with fail
   refine(HCK _).mono ?_;rintro e w1 ⟨rfl,hb1⟩;have b1:Below w.heap.size w w1:=zT (zA (zR _) _) hb1
   have hs1:w.heap.size<w1.heap.size:=by have:=hb1.size;simp at this;omega
   have hr1:∀o,w1.cell? ⟨w.heap.size,o,B⟩=_:=fun o=>hb1.cell (p:=⟨w.heap.size,o,B⟩) (by simp);have hf1:∀o,w1.frozen? ⟨w.heap.size,o,B⟩=_:=fun o=>hb1.frozen (p:=⟨w.heap.size,o,B⟩) (by simp);clear hb1
   go_wp2_with fail
   refine(HH _ b1).mono ?_;rintro e w2 ⟨rfl,hb2⟩;have hr2:∀o,w2.cell? ⟨w.heap.size,o,B⟩=_:=fun o=>(hb2.cell (p:=⟨w.heap.size,o,B⟩) hs1).trans (hr1 o);have hf2:∀o,w2.frozen? ⟨w.heap.size,o,B⟩=_:=fun o=>(hb2.frozen (p:=⟨w.heap.size,o,B⟩) hs1).trans (hf1 o);have hB0:Below w.heap.size w w2:=zT b1 hb2;have c0:=C hB0 hc0;have m0:=C hB0 hm0;have m1:=C hB0 hm1;have m2:=C hB0 hm2;have m3:=C hB0 hm3;obtain⟨fz,HD⟩:=HP.out w2 hB0;have HD:T _:=HD;have hB:T _:=hB0
   have n1:g≠w.heap.size:=by omega
   have n2:b≠w.heap.size:=by omega
   clear hb2 HH HCK hr1 hf1 b1 hs1 hB0 hc0 hm0 hm1 hm2 hm3 HP
   go_wp2_with fail
   refine Q (v:=K #[U #[J I mp,J I ms,J I mf,J I r],J I 0]) ?_ rfl ⟨rfl,?_⟩
   ·simp[results,Tryz.results193,go_sem,hr2]
   ·have f1:qv (w2.setCell ⟨g,j*4+3,B⟩ (J I r)) b L' (bkF b (Y (S ⟨g,0,B⟩) n cap)):=⟨_,HD.out,rfl⟩
    have f2:But (bkF b (Y (S ⟨g,0,B⟩) n cap)) w (w2.setCell ⟨g,j*4+3,B⟩ (J I r)):=(But.yhl hB.out).setCell (a:=⟨g,j*4+3,B⟩) (.inr (.inr rfl)) _;have hbs:=yaG (But.refl (fun k=>k=w.heap.size) (w2.setCell ⟨g,j*4+3,B⟩ (J I r))) w.heap.size (.inr rfl) (J I mp) (J I ms) (J I mf) (J I r);refine⟨_,f1.keep hbs (fun k hk=> ?_),f2.trans hbs (fun i hi e=> ?_),fun k hk=> .inl hk⟩
    ·rcases hk with rfl|hk
     ·exact n2
     ·simp only[A,Option.some.injEq]at hk
      omega
    ·omega
 ·rw[if_neg hc]at HCK
  have hC:Pg.yiE L q r=1:=by
   unfold Pg.yiE Pg.yhN
   cases h1:Pg.below q 4096<;>cases h2:Pg.below r 8<;>simp_all
  have hM:Pg.ykj L q r= .zz:=by simp[Pg.ykj,hC]
  have HK':T _:=fun w' hb=>HK.out w' hb (by rw[hC];decide);rw[hC,hM,show(.zz:Pg.Mp).val=U #[J I 0,J I 0,J I 0,J I 0]from rfl];clear h HK hC hM hc;generalize Pg.yi4 L q r=L' at*
  go_enter Tryz.func193,Tryz.ntmps193
  go_wp2_with fail
  refine(HCK _).mono ?_;rintro e w1 ⟨rfl,hb1⟩;have hr:∀o,w1.cell? ⟨w.heap.size,o,B⟩=_:=fun o=>hb1.cell (p:=⟨w.heap.size,o,B⟩) (by simp);have hf:∀o,w1.frozen? ⟨w.heap.size,o,B⟩=_:=fun o=>hb1.frozen (p:=⟨w.heap.size,o,B⟩) (by simp);have hB:T (Below w.heap.size w w1):=zT (zA (zR _) _) hb1;clear hb1 HCK
  go_wp2_with fail
  refine Q (v:=K #[U #[J I 0,J I 0,J I 0,J I 0],J I 1]) ?_ rfl ⟨rfl,?_⟩
  ·simp[results,Tryz.results193,go_sem,hr]
  ·exact HK'.out _ (zo hB.out _ (M _) _ _ _ _)
end
end
section
def anV (a f r:Int):kV:=U #[J I a,J I f,J I r]
def jX (w:N) (b:Nat) (l:List (Int×Int×Int)):Prop:=
 ∃es clk,w.heap[b]?=S (.map es clk)/\(∀e ∈ es.toList,e.val=U #[]/\∃a f r,e.key=anV a f r)/\∀x ∈ l,∃e ∈ es.toList,e.key=anV x.1 x.2.1 x.2.2
section
variable {w w':N} {b:Nat} {l:List (Int×Int×Int)}
theorem jX.lt (h:jX w b l):b<w.heap.size:=by
 obtain⟨es,clk,hb,_⟩:=h;exact(H.1 hb).1
theorem jX.of_block (h:jX w b l) (hk:w'.heap[b]?=w.heap[b]?):jX w' b l:=by
 obtain⟨es,clk,hb,h⟩:=h;exact⟨es,clk,hk.trans hb,h⟩
theorem ydD (w:N):jX (w.alloc (.map #[] 0)) w.heap.size []:=⟨#[],0,kJ _ _,by simp,by simp⟩
theorem yaF (em:Bool) (a f r:Int) (w:N):(Instr.checkKey em 10000 71 (anV a f r)).run P w= .ok () w:=by
 unfold anV
 kernel_rfl
theorem yeG (a f r a' f' r':Int) (w:N):∃x:Bool,(Op.equal 71 (anV a f r) (anV a' f' r')).run P w= .ok x w/\(x=z ↔ anV a f r=anV a' f' r'):=by
 have hd:Op.maxDepth=9999+1:=rfl;refine⟨a==a'&&(f==f'&&r==r'),?_,?_⟩
 ·unfold Op.equal anV
  rw[hd,run_equalIn_agg w 9999 _ _ _ (by kernel_rfl) (by kernel_rfl)]
  have hf : (Tryz.prog.fieldsOf 71).toList.map (fun x => (x.name, x.type, x.offset)) = [("End", 3, 0), ("Frame", 3, 1), ("Rights", 3, 2)] := by kernel_rfl
  have hi:∀(a b:Int) (w:N),(Op.equalIn 9999 3 (J I a) (J I b)).run P w= .ok (a==b) w:=fun a b w=>run_equalIn_int w 9998 _ I I _ _ (by kernel_rfl)
  have hp:Tryz.prog.plainKey 3=z:=by kernel_rfl
  have step : ∀ (xs ys : Array kV) (g : Field) (o : Nat) (a b : Int) (gs : List Field) (w : N), g.name ≠ "_" → g.type = 3 → g.offset = o → xs[o]? = S (J I a) → ys[o]? = S (J I b) →
   (Op.eqFields 9999 xs ys (g::gs)).run P w=bif a==b then(Op.eqFields 9999 xs ys gs).run P w else .ok kF w:=by
   intro xs ys g o a b gs w h0 h1 h2 h3 h4;subst h2;simp only[Op.eqFields,ne_eq,h0,not_false_eq_true,if_true,Sem.run_bind,Sem.run_ite,h1,run_part_plain w hp h3,run_part_plain w hp h4,hi,Result.andThen_ok]
   cases a==b<;>rfl
  generalize (Tryz.prog.fieldsOf 71).toList=fs at hf ⊢
  obtain⟨g0,fs,rfl⟩:∃g gs,fs=g::gs:=by
   cases fs
   ·simp at hf
   ·exact⟨_,_,rfl⟩
  obtain⟨g1,fs,rfl⟩:∃g gs,fs=g::gs:=by
   cases fs
   ·simp at hf
   ·exact⟨_,_,rfl⟩
  obtain⟨g2,fs,rfl⟩:∃g gs,fs=g::gs:=by
   cases fs
   ·simp at hf
   ·exact⟨_,_,rfl⟩
  obtain rfl:fs=[]:=by
   cases fs
   ·rfl
   ·simp at hf
  ·simp only[List.map_cons,List.map_nil,List.cons.injEq,Prod.mk.injEq,and_true]at hf
   obtain⟨⟨a0,a1,a2⟩,⟨b0,b1,b2⟩,⟨c0,c1,c2⟩⟩:=hf;rw[step _ _ g0 0 a a' _ w (by rw[a0];decide) a1 a2 rfl rfl,step _ _ g1 1 f f' _ w (by rw[b0];decide) b1 b2 rfl rfl,step _ _ g2 2 r r' _ w (by rw[c0];decide) c1 c2 rfl rfl];generalize (a==a')=x0;generalize (f==f')=x1;generalize (r==r')=x2;cases x0
   ·rfl
   cases x1
   ·rfl
   cases x2<;>rfl
 ·simp[anV]
theorem yfs {es:List MapEntry} (hes:∀e ∈ es,e.val=U #[]/\∃a f r,e.key=anV a f r) (a f r:Int) (w:N):∀i:Nat,
 ((Instr.findAsking 71 (anV a f r) es i).run P w= .ok B w/\∀e ∈ es,e.key≠anV a f r)\/∃j e,(Instr.findAsking 71 (anV a f r) es i).run P w= .ok (S (i+j,U #[])) w/\es[j]?=S e/\e.key=anV a f r:=by
 induction es with
 | nil=>exact fun i=> .inl ⟨by simp[Instr.findAsking],by simp⟩
 | cons e es ih=>
   intro i;obtain⟨hv,a',f',r',hk⟩:=hes e (by simp);obtain⟨x,hx,hxe⟩:=yeG a f r a' f' r' w
   have hs:(Instr.findAsking 71 (anV a f r) (e::es) i).run P w=bif x then .ok (S (i,U #[])) w else(Instr.findAsking 71 (anV a f r) es (i+1)).run P w:=by
    simp only[Instr.findAsking,Sem.run_bind,hk,hx,Result.andThen_ok,hv]
    cases x<;>rfl
   cases x
   ·rcases ih (fun e he=>hes e (by simp[he])) (i+1)with ⟨h1,h2⟩|⟨j,e',h1,h2,h3⟩
    ·refine .inl ⟨by rw[hs];exact h1,fun e' he'=> ?_⟩
     rcases kP.1 he' with rfl|he'
     ·rw[hk]
      intro h;exact Bool.noConfusion (hxe.2 h.symm)
     ·exact h2 e' he'
    ·exact .inr ⟨j+1,e',by rw[hs];show(Instr.findAsking _ _ es (i+1)).run _ _=_;rw[h1,show i+1+j=i+(j+1) by omega],by simpa using h2,h3⟩
   ·exact .inr ⟨0,e,by rw[hs];rfl,rfl,by rw[hk];exact(hxe.1 rfl).symm⟩
theorem yai {es:List MapEntry} (hes:∀e ∈ es,e.val=U #[]/\∃a f r,e.key=anV a f r) (a f r:Int) (w:N):
 ((Instr.findKey 71 (anV a f r) es).run P w= .ok B w/\∀e ∈ es,e.key≠anV a f r)\/∃j e,(Instr.findKey 71 (anV a f r) es).run P w= .ok (S (j,U #[])) w/\es[j]?=S e/\e.key=anV a f r:=by
 rw[run_findKey_eq w (by kernel_rfl)];have:=yfs hes a f r w 0
 simpa only[Nat.zero_add]using this
theorem yeH (a f r:Int) (w:N):(Instr.keyThatStays (anV a f r) (anV a f r)).run P w= .ok (anV a f r) w:=by
 have:Instr.sameBits 10000 (anV a f r) (anV a f r)=z:=by
  show Instr.sameBits (9999+1) _ _=z
  simp[anV,Instr.sameBits]
 unfold Instr.keyThatStays;rw[this];simp
theorem jX.put (h:jX w b l) (a f r:Int):∃w',(Instr.mapUpdate 151 (.map (S b)) (anV a f r) (U #[])).run P w= .ok () w'/\jX w' b ((a,f,r)::l)/\But (fun j=>j=b) w w':=by
 obtain⟨es,clk,hb,hes,hl⟩:=h;have hlt:b<w.heap.size:=(H.1 hb).1
 have hu:Tryz.prog.underlying 151=S (.map 71 307):=by kernel_rfl
 have hset:∀o:Obj,But (fun j=>j=b) w {w with heap:=w.heap.setIfInBounds b o}:=fun o=>⟨rfl,rfl,rfl,by simp,fun k _ hk=>Array.getElem?_setIfInBounds_ne (fun e=>hk e.symm)⟩;have hat:∀o:Obj,({w with heap:=w.heap.setIfInBounds b o}:N).heap[b]?=S o:=fun o=>Array.getElem?_setIfInBounds_self_of_lt hlt;rcases yai hes a f r w with ⟨h1,h2⟩|⟨j,e,h1,h2,h3⟩
 ·refine⟨{w with heap:=w.heap.setIfInBounds b (.map (es.push {key:=anV a f r,val:=U #[],born:=clk}) (clk+1))},?_,⟨_,_,hat _,fun e he=> ?_,fun x hx=> ?_⟩,hset _⟩
  ·simp[Instr.mapUpdate,run_underlying hu,MapKept.run_getObj_map hb,yaF,h1,MapKept.run_setObj_map _ hb,Result.andThen]
  ·simp only[Array.toList_push,List.mem_append,List.mem_singleton]at he
   rcases he with he|rfl
   ·exact hes e he
   ·exact⟨rfl,_,_,_,rfl⟩
  ·rcases kP.1 hx with rfl|hx
   ·exact⟨{key:=anV a f r,val:=U #[],born:=clk},by simp,rfl⟩
   ·obtain⟨e,he,hk⟩:=hl x hx
    exact⟨e,by simp[he],hk⟩
 ·have hj:j<es.size:=by
   obtain⟨hj,_⟩:=List.getElem?_eq_some_iff.1 h2
   simpa using hj
  have h2':es[j]?=S e:=by rw[<-Array.getElem?_toList];exact h2
  refine⟨{w with heap:=w.heap.setIfInBounds b (.map (es.modify j fun e=>{e with key:=anV a f r,val:=U #[]}) clk)},?_,⟨_,_,hat _,fun e' he=> ?_,fun x hx=> ?_⟩,hset _⟩
  ·simp[Instr.mapUpdate,run_underlying hu,MapKept.run_getObj_map hb,yaF,h1,h2',h3,yeH,MapKept.run_setObj_map _ hb,Result.andThen]
  ·rw[kS]at he
   obtain⟨i,hi⟩:=kI.1 he;rw[kB]at hi
   cases hl':es.toList[i]? with
   | none=>rw[hl']at hi;simp at hi
   | some y=>
     rw[hl']at hi
     have hi:(if j=i then({y with key:=anV a f r,val:=U #[]}:MapEntry)else y)=e':=by
      split at hi
      ·next e0=>rw[if_pos e0];exact Option.some.inj hi
      ·next e0=>rw[if_neg e0];exact Option.some.inj hi
     have hy:=hes y (D hl');split at hi
     ·rw[<-hi];exact⟨rfl,_,_,_,rfl⟩
     ·rw[<-hi];exact hy
  ·obtain⟨e1,he1,hk1⟩:∃e ∈ es.toList,e.key=anV x.1 x.2.1 x.2.2:=by
    rcases kP.1 hx with rfl|hx
    ·exact⟨e,D h2,h3⟩
    ·exact hl x hx
   obtain⟨i,hi⟩:=kI.1 he1;refine⟨if j=i then{e1 with key:=anV a f r,val:=U #[]}else e1,?_,?_⟩
   ·rw[kS]
    refine D (i:=i) ?_;rw[kB,hi]
    split<;>rfl
   ·split
    ·next e0=>
     subst e0;rw[hi]at h2;injection h2 with h2;rw[<-h2]at h3;rw[<-hk1,h3]
    ·exact hk1
theorem jX.look (h:jX w b l) {a f r:Int} (hm:(a,f,r) ∈ l):(Instr.lookup 151 (.map (S b)) (anV a f r) z).run P w= .ok (K #[U #[],kR z]) w:=by
 obtain⟨es,clk,hb,hes,hl⟩:=h
 have hu:Tryz.prog.underlying 151=S (.map 71 307):=by kernel_rfl
 obtain⟨e0,he0,hk0⟩:=hl _ hm;rcases yai hes a f r w with ⟨h1,h2⟩|⟨j,e,h1,h2,h3⟩
 ·exact absurd hk0 (h2 e0 he0)
 ·simp[Instr.lookup,run_underlying hu,MapKept.run_getObj_map hb,yaF,h1,Result.andThen]
end
open Go.RowKit Go.Sort
theorem va {m:Nat} {l:List (Int×Int×Int)} (a f r:Int) (w:N) (h:jX w m l):
 X P 195 #[.map (S m),U #[J I a,J I f,J I r]] w fun e w'=>e=R (K #[])/\jX w' m ((a,f,r)::l)/\But (fun k=>k=m) w w':=by
 obtain⟨W,hW⟩:∃W,W=w.alloc (d #[J I a,J I f,J I r] 71):=⟨_,rfl⟩
 have hB:Below w.heap.size w W:=by rw[hW];exact zA (zR _) _
 have x0:W.cell? ⟨w.heap.size,0,B⟩=S (J I a):=by rw[hW];simp[go_sem]
 have x1:W.cell? ⟨w.heap.size,1,B⟩=S (J I f):=by rw[hW];simp[go_sem]
 have x2:W.cell? ⟨w.heap.size,2,B⟩=S (J I r):=by rw[hW];simp[go_sem]
 obtain⟨w',hr,ha,hb⟩:=(h.of_block (hB.block _ h.lt)).put a f r;unfold anV at hr;have HA:T _:=ha;have HB:T (But (fun k=>k=m) w w'):=(But.yhl (F:=fun k=>k=m) hB).trans hb fun _ _ e=>e;clear h ha hb hB
 go_enter Tryz.func195,Tryz.ntmps195
 go_upto_region 1 with fail
 rw[<-hW];clear hW
 go_wp2_with fail
 go_end0
 exact⟨rfl,HA.out,HB.out⟩
theorem ybX {b c:Nat} {L:List Pg.Mp} {F:Nat->Prop} (x:Pg.Sx) (hx:Pg.fits x.m.p) (w:N) (h:qv w b L F) (hc:ybS w c 2 x.m):
 X P 188 #[Z (S ⟨b,0,B⟩),Z (S ⟨c,0,B⟩)] w fun e w'=>e=R (K #[])/\∃F',qv w' b (Pg.addL L x.m) F'/\But F w w'/\∀k,F' k->F k\/w.heap.size<=k:=by
 have HA:T _:=ydK x.m hx w h;obtain⟨c0,c1,c2,c3⟩:=hc;obtain⟨kd,co,⟨p,s,f,r⟩,q,k,u⟩:=x;simp only[Pg.Mp.val]at HA c0 c1 c2 c3;clear h
 go_enter Tryz.func188,Tryz.ntmps188
 go_wp2_with fail
 refine Calls.mono HA.out ?_;rintro e w1 ⟨rfl,F',h1,hb1,hF1⟩;have H1:T _:=(⟨h1,hb1,hF1⟩:_/\_/\_);clear h1 hb1 hF1 HA
 go_wp2_with fail
 go_end0
 exact⟨rfl,F',H1.out⟩
theorem ybY {b c:Nat} {L:List Pg.Mp} {F:Nat->Prop} (x:Pg.Sx) (hx:Pg.fits x.m.p) (w:N) (h:qv w b L F) (hc:ybS w c 2 x.m):
 X P 190 #[Z (S ⟨b,0,B⟩),Z (S ⟨c,0,B⟩)] w fun e w'=>e=R (K #[])/\∃F',qv w' b (Pg.yio L x.m.p) F'/\But F w w'/\∀k,F' k->F k\/w.heap.size<=k:=by
 have HA:T _:=ycZ x.m.p hx w h;obtain⟨c0,c1,c2,c3⟩:=hc;obtain⟨kd,co,⟨p,s,f,r⟩,q,k,u⟩:=x;simp only at HA c0 c1 c2 c3;clear h
 go_enter Tryz.func190,Tryz.ntmps190
 go_wp2_with fail
 refine Calls.mono HA.out ?_;rintro e w1 ⟨rfl,F',h1,hb1,hF1⟩;have H1:T _:=(⟨h1,hb1,hF1⟩:_/\_/\_);clear h1 hb1 hF1 HA
 go_wp2_with fail
 go_end0
 exact⟨rfl,F',H1.out⟩
theorem ybZ {b c:Nat} {L:List Pg.Mp} {F:Nat->Prop} (x:Pg.Sx) (hx:Pg.fits x.m.p) (w:N) (h:qv w b L F) (hc:ybS w c 2 x.m):
 X P 192 #[Z (S ⟨b,0,B⟩),Z (S ⟨c,0,B⟩)] w fun e w'=>e=R (K #[])/\∃F',qv w' b (Pg.yi4 L x.m.p x.m.r) F'/\But F w w'/\∀k,F' k->F k\/w.heap.size<=k:=by
 have HA:T _:=yaJ x.m.p x.m.r hx w h;obtain⟨c0,c1,c2,c3⟩:=hc;obtain⟨kd,co,⟨p,s,f,r⟩,q,k,u⟩:=x;simp only at HA c0 c1 c2 c3;clear h
 go_enter Tryz.func192,Tryz.ntmps192
 go_wp2_with fail
 refine Calls.mono HA.out ?_;rintro e w1 ⟨rfl,F',h1,hb1,hF1⟩;have H1:T _:=(⟨h1,hb1,hF1⟩:_/\_/\_);clear h1 hb1 hF1 HA
 go_wp2_with fail
 go_end0
 exact⟨rfl,F',H1.out⟩
theorem yco {ad ad':Option Addr} {cap cap':Nat} {L:List Pg.Mp} (w:N) (h:xg w ad L) (h':xg w ad' L) (hl:L.length<=5000):
 X P 197 #[Y ad L.length cap,Y ad' L.length cap'] w fun e w'=>e=R (kR z)/\Below w.heap.size w w':=by
 have HA:T (xg w ad L):=h;have HB:T (xg w ad' L):=h';clear h h'
 go_enter Tryz.func197,Tryz.ntmps197
 go_wp2_with fail
 go_loopw [13] (fun i wr=>∃j:Nat,j<=L.length/\i=J I j/\T (Below w.heap.size w wr)) (fun i _=>L.length-(intOf i).toNat)
 case atStart=>exact⟨0,by omega,rfl,zR _⟩
 case round=>
  obtain⟨j,hj,rfl,HR⟩:=hrel
  have i0:(0:Int)<=(j:Int):=by omega
  by_cases hlt:j<L.length
  ·obtain⟨g,rfl,hg,hm⟩:=xg.below HA.out HR.out j hlt
   obtain⟨g',rfl,hg',hm'⟩:=xg.below HB.out HR.out j hlt;obtain⟨k0,k1,k2,k3⟩:=hm;obtain⟨m0,m1,m2,m3⟩:=hm'
   have i1:(j:Int)<(L.length:Int):=by omega
   have fin:T (∀nq,Below w.heap.size w (wr.drewN nq)):=fun nq=>zT HR.out (below_drewN (zR _) nq);generalize L.getD j .zz=x at*;obtain⟨p,s,f,r⟩:=x;simp only at k0 k1 k2 k3 m0 m1 m2 m3
   go_wp2_with fail
   go_quiet (fail)
   go_wp2_with fail
   exact⟨⟨j+1,by omega,by go_num,fin.out _⟩,by simp[intOf];omega⟩
  ·have i1:¬(j:Int)<(L.length:Int):=by omega
   go_wp2_with fail
   go_ret
   exact⟨rfl,HR.out⟩
end
end Go.Proofs.YtdphiompijbelaaGreatDoor
