import Derived.Test.YtdphiompijbelaaGreatTabF
import Derived.WideKeyRuns
import Derived.Laws.StructEq
import Derived.MapKept
import Derived.Test.YtdphiompijbelaaGreatBook
set_option linter.all false
set_option maxRecDepth 100000
open List renaming take_length->uv,mem_of_getElem?->uc,length_singleton->yJ,mem_iff_getElem?->yB,getElem?_modify->yP,take_succ_cons->yS,drop_succ_cons->yC,mem_cons->yR,length_append->yY,take_zero->yV,drop_zero->yQ
open Nat renaming lt_of_lt_of_le->kp,le_refl->kh,le_trans->ue
open Go.Obj renaming cells->d
open Go.Ending renaming returned->A
open Go renaming World->E
open Array renaming getElem?_eq_some_iff->M,toList_modify->yN
open Bool renaming false->K,true->ur
open Go.Proofs.Tryz renaming prog->O
open Option renaming none->Z,some->U
open Go.World renaming cell?_of_block->Q,block_lt_of_cell?->ki,frozen?_of_block->yI
open Go.Value renaming int->J,pointer->kO,bool->ks,slice->un,agg->ud,tuple->ua,slice->yT,ownBlock->yF
open Go.IntKind renaming i64->I
set_option maxHeartbeats 4000000
namespace Go.Proofs.YtdphiompijbelaaGreat
open Go.RowKit Go.Sort
theorem yeN (p:Int) (s:Nat) (S:Pg.Fs) (t:Int):Pg.insW p s s S t=(S,t):=by
 cases s with
 | zero=>rfl
 | succ s=>simp[Pg.insW]
theorem yeO (p:Int) (s m:Nat) (S:Pg.Fs) (t:Int) (h:s<=m):Pg.insW p s (m+1) S t=Pg.insW p s m (S.take.store t (Pg.index p ((m+1:Nat):Int)) (Pg.enc ur K 7 K K S.takeN ((m+1:Nat):Int))) S.takeN:=by
 rw[Pg.insW,if_neg (by omega)]
theorem yc9 {b:Nat} {S:Pg.Fs} {F:Nat->Prop} (t:Int) (m:Pg.Mp) (w:E) (h:zh w b S F):
 Calls O 133 #[kO (U ⟨b,0,Z⟩),J I t,m.val] w fun en w'=>en=A (J I (Pg.insC S t m))/\∃F',zh w' b (Pg.insS S t m) F'/\But F w w'/\∀k,F' k->F k\/w.heap.size<=k:=by
 obtain⟨p,s,f,r⟩:=m;have HC:=zX p s f r;have eC:Pg.Mp.code ⟨p,s,f,r⟩=Pg.check p s f r:=rfl;rw[<-eC]at HC;simp only[Pg.Mp.val];have H:Hid (zh w b S F):=h;obtain⟨W1,rG⟩:∃W1,W1=w.alloc (d #[J I p,J I s,J I f,J I r] 39):=⟨_,rfl⟩
 have pJ:Below w.heap.size w W1:=by rw[rG];exact zA (zR w) _
 have r4:W1.cell? ⟨w.heap.size,0,Z⟩=U (J I p)/\W1.cell? ⟨w.heap.size,1,Z⟩=U (J I s)/\W1.cell? ⟨w.heap.size,2,Z⟩=U (J I f)/\W1.cell? ⟨w.heap.size,3,Z⟩=U (J I r):=by rw[rG];simp[go_sem]
 have H9:Hid _:=pJ;obtain⟨x0,x1,x2,x3⟩:=r4;have dX:Hid (∀w',Below w.heap.size w w'->∃F',zh w' b S F'/\But F w w'/\∀k,F' k->F k\/w.heap.size<=k):=fun w' hb=>⟨F,zh.keep (G:=fun _=>False) H.out (But.yhp hb) fun _ _=>id,But.yhp hb,fun k hk=> .inl hk⟩;have HW:=fun w2 (hb:Below w.heap.size w w2)=>vk t p w2 (h.keep (G:=fun _=>False) (But.yhp hb) fun _ _=>id);clear pJ eC
 by_cases hc:Pg.Mp.code ⟨p,s,f,r⟩=0
 ·rw[hc]at HC
  by_cases hz:xQ S t p=0
  ·obtain⟨Y,sp,lv,hY,W,lu,kU,DL,dm,dI⟩:=jc hz
   have hs:0<=s/\s<=2:=by
    have kK:Pg.check p s f r=0:=hc
    have gF:Pg.span s≠0:=by
     intro e;rw[Pg.check,if_pos e]at kK;omega
    unfold Pg.span at gF
    by_cases h0:s=0
    ·omega
    ·by_cases h1:s=1
     ·omega
     ·by_cases h2:s=2
      ·omega
      ·simp[h0,h1,h2]at gF
   obtain⟨sn,rfl⟩:=Int.eq_ofNat_of_zero_le hs.1
   have pR:sn<=2:=by omega
   have e6:tabs (Y++[sp])=tabs Y++[sp.table]:=by simp[tabs]
   have e7:qN (Y++[sp])=qN Y++[(sp.place:Int)]:=by simp[qN]
   have eI:Pg.insC S t ⟨p,sn,f,r⟩=if sp.e.t=ur\/(lv:Int)<(sn:Int)then 4 else if S.free<(lv:Int)-(sn:Int)then 6 else 0:=by
    rw[Pg.insC,if_neg (by simp[hc]),if_neg (by simp[hz]),hY,W.yhu,W.yhw]
   have eS:Pg.insS S t ⟨p,sn,f,r⟩=if Pg.insC S t ⟨p,sn,f,r⟩=0 then(Pg.insW p sn lv S sp.table).1.store (Pg.insW p sn lv S sp.table).2 (Pg.index p (sn:Int)) (Pg.enc ur ur r K K f (sn:Int))else S:=by
    rw[Pg.insS,hY,W.yhw,W.lastT];rfl
   rw[hz,hY,W.yhw,W.yhu,e6,e7,dm]at HW
   have Hg:(tabs Y).length=(qN Y).length:=by rw[xC,vx]
   have Hf:(tabs Y).length<=3:=by rw[xC];omega
   have kR:=h.ok.yle;have ni:=fun w2 (hb:Below w.heap.size w w2)=>yaW w2 (h.keep (G:=fun _=>False) (But.yhp hb) fun _ _=>id);clear hc hz W hY lu dm dI h e6 e7 hs;generalize tabs Y=T at*;generalize qN Y=P at*;obtain⟨st,_,_,_,⟨et,el,er,eu,ed,ef⟩⟩:=sp;simp only at eI eS HW;clear DL Y;generalize Pg.insC S t ⟨p,sn,f,r⟩=ic at*;generalize Pg.insS S t ⟨p,sn,f,r⟩=iS at*
   by_cases hE:et=ur\/(lv:Int)<(sn:Int)
   ·rw[if_pos hE]at eI
    rw[eI,if_neg (by decide)]at eS;rw[eI,eS];clear eI eS;cases et
    ·have Ls:(lv:Int)<(sn:Int):=by
      rcases hE with h|h
      ·cases h
      ·exact h
     clear hE
     go_enter Tryz.func133,Tryz.ntmps133
     go_wp2_with fail
     rw[<-rG];clear rG;refine(HC _).mono ?_;rintro en w2 ⟨rfl,Hd⟩;have y0:=cell_later Hd x0;have y1:=cell_later Hd x1;have y2:=cell_later Hd x2;have y3:=cell_later Hd x3;have Ht:Hid (Below w.heap.size w w2):=zT H9.out Hd;clear Hd HC x0 x1 x2 x3
     go_wp2_with fail
     refine(HW _ Ht.out).mono ?_;rintro en w3 ⟨k,rfl,hS,He⟩;have HS:Hid _:=hS;have rE:Hid (Below w.heap.size w w3):=zT Ht.out He;obtain⟨B,v1,v2,F',hM,_,_,_,_,_,_⟩:=hS.body;have k0:=hM.c0;have k1:=hM.c1;have k2:=hM.c2;simp only at k2;have z1:=cell_later He y1;have z2:=cell_later He y2;have z3:=cell_later He y3;have uI:w.heap.size<w2.heap.size:=ki _ _ y0;have HZ:Hid _:=And.intro z1 (And.intro z2 z3);clear hM hS He HW y0 y1 y2 y3
     go_wp2_with fail
     go_quiet (fail)
     go_wp2_with fail
     go_ret
     exact⟨rfl,dX.out _ (zT rE.out (below_drewN (zR _) _))⟩
    ·clear hE
     go_enter Tryz.func133,Tryz.ntmps133
     go_wp2_with fail
     rw[<-rG];clear rG;refine(HC _).mono ?_;rintro en w2 ⟨rfl,Hd⟩;have y0:=cell_later Hd x0;have y1:=cell_later Hd x1;have y2:=cell_later Hd x2;have y3:=cell_later Hd x3;have Ht:Hid (Below w.heap.size w w2):=zT H9.out Hd;clear Hd HC x0 x1 x2 x3
     go_wp2_with fail
     refine(HW _ Ht.out).mono ?_;rintro en w3 ⟨k,rfl,hS,He⟩;have HS:Hid _:=hS;have rE:Hid (Below w.heap.size w w3):=zT Ht.out He;obtain⟨B,v1,v2,F',hM,_,_,_,_,_,_⟩:=hS.body;have k0:=hM.c0;have k1:=hM.c1;have k2:=hM.c2;simp only at k2;have z1:=cell_later He y1;have z2:=cell_later He y2;have z3:=cell_later He y3;have uI:w.heap.size<w2.heap.size:=ki _ _ y0;have HZ:Hid _:=And.intro z1 (And.intro z2 z3);clear hM hS He HW y0 y1 y2 y3
     go_wp2_with fail
     go_quiet (fail)
     go_wp2_with fail
     go_ret
     exact⟨rfl,dX.out _ (zT rE.out (below_drewN (zR _) _))⟩
   ·rw[if_neg hE]at eI
    have NR:et=K:=by
     cases et
     ·rfl
     ·exact absurd (.inl rfl) hE
    have fe:sn<=lv:=by omega
    subst NR;clear hE
    by_cases hfu:S.free<(lv:Int)-(sn:Int)
    ·rw[if_pos hfu]at eI
     rw[eI,if_neg (by decide)]at eS;rw[eI,eS];clear eI eS
     go_enter Tryz.func133,Tryz.ntmps133
     go_wp2_with fail
     rw[<-rG];clear rG;refine(HC _).mono ?_;rintro en w2 ⟨rfl,Hd⟩;have y0:=cell_later Hd x0;have y1:=cell_later Hd x1;have y2:=cell_later Hd x2;have y3:=cell_later Hd x3;have Ht:Hid (Below w.heap.size w w2):=zT H9.out Hd;clear Hd HC x0 x1 x2 x3
     go_wp2_with fail
     refine(HW _ Ht.out).mono ?_;rintro en w3 ⟨k,rfl,hS,He⟩;have HS:Hid _:=hS;have rE:Hid (Below w.heap.size w w3):=zT Ht.out He;obtain⟨B,v1,v2,F',hM,_,_,_,_,_,_⟩:=hS.body;have k0:=hM.c0;have k1:=hM.c1;have k2:=hM.c2;simp only at k2;have z1:=cell_later He y1;have z2:=cell_later He y2;have z3:=cell_later He y3;have uI:w.heap.size<w2.heap.size:=ki _ _ y0;have HZ:Hid _:=And.intro z1 (And.intro z2 z3);clear hM hS He HW y0 y1 y2 y3
     go_wp2_with fail
     go_quiet (fail)
     go_wp2_with fail
     refine(ni _ (zT rE.out (below_drewN (zR _) _))).mono ?_;rintro en w4 ⟨rfl,Hl⟩;have rM:Hid (Below w.heap.size w w4):=zT (zT rE.out (below_drewN (zR _) _)) Hl;clear Hl ni
     go_wp2_with fail
     go_ret
     exact⟨rfl,dX.out _ rM.out⟩
    ·rw[if_neg hfu]at eI
     rw[eI,if_pos rfl]at eS;rw[eI,eS];clear eI eS
     have dd1:decide ((lv:Int)-(sn:Int)<0)=K:=by simp;omega
     have IP:decide (S.free<(lv:Int)-(sn:Int))=K:=by simp;omega
     go_enter Tryz.func133,Tryz.ntmps133
     go_wp2_with fail
     rw[<-rG];clear rG;refine(HC _).mono ?_;rintro en w2 ⟨rfl,Hd⟩;have y0:=cell_later Hd x0;have y1:=cell_later Hd x1;have y2:=cell_later Hd x2;have y3:=cell_later Hd x3;have Ht:Hid (Below w.heap.size w w2):=zT H9.out Hd;clear Hd HC x0 x1 x2 x3
     go_wp2_with fail
     refine(HW _ Ht.out).mono ?_;rintro en w3 ⟨k,rfl,hS,He⟩;have HS:Hid _:=hS;have rE:Hid (Below w.heap.size w w3):=zT Ht.out He;obtain⟨B,v1,v2,F',hM,_,_,_,_,_,_⟩:=hS.body;have k0:=hM.c0;have k1:=hM.c1;have k2:=hM.c2;simp only at k2;have z1:=cell_later He y1;have z2:=cell_later He y2;have z3:=cell_later He y3;have uI:w.heap.size<w2.heap.size:=ki _ _ y0;have HZ:Hid _:=And.intro z1 (And.intro z2 z3);clear hM hS He HW y0 y1 y2 y3
     go_wp2_with fail
     go_quiet (fail)
     go_wp2_with fail
     refine(ni _ (zT rE.out (below_drewN (zR _) _))).mono ?_;rintro en w4 ⟨rfl,Hl⟩;have CG:Hid (Below w3.heap.size w3 w4):=zT (below_drewN (zR _) _) Hl;clear Hl ni
     go_wp2_with fail
     try simp only[dd1,IP]
     go_loopw [53] (fun i wr=>∃(j pW:Nat) (Si:Pg.Fs) (ei:Pg.En) (ts ps:List Int) (ti:Int),pW+j=lv/\sn<=pW/\i=J I (j:Int)/\ts.length=ps.length/\ts.length=T.length+j/\Hid (St w2 wr k b F Si (pW:Int) ei (ts++[ti]) (ps++[Pg.index p (pW:Int)]) p/\Pg.insW p sn pW Si ti=Pg.insW p sn lv S st)) (fun i _=>lv-(intOf i).toNat)
     case atStart=>exact⟨0,lv,S,_,T,P,st,by omega,by omega,rfl,Hg,rfl,HS.out.grow CG.out,rfl⟩
     case round=>
      obtain⟨j,pW,Si,ei,ts,ps,ti,hj,WL,rfl,dE,sJ,HR⟩:=hrel
      have j0:(0:Int)<=(j:Int):=by omega
      by_cases FO:sn<pW
      ·have j1:(j:Int)<(lv:Int)-(sn:Int):=by omega
       have HX:=ydP HR.out.1 dE (by omega) (by omega) (by omega);obtain⟨lm,rfl⟩:∃lm,pW=lm+1:=⟨pW-1,by omega⟩
       have e9:((lm+1:Nat):Int)-1=(lm:Int):=by omega
       rw[e9]at HX
       have e10:Hid (Pg.insW p sn lm (Si.take.store ti (Pg.index p ((lm+1:Nat):Int)) (Pg.enc ur K 7 K K Si.takeN ((lm+1:Nat):Int))) Si.takeN=Pg.insW p sn lv S st):=by rw[Hid,<-yeO p sn lm Si ti (by omega)];exact HR.out.2
       go_wp2_with fail
       refine HX.mono ?_;rintro en w5 ⟨rfl,h5⟩;have H5:Hid _:=h5;clear h5 HX HR
       go_wp2_with fail
       exact⟨⟨j+1,lm,_,_,_,_,_,by omega,by omega,by go_num,by simp[dE],by simp[sJ];omega,H5.out,e10.out⟩,by simp[intOf];omega⟩
      ·have Fp:pW=sn:=by omega
       subst Fp
       have j1:¬(j:Int)<(lv:Int)-(pW:Int):=by omega
       have nJ:=HR.out.2;rw[yeN]at nJ;have HX:=vY ⟨ur,ur,r,K,K,f⟩ HR.out.1 dE (by omega);simp only[Pg.En.val]at HX
       have bM:wr.heap[w.heap.size]?=w3.heap[w.heap.size]?:=by
        have q1:=HR.out.1.but.block w.heap.size uI fun hF=>by have:=zh.lt H.out hF;omega
        have q2:=HS.out.but.block w.heap.size uI fun hF=>by have:=zh.lt H.out hF;omega
        exact q1.trans q2.symm
       have b2:=(Q bM).trans HZ.out.2.1;have b3:=(Q bM).trans HZ.out.2.2;have uT:Hid _:=nJ;clear nJ bM z1 z2 z3 k0 k1 k2 HR
       go_wp2_with fail
       refine HX.mono ?_;rintro en w6 ⟨rfl,h6⟩;obtain⟨F6,f1,f2,f3⟩:=h6.leaves
       have fin:Hid (∃F',zh w6 b ((Pg.insW p pW lv S st).1.store (Pg.insW p pW lv S st).2 (Pg.index p (pW:Int)) (Pg.enc ur ur r K K f (pW:Int))) F'/\But F w w6/\∀k,F' k->F k\/w.heap.size<=k):=by
        rw[Hid,<-uT.out];exact⟨F6,f1,(But.yhp Ht.out).trans f2 fun _ _ h=>h,fun j hj=>(f3 j hj).imp id fun h=>by have:=Ht.out.size;omega⟩
       clear h6 f1 f2 f3 HX uT
       go_wp2_with fail
       go_ret
       exact⟨rfl,fin.out⟩
  ·have e1:Pg.insC S t ⟨p,s,f,r⟩=xQ S t p:=by rw[Pg.insC,if_neg (by simp[hc]),if_pos hz]
   have e2:Pg.insS S t ⟨p,s,f,r⟩=S:=by rw[Pg.insS,e1,if_neg hz]
   rw[e1,e2];clear e1 e2 h;generalize xQ S t p=cc at*
   have gW:(cc !=0)=ur:=by simp[hz]
   clear hz hc
   go_enter Tryz.func133,Tryz.ntmps133
   go_wp2_with fail
   rw[<-rG];clear rG;refine(HC _).mono ?_;rintro en w2 ⟨rfl,Hd⟩;have y0:=cell_later Hd x0;have Ht:Hid (Below w.heap.size w w2):=zT H9.out Hd;clear Hd
   go_wp2_with fail
   refine(HW _ Ht.out).mono ?_;rintro en w3 ⟨k,rfl,_,He⟩;have rE:Hid (Below w.heap.size w w3):=zT Ht.out He;clear He
   go_wp2_with fail
   go_ret
   exact⟨rfl,dX.out _ rE.out⟩
 ·have e1:Pg.insC S t ⟨p,s,f,r⟩=Pg.Mp.code ⟨p,s,f,r⟩:=by rw[Pg.insC,if_pos hc]
  have e2:Pg.insS S t ⟨p,s,f,r⟩=S:=by rw[Pg.insS,e1,if_neg hc]
  rw[e1,e2];clear e1 e2 h HW;generalize Pg.Mp.code ⟨p,s,f,r⟩=cc at*
  have gW:(cc !=0)=ur:=by simp[hc]
  clear hc
  go_enter Tryz.func133,Tryz.ntmps133
  go_wp2_with fail
  rw[<-rG];clear rG;refine(HC _).mono ?_;rintro en w2 ⟨rfl,Hd⟩;have Ht:Hid (Below w.heap.size w w2):=zT H9.out Hd;clear Hd
  go_wp2_with fail
  go_ret
  exact⟨rfl,dX.out _ Ht.out⟩
theorem St.rebase {w0 w:E} {k b:Nat} {F0:Nat->Prop} {S:Pg.Fs} {lv:Int} {e:Pg.En} {ts ps:List Int} {p:Int} (h:St w0 w k b F0 S lv e ts ps p):
 ∃H:Nat->Prop,St w w k b H S lv e ts ps p/\(∀j,H j->F0 j\/w0.heap.size<=j)/\∀j,H j->j<w.heap.size:=by
 obtain⟨B,v1,v2,F,hM,hF,hB,h1,h2,dY,hm⟩:=h.body;refine⟨fun j=>F j\/mkF k v1 v2 j,⟨B,v1,v2,F,hM,hF,But.refl _ _,fun j hj=> .inl (.inl hj),h2,dY,fun j hj=> .inl (.inr hj)⟩,fun j hj=>hj.elim (h1 j) (hm j),fun j hj=>hj.elim (fun h=>hF.lt h) fun h=>(hM.lt h).2⟩
theorem St.other {w0 w w':E} {k b:Nat} {H:Nat->Prop} {S:Pg.Fs} {lv:Int} {e:Pg.En} {ts ps:List Int} {p:Int} (h:St w0 w k b H S lv e ts ps p) {G:Nat->Prop} (hb:But G w w') (hG:∀j,G j->j<w0.heap.size/\¬H j):
 ∃H':Nat->Prop,St w' w' k b H' S lv e ts ps p/\(∀j,H' j->H j\/w0.heap.size<=j)/\∀j,H' j->j<w.heap.size:=by
 obtain⟨B,v1,v2,F,hM,hF,hB,h1,h2,dY,hm⟩:=h.body
 have n1:∀j,F j->¬G j:=fun j hj hg=>by
  obtain⟨g1,g2⟩:=hG j hg;rcases h1 j hj with h|h
  ·exact g2 h
  ·omega
 have n2:∀j,mkF k v1 v2 j->¬G j:=fun j hj hg=>by
  obtain⟨g1,g2⟩:=hG j hg;rcases hm j hj with h|h
  ·exact g2 h
  ·omega
 exact⟨fun j=>F j\/mkF k v1 v2 j,⟨B,v1,v2,F,hM.keep hb n2,hF.keep hb n1,But.refl _ _,fun j hj=> .inl (.inl hj),h2,ue dY hb.size,fun j hj=> .inl (.inr hj)⟩,fun j hj=>hj.elim (h1 j) (hm j),fun j hj=>hj.elim (fun h=>hF.lt h) fun h=>(hM.lt h).2⟩
def ja (p:Int) (ts:List Int) (n:Nat) (S:Pg.Fs) (G:List Int):Pg.Fs×List Int:=
 if n<=1\/Pg.yhy S (ts.getD (n-1) 0)=K then(S,G)else Pg.rmW p ts (n-1) S (G++[ts.getD (n-1) 0])
theorem ybx (p:Int) (ts:List Int) (m:Nat) (S:Pg.Fs) (G:List Int):Pg.rmW p ts (m+1) S G=ja p ts (m+1) (S.store (ts.getD m 0) (Pg.index p (3-(m:Int))) 0) G:=by
 unfold ja;rw[Pg.rmW]
 by_cases h:m=0\/Pg.yhy (S.store (ts.getD m 0) (Pg.index p (3-(m:Int))) 0) (ts.getD m 0)=K
 ·rw[if_pos h,if_pos (by simpa using h.imp (fun e=>by omega) id)]
 ·rw[if_neg h,if_neg (by intro hh;exact h (by simpa using hh.imp (fun e=>by omega) id))]
  simp
theorem xP (l:List Int) (m:Nat) (h:m<l.length):l.take (m+1)=l.take m++[l.getD m 0]:=by
 rw[List.take_succ_eq_append_getElem h];simp[List.getD,h]
structure yfW (w:E) (b:Nat) (F:Nat->Prop) (S S':Pg.Fs) (m:Pg.Mp) (G:List Int) (c:Int) (en:Ending) (w':E):Prop where
 body:∃ad cap F',en=A (ua #[m.val,un ad G.length cap,J I c])/\zx w' ad G/\zh w' b S' F'/\But F w w'/\(∀k,F' k->F k\/w.heap.size<=k)/\∀g,ad=U ⟨g,0,Z⟩->w.heap.size<=g/\¬F' g
def lenOf:Value->Nat
 | un _ n _=>n
 | _=>0
structure yf5 (W5 wr:E) (k b:Nat) (H0 Hc:Nat->Prop) (Si:Pg.Fs) (ei:Pg.En) (T P:List Int) (n:Nat) (p:Int) (vg:Value) (Gi:List Int) (R:Pg.Fs×List Int):Prop where
 st:St wr wr k b Hc Si (4-(n:Int)) ei (T.take n) (P.take n) p
 but:But H0 W5 wr
 hc:∀j,Hc j->H0 j\/W5.heap.size<=j
 lt:∀j,Hc j->j<wr.heap.size
 own:wr.ownsRow W5.heap.size 3 1 vg Gi.length (xG Gi)
 far:∀j,vg.ownBlock=U j->¬Hc j
 has:∀x,x ∈ T->Si.has x=ur
 rest:ja p T n Si Gi=R
theorem ycd {w W1 W5 wr w7:E} {k b n:Nat} {F H0 Hc:Nat->Prop} {S Si:Pg.Fs} {ei:Pg.En} {T P Gi:List Int} {p:Int} {ga:Option Addr} {gc:Nat} {R:Pg.Fs×List Int} (HI:yf5 W5 wr k b H0 Hc Si ei T P n p (un ga Gi.length gc) Gi R) (hb:Below wr.heap.size wr w7) (H:zh w b S F) (aV:But F w W5) (Dy:∀j,H0 j->F j\/W1.heap.size<=j) (cO:w.heap.size<W1.heap.size) (h15:W1.heap.size<=W5.heap.size) (a0 a1 a2 a3:Value) (m:Pg.Mp) (c:Int):
 yfW w b F S Si m Gi c (A (ua #[m.val,un ga Gi.length gc,J I c])) ((((w7.setCell ⟨w.heap.size,0,Z⟩ a0).setCell ⟨w.heap.size,1,Z⟩ a1).setCell ⟨w.heap.size,2,Z⟩ a2).setCell ⟨w.heap.size,3,Z⟩ a3):=by
 obtain⟨F2,hF,hB,h1⟩:=HI.st.leaves
 have U0:∀j,F2 j->Hc j:=fun j hj=>by
  rcases h1 j hj with h|h
  ·exact h
  ·have:=hF.lt hj;omega
 have U1:∀j,F2 j->F j\/W1.heap.size<=j:=fun j hj=>by
  rcases HI.hc j (U0 j hj)with h|h
  ·exact Dy j h
  ·exact .inr (by omega)
 have gD:But (fun j=>j=w.heap.size) wr ((((w7.setCell ⟨w.heap.size,0,Z⟩ a0).setCell ⟨w.heap.size,1,Z⟩ a1).setCell ⟨w.heap.size,2,Z⟩ a2).setCell ⟨w.heap.size,3,Z⟩ a3):=by
  iterate 4 refine But.setCell ?_ (by exact .inr rfl) _
  exact But.yhp hb
 refine⟨ga,gc,F2,rfl,?_,hF.keep gD fun j hj e=> ?_,?_,fun j hj=>(U1 j hj).imp id fun h=>by omega,fun g hg=> ?_⟩
 ·exact qG (cap:=gc) (n:=Gi.length) (zc HI.own gD fun j hj e=>by have:=(HI.own.lt j hj).1;omega)
 ·rcases U1 j hj with h|h
  ·have:=H.lt h;omega
  ·omega
 ·refine(aV.trans HI.but fun i hi h=> ?_).trans gD fun i hi e=>by omega
  rcases Dy i h with h|h
  ·exact h
  ·omega
 ·subst hg
  have:=(HI.own.lt g rfl).1;exact⟨by omega,fun h=>HI.far g rfl (U0 g h)⟩
theorem yda {b:Nat} {S:Pg.Fs} {F:Nat->Prop} (t p:Int) (w:E) (h:zh w b S F):
 Calls O 89 #[kO (U ⟨b,0,Z⟩),J I t,J I p] w fun en w'=>yfW w b F S (Pg.rmR S t p).1 (Pg.tFM S t p) (Pg.rmR S t p).2 (Pg.tFC S t p) en w':=by
 have H:Hid (zh w b S F):=h;obtain⟨W1,rG⟩:∃W1,W1=w.alloc (d #[J I 0,J I 0,J I 0,J I 0] 39):=⟨_,rfl⟩
 have pJ:Below w.heap.size w W1:=by rw[rG];exact zA (zR w) _
 have r4:W1.cell? ⟨w.heap.size,0,Z⟩=U (J I 0)/\W1.cell? ⟨w.heap.size,1,Z⟩=U (J I 0)/\W1.cell? ⟨w.heap.size,2,Z⟩=U (J I 0)/\W1.cell? ⟨w.heap.size,3,Z⟩=U (J I 0):=by rw[rG];simp[go_sem]
 have kg:∀o,W1.frozen? ⟨w.heap.size,o,Z⟩=K:=fun o=>by rw[rG];simp[go_sem]
 have mE:Hid _:=r4;have sQ:Hid _:=kg;have H9:Hid _:=pJ;have cO:w.heap.size<W1.heap.size:=ki _ _ r4.1;have HW:=qM t p W1 (h.keep (G:=fun _=>False) (But.yhp pJ) fun _ _=>id)
 by_cases hc:Pg.tFC S t p=0
 ·have hz:xQ S t p=0:=by
   by_cases hz:xQ S t p=0
   ·exact hz
   ·rw[Pg.tFC,if_pos hz]at hc
    exact absurd hc hz
  obtain⟨Y,s,lv,hY,W,lu,kU,DL,dm,dI⟩:=jc hz;have pu:=W.has;have il:=W.len
  have e5:Pg.tFM S t p=s.e.map (lv:Int) p:=by rw[Pg.tFM,if_pos hc,hY,W.yhu,W.yhw]
  have eR:Pg.rmR S t p=Pg.rmW p (tabs (Y++[s])) (Y.length+1) S []:=by rw[Pg.rmR,if_pos hc,hY];simp
  have LZ:∀i,i<Y.length+1->(qN (Y++[s])).getD i 0=Pg.index p (3-(i:Int)):=fun i hi=>by
   have:=(yaV S t p (i:=i) (by rw[hY];simpa using hi)).2.2;rw[hY]at this;exact this
  rw[hc,e5,eR];rw[hc,hY,W.yhw,W.yhu]at HW
  have Lj:(tabs (Y++[s])).length=Y.length+1:=by rw[xC];simp
  have Oz:(qN (Y++[s])).length=Y.length+1:=by rw[vx];simp
  rw[yY,yJ]at il;clear hc hz W hY lu dm dI h e5 eR r4 kg pJ;generalize tabs (Y++[s])=T at*;generalize qN (Y++[s])=P at*;generalize Y.length=N at*;generalize Fp:s.e=e at*;clear Fp;generalize iB:e.map (lv:Int) p=mm at*;have Mh:Hid _:=iB;clear iB;obtain⟨mp,ms,mf,mr⟩:=mm;rw[ybx]
  go_enter Tryz.func89,Tryz.ntmps89
  go_wp2_with fail
  rw[<-rG];clear rG;refine HW.mono ?_;rintro en w3 ⟨k,rfl,hS,He⟩;have mq:=jJ hS;rw[Mh.out]at mq;simp only[Pg.Mp.val]at mq;have Mr:Hid _:=hS;have rE:Hid (Below W1.heap.size W1 w3):=He;clear hS He HW
  go_wp2_with fail
  refine mq.mono ?_;rintro en w4 ⟨rfl,Hl⟩;have rM:Hid (Below w3.heap.size w3 w4):=Hl;clear Hl mq;obtain⟨W5,nz⟩:∃W5,W5=w4.alloc (d #[J I mp,J I ms,J I mf,J I mr] 39):=⟨_,rfl⟩
  have aV:Below w3.heap.size w3 W5:=by rw[nz];exact zA rM.out _
  have m4:W5.cell? ⟨w4.heap.size,0,Z⟩=U (J I mp)/\W5.cell? ⟨w4.heap.size,1,Z⟩=U (J I ms)/\W5.cell? ⟨w4.heap.size,2,Z⟩=U (J I mf)/\W5.cell? ⟨w4.heap.size,3,Z⟩=U (J I mr):=by rw[nz];simp[go_sem]
  have Ww:w4.heap.size<W5.heap.size:=ki _ _ m4.1;have Z5:Hid _:=xH (zT rE.out aV) mE.out;have Dh:Hid (∀o,W5.frozen? ⟨w.heap.size,o,Z⟩=K):=fun o=>((zT rE.out aV).frozen (p:=⟨w.heap.size,o,Z⟩) cO).trans (sQ.out o)
  have Ak:∃H0':Nat->Prop,St W5 W5 k b H0' S (lv:Int) e T P p/\(∀j,H0' j->F j\/W1.heap.size<=j)/\∀j,H0' j->j<w4.heap.size:=by
   obtain⟨H',q1,q2,q3⟩:=(Mr.out.grow rM.out).other (w':=W5) (G:=fun _=>False) (by rw[nz];exact But.yhp (zA (zR _) _)) fun _ h=>h.elim;exact⟨H',q1,q2,q3⟩
  obtain⟨H0,U7,Dy,Dz⟩:=Ak
  have Ml:Calls O 134 #[kO (U ⟨k,0,Z⟩),ud #[ks K,ks K,J I 0,ks K,ks K,J I 0]] W5 fun en w'=>en=A (ua #[])/\St W5 w' k b H0 (S.store (T.getD N 0) (Pg.index p (3-(N:Int))) 0) (lv:Int) Pg.En.zero (T.take (N+1)) (P.take (N+1)) p:=by
   have eT:T=T.take N++[T.getD N 0]:=by rw[<-xP T N (by omega),<-Lj,uv]
   have eP:P=P.take N++[Pg.index p (3-(N:Int))]:=by rw[<-LZ N (by omega),<-xP P N (by omega),<-Oz,uv]
   have BI:St W5 W5 k b H0 S (lv:Int) e (T.take N++[T.getD N 0]) (P.take N++[Pg.index p (3-(N:Int))]) p:=by rw[<-eT,<-eP];exact U7
   have:=vY Pg.En.zero BI (by simp;omega) (by simp;omega);simp only[Pg.En.zero,Pg.En.val,ydm]at this;rw[<-eT,<-eP]at this
   have t1:T.take (N+1)=T:=by rw[<-Lj,uv]
   have t2:P.take (N+1)=P:=by rw[<-Oz,uv]
   rw[t1,t2];exact this
  have M5:Hid _:=m4;have aC:Hid (But F w W5):=(But.yhp H9.out).trans ((Mr.out.but).trans (But.yhp (F:=fun _=>False) aV) fun _ _ h=>h.elim) fun _ _ h=>h;have Bh:Hid _:=Dy;have SK:Hid _:=Dz;have FH:W1.heap.size<=W5.heap.size:=ue rE.out.size aV.size;clear U7 Dy Dz m4 aV Mr
  have rP:(lv:Int)=4-((N+1:Nat):Int):=by omega
  rw[rP]at Ml;generalize hR:ja p T (N+1) (S.store (T.getD N 0) (Pg.index p (3-(N:Int))) 0) []=R at*;have bH:Hid _:=hR;clear hR
  have Ry:∀x,x ∈ T->(S.store (T.getD N 0) (Pg.index p (3-(N:Int))) 0).has x=ur:=fun x hx=>by rw[Pg.yh9];exact pu x hx
  have CX:Hid _:=Ry;clear pu Ry
  go_wp2_with fail
  rw[<-nz];clear nz;refine Ml.mono ?_;rintro en w6 ⟨rfl,h6⟩;have Uw:Hid _:=h6;clear h6 Ml
  go_wp2_with fail
  go_loopw [12] (fun vg wr=>∃(n:Nat) (Si:Pg.Fs) (ei:Pg.En) (Gi:List Int) (Hc:Nat->Prop),1<=n/\Gi.length+n=N+1/\Hid (yf5 W5 wr k b H0 Hc Si ei T P n p vg Gi R)) (fun vg _=>10-lenOf vg)
  case atStart=>
   obtain⟨Hc,q1,q2,q3⟩:=Uw.out.rebase;exact⟨N+1,_,_,[],Hc,by omega,by simp,q1,Uw.out.but,q2,q3,World.ownsRow_nil _ _ _ _,fun j hj=>by simp[yF]at hj,CX.out,bH.out⟩
  case round=>
   obtain⟨n,Si,ei,Gi,Hc,lW,FC,HI⟩:=hrel
   have Np:(T.take n).length=n:=by simp;omega
   have aB:=vN HI.out.st (by omega);rw[Np]at aB;obtain⟨ga,gc,Ky⟩:=zF HI.out.own;subst Ky
   by_cases h1:n=1
   ·subst h1
    have Ha:decide (1<1)=K:=by decide
    rw[Ha]at aB
    have dM:Hid (R=(Si,Gi)):=by rw[Hid,<-HI.out.rest,ja,if_pos (by left;omega)]
    go_wp2_with fail
    refine aB.mono ?_;rintro en w7 ⟨rfl,Cq⟩;have tq:Below wr.heap.size wr w7:=Cq▸zR wr;clear Cq
    have dC:w7.heap[w.heap.size]?=W5.heap[w.heap.size]?:=by
     have q1:=HI.out.but.block w.heap.size (by omega) fun h=>by
      rcases Bh.out _ h with h|h
      ·have:=zh.lt H.out h;omega
      ·omega
     exact(tq.block _ (by have:=HI.out.but.size;omega)).trans q1
    have sS:w7.heap[w4.heap.size]?=W5.heap[w4.heap.size]?:=by
     have q1:=HI.out.but.block w4.heap.size (by omega) fun h=>by have:=SK.out _ h;omega
     exact(tq.block _ (by have:=HI.out.but.size;omega)).trans q1
    have z0:=(Q dC).trans Z5.out.1;have z1:=(Q dC).trans Z5.out.2.1;have z2:=(Q dC).trans Z5.out.2.2.1;have z3:=(Q dC).trans Z5.out.2.2.2;have zf:∀o,w7.frozen? ⟨w.heap.size,o,Z⟩=K:=fun o=>(yI dC).trans (Dh.out o);have m0:=(Q sS).trans M5.out.1;have m1:=(Q sS).trans M5.out.2.1;have m2:=(Q sS).trans M5.out.2.2.1;have m3:=(Q sS).trans M5.out.2.2.2;have fin:Hid _:=ycd HI.out tq H.out aC.out Bh.out cO FH (J I mp) (J I ms) (J I mf) (J I mr) ⟨mp,ms,mf,mr⟩ 0;clear dC sS tq aB
    go_wp2_with fail
    refine bodyPost_ret (v:=ua #[ud #[J I mp,J I ms,J I mf,J I mr],un ga Gi.length gc,J I 0]) ?_ rfl ?_
    ·simp[results,Tryz.results89,go_sem,z0,z1,z2,z3]
    ·rw[bH.out,dM.out]
     exact fin.out
   ·obtain⟨m,rfl⟩:∃m,n=m+2:=⟨n-2,by omega⟩
    have Ha:decide (1<m+2)=ur:=by simp
    rw[Ha]at aB
    have eT:T.take (m+2)=T.take m++[T.getD m 0]++[T.getD (m+1) 0]:=by rw[xP T (m+1) (by omega),xP T m (by omega)]
    have UM:T.take (m+2)=T.take (m+1)++[T.getD (m+1) 0]:=xP T (m+1) (by omega)
    have eP:P.take (m+2)=P.take m++[P.getD m 0]++[P.getD (m+1) 0]:=by rw[xP P (m+1) (by omega),xP P m (by omega)]
    have sU:T.getD (m+1) 0 ∈ T:=by
     have:m+1<T.length:=by omega
     simp[List.getD,this]
    have Pz:Calls O 136 #[kO (U ⟨k,0,Z⟩)] wr fun en w'=>en=A (ks (Pg.yhy Si (T.getD (m+1) 0)))/\Below wr.heap.size wr w':=vq (by rw[<-UM];exact HI.out.st) (by simp;omega) (HI.out.has _ sU);cases uG:Pg.yhy Si (T.getD (m+1) 0)
    ·rw[uG]at Pz
     have dM:Hid (R=(Si,Gi)):=by rw[Hid,<-HI.out.rest,ja,if_pos (by right;exact uG)]
     go_wp2_with fail
     refine aB.mono ?_;rintro en w7 ⟨rfl,Cq⟩;subst w7
     go_wp2_with fail
     refine Pz.mono ?_;rintro en w7 ⟨rfl,tq⟩
     have dC:w7.heap[w.heap.size]?=W5.heap[w.heap.size]?:=by
      have q1:=HI.out.but.block w.heap.size (by omega) fun h=>by
       rcases Bh.out _ h with h|h
       ·have:=zh.lt H.out h;omega
       ·omega
      exact(tq.block _ (by have:=HI.out.but.size;omega)).trans q1
     have sS:w7.heap[w4.heap.size]?=W5.heap[w4.heap.size]?:=by
      have q1:=HI.out.but.block w4.heap.size (by omega) fun h=>by have:=SK.out _ h;omega
      exact(tq.block _ (by have:=HI.out.but.size;omega)).trans q1
     have z0:=(Q dC).trans Z5.out.1;have z1:=(Q dC).trans Z5.out.2.1;have z2:=(Q dC).trans Z5.out.2.2.1;have z3:=(Q dC).trans Z5.out.2.2.2;have zf:∀o,w7.frozen? ⟨w.heap.size,o,Z⟩=K:=fun o=>(yI dC).trans (Dh.out o);have m0:=(Q sS).trans M5.out.1;have m1:=(Q sS).trans M5.out.2.1;have m2:=(Q sS).trans M5.out.2.2.1;have m3:=(Q sS).trans M5.out.2.2.2;have fin:Hid _:=ycd HI.out tq H.out aC.out Bh.out cO FH (J I mp) (J I ms) (J I mf) (J I mr) ⟨mp,ms,mf,mr⟩ 0;clear dC sS tq aB Pz
     go_wp2_with fail
     refine bodyPost_ret (v:=ua #[ud #[J I mp,J I ms,J I mf,J I mr],un ga Gi.length gc,J I 0]) ?_ rfl ?_
     ·simp[results,Tryz.results89,go_sem,z0,z1,z2,z3]
     ·rw[bH.out,dM.out]
      exact fin.out
    ·rw[uG]at Pz
     have oO:Hid (ja p T (m+1) (Si.store (T.getD m 0) (Pg.index p (3-(m:Int))) 0) (Gi++[T.getD (m+1) 0])=R):=by
      rw[Hid,<-HI.out.rest,<-ybx]
      conv=>rhs;rw[ja,if_neg (by intro hh;rcases hh with h|h;(· omega);(· rw[show m+2-1=m+1 from rfl,uG]at h;cases h))]
      rfl
     go_wp2_with fail
     refine aB.mono ?_;rintro en w7 ⟨rfl,Cq⟩;subst w7
     go_wp2_with fail
     refine Pz.mono ?_;rintro en w7 ⟨rfl,tq⟩
     have FR:(4-((m+2:Nat):Int))+1=4-((m+1:Nat):Int):=by omega
     have BI:St wr w7 k b Hc Si (4-((m+2:Nat):Int)) ei (T.take m++[T.getD m 0]++[T.getD (m+1) 0]) (P.take m++[P.getD m 0]++[P.getD (m+1) 0]) p:=by rw[<-eT,<-eP];exact HI.out.st.grow tq
     have oH:=yf8 BI (by simp;omega) (by simp;omega) (by omega) (by omega);rw[FR,LZ m (by omega)]at oH;rw[<-xP T m (by omega)]at oH
     have UL:P.take m++[Pg.index p (3-(m:Int))]=P.take (m+1):=by rw[xP P m (by omega),LZ m (by omega)]
     rw[UL]at oH;have pg:Hid _:=tq;have uT:Hid _:=HI.out
     have hgl:Gi.length+1<=4:=by omega
     generalize T.getD (m+1) 0=tg at*;generalize T.getD m 0=tm at*;clear tq aB Pz eT UM eP sU UL FR BI
     go_wp2_with fail
     refine oH.mono ?_;rintro en w8 ⟨rfl,h8⟩;have Im:Hid _:=h8;have Rn:But Hc wr w8:=h8.but;have RD:w8.ownsRow W5.heap.size 3 1 (un ga Gi.length gc) Gi.length (xG Gi):=zc HI.out.own Rn fun j hj=>HI.out.far j hj
     have hs58:W5.heap.size<=w8.heap.size:=by have:=HI.out.but.size;have:=Rn.size;omega
     have dL:Hid _:=Rn;obtain⟨q0,hq,rW,rZ,rX⟩:=info_parts ji;clear h8 oH Rn
     go_wp2_with (first
      | (at_builtin;refine wpList_append_lies _ rfl _ _ 45 rfl W5.heap.size 3 q0 (J I 0) 1 8 Tryz.underlying45 hq rW rZ rX rfl (by decide) _ _ _ rfl (RD.alloc _) ⟨w8.heap.size,0,Z⟩ 1 1 [J I tg] rfl rfl ?c1 ?c2 (by decide) ?c3 ?c4 ?c5 (w8.heap.size+1) (by simp) ?_))
     case c1=>
      intro j u hj
      match j,hj with
      | 0,hj=>simp at hj;subst hj;simp[Addr.add,go_sem]
     case c2=>intro u hu;simp at hu;subst hu;rfl
     case c3=>unfold maxLen;omega
     case c4=>omega
     case c5=>simp;omega
     intro g9 dN w9 nR bg wz Pe;have Ig:Hid (w9.ownsRow W5.heap.size 3 1 (un (U ⟨g9,0,Z⟩) (Gi.length+1) dN) (Gi.length+1) (xG Gi++[J I tg])):=nR;have PG:But (fun j=>(yT ga Gi.length gc).ownBlock=U j) w8 w9:=(But.yhp (zA (zR w8) _)).grown bg fun k hk=> .inr hk;have ay:Hid _:=PG;have EJ:Hid ((yT ga Gi.length gc).ownBlock=U g9\/g9=w8.heap.size+1):=wz;clear nR bg wz Pe RD PG
     have fin:Hid (∃Df,yf5 W5 w9 k b H0 Df (Si.store tm (Pg.index p (3-(m:Int))) 0) Pg.En.zero T P (m+1) p (un (U ⟨g9,0,Z⟩) (Gi.length+1) dN) (Gi++[tg]) R):=by
      have Hf:∀j,(yT ga Gi.length gc).ownBlock=U j->W5.heap.size<=j/\j<wr.heap.size:=fun j hj=>uT.out.own.lt j hj;obtain⟨Df,q1,q2,q3⟩:=Im.out.other ay.out fun j hj=>⟨(Hf j hj).2,uT.out.far j hj⟩;refine⟨Df,q1,?_,fun j hj=> ?_,fun j hj=>kp (q3 j hj) ay.out.size,?_,fun j hj=> ?_,fun x hx=> ?_,oO.out⟩
      ·refine(uT.out.but.trans dL.out fun i hi h=> ?_).trans ay.out fun i hi h=> ?_
       ·rcases uT.out.hc i h with h|h
        ·exact h
        ·omega
       ·have:=(Hf i h).1;omega
      ·rcases q2 j hj with h|h
       ·exact uT.out.hc j h
       ·have:=uT.out.but.size;exact .inr (by omega)
      ·rw[yY,yJ,jH]
       exact Ig.out
      ·have e:g9=j:=by simpa[yF]using hj
       subst e;intro hh;rcases EJ.out with h|h
       ·rcases q2 g9 hh with h'|h'
        ·exact uT.out.far g9 h h'
        ·have:=(Hf g9 h).2;omega
       ·have:=q3 g9 hh;omega
      ·rw[Pg.yh9];exact uT.out.has x hx
     go_wp2_with fail
     obtain⟨Df,Ah⟩:=fin.out;exact⟨⟨m+1,_,_,Gi++[tg],Df,by omega,by simp;omega,Ah⟩,by simp[lenOf];omega⟩
 ·have e2:Pg.tFM S t p= .zz:=by rw[Pg.tFM,if_neg hc]
  have e3:Pg.rmR S t p=(S,[]):=by rw[Pg.rmR,if_neg hc]
  rw[e2,e3];clear h e2 e3 r4 kg pJ;generalize Pg.tFC S t p=cc at*
  have gW:(cc !=0)=ur:=by simp[hc]
  clear hc
  go_enter Tryz.func89,Tryz.ntmps89
  go_wp2_with fail
  rw[<-rG];clear rG;refine HW.mono ?_;rintro en w3 ⟨k,rfl,_,He⟩;obtain⟨y0,y1,y2,y3⟩:=xH He mE.out;have yf:∀o,w3.frozen? ⟨w.heap.size,o,Z⟩=K:=fun o=>(He.frozen (p:=⟨w.heap.size,o,Z⟩) cO).trans (sQ.out o);have rE:Hid (Below w.heap.size w w3):=zT H9.out He;clear He HW
  go_wp2_with fail
  have Du:=zp rE.out w.heap.size (kh _) (J I 0) (J I 0) (J I 0) (J I 0);refine bodyPost_ret (v:=ua #[ud #[J I 0,J I 0,J I 0,J I 0],un Z 0 0,J I cc]) ?_ rfl ⟨Z,0,F,rfl,fun j hj=>absurd hj (by simp),zh.keep (G:=fun _=>False) H.out (But.yhp Du) fun _ _=>id,But.yhp Du,fun k hk=> .inl hk,fun g hg=>by cases hg⟩;simp[results,Tryz.results89,go_sem,y0,y1,y2,y3]
end Go.Proofs.YtdphiompijbelaaGreat
namespace Go.Proofs.YtdphiompijbelaaGreat
open Go.RowKit Go.Sort
attribute [local go_sem] Loose.gent
theorem ybV {b:Nat} {D:Dsd} {X:Pg.Spc} (m:Pg.Mp) (w:E) (h:Dsk w b D X):
 Calls O 88 #[kO (U ⟨b,0,Z⟩),m.val] w fun e w'=>e=A (Pg.Ev.val ⟨Pg.insC X.S 0 m,K,0,0,0,decide (Pg.insC X.S 0 m=0)⟩)/\zi w b D X {X with S:=Pg.insS X.S 0 m} w':=by
 obtain⟨p,s,f,r⟩:=m;obtain⟨W,hW⟩:∃W,W=(w.alloc (d #[J I p,J I s,J I f,J I r] 39)).alloc (d #[J I 0,ks K,J I 0,J I 0,J I 0,ks K] 36):=⟨_,rfl⟩
 have hB:Below w.heap.size w W:=by rw[hW];exact zA (zA (zR _) _) _
 have rU:W.heap.size=w.heap.size+2:=by rw[hW];simp
 have RZ:Hid (W.heap[w.heap.size+1]?=U (d #[J I 0,ks K,J I 0,J I 0,J I 0,ks K] 36 (0,0))):=by
  rw[Hid,hW];exact(by simp:(w.alloc (d #[J I p,J I s,J I f,J I r] 39)).heap.size=w.heap.size+1)▸heap_alloc_new _ _
 have LT:Hid (∀x,dsF D b X.C.length X.G x->x<w.heap.size):=h.owns;have HW:Hid _:=h.grow hB;have q0:=cell_regrown (show W.cell? ⟨w.heap.size,0,Z⟩=U (J I p) by rw[hW];simp[go_sem]);have q1:=cell_regrown (show W.cell? ⟨w.heap.size,1,Z⟩=U (J I s) by rw[hW];simp[go_sem]);have q2:=cell_regrown (show W.cell? ⟨w.heap.size,2,Z⟩=U (J I f) by rw[hW];simp[go_sem]);have q3:=cell_regrown (show W.cell? ⟨w.heap.size,3,Z⟩=U (J I r) by rw[hW];simp[go_sem]);have g0:=cell_regrown HW.out.c0;have g1:=cell_regrown HW.out.c1;have HI:=fun w' (hm:zh w' D.bm X.S D.FM)=>yc9 0 ⟨p,s,f,r⟩ w' hm;have HB:Hid _:=hB;clear h hB;simp only[Pg.Mp.val]at HI ⊢;generalize Pg.insC X.S 0 ⟨p,s,f,r⟩=c at*;generalize Pg.insS X.S 0 ⟨p,s,f,r⟩=S' at*
 go_enter Tryz.func88,Tryz.ntmps88
 go_upto_region 1 with fail
 rw[<-hW];clear hW;refine Loose.yhr 9 (by kernel_rfl) (by kernel_rfl) ?_;simp only[yS,yV,yC,yQ]
 repeat (
  refine Loose.zS (fun k hk=> ?_)
  go_simp
  (refine hk _ ?_;clear hk k))
 refine Loose.yhs ?_;intro w3 He;have P3:Hid _:=HW.out.grow He;have rE:Hid _:=He;clear He q0 q1 q2 q3 g0 g1
 go_wp2_with fail
 refine(HI _ P3.out.mem).mono ?_;rintro e w4 ⟨rfl,FM,fZ,Hl,fF⟩;have D4:Hid (zi W b D X {X with S:=S'} w4):=⟨_,P3.out.frames fZ Hl fF,(But.yhp rE.out).trans Hl (fun x _ e=>⟨1,e⟩),fun x hx=>(qy fF x hx).imp id (fun h=>by have:=rE.out.size;omega)⟩;clear fZ Hl fF HI P3 rE;obtain⟨e4,GK⟩:=D4.out.block (w:=w) (r:=w.heap.size+1) LT.out (by omega) (by omega);obtain⟨⟨z0,z1,z2,z3,z4,z5⟩,zf⟩:=zG (e4.trans RZ.out);have FIN:Hid (∀Wf,But (fun x=>x=w.heap.size+1) w4 Wf->zi w b D X {X with S:=S'} Wf):=fun Wf hb=>D4.out.behind HB.out LT.out (fun x e=>by omega) hb;clear e4 D4
 have ec:(c==0)=decide (c=0):=by by_cases e:c=0<;>simp[e]
 cases hc:decide (c=0)
 all_goals
  have TL:=hc;simp only[decide_eq_false_iff_not,decide_eq_true_eq]at TL;rw[hc]at ec;have SA:Hid _:=TL;clear TL
  go_wp2_with fail
  refine bodyPost_ret (v:=Pg.Ev.val ⟨c,K,0,0,0,_⟩) ?_ rfl ⟨rfl,FIN.out _ ?_⟩
  ·simp[results,Tryz.results88,go_sem,z0,z1,z2,z3,z4,z5,GK,Pg.Ev.val,SA.out]
   try exact SA.out
  ·exact ycr _ _ _ _ _ _ _ _
theorem vF {b:Nat} {D:Dsd} {X:Pg.Spc} (m:Pg.Mp) (c:Int) (hc:c≠0) (ag:Option Addr) (n cg:Nat) (w:E) (h:Dsk w b D X):
 Calls O 90 #[kO (U ⟨b,0,Z⟩),m.val,un ag n cg,J I c] w fun e w'=>e=A (Pg.Ev.code c).val/\Below w.heap.size w w':=by
 obtain⟨p,s,f,r⟩:=m;obtain⟨W,hW⟩:∃W,W=(w.alloc (d #[J I p,J I s,J I f,J I r] 39)).alloc (d #[J I 0,ks K,J I 0,J I 0,J I 0,ks K] 36):=⟨_,rfl⟩
 have hB:Below w.heap.size w W:=by rw[hW];exact zA (zA (zR _) _) _
 have rU:W.heap.size=w.heap.size+2:=by rw[hW];simp
 have RZ:Hid (W.heap[w.heap.size+1]?=U (d #[J I 0,ks K,J I 0,J I 0,J I 0,ks K] 36 (0,0))):=by
  rw[Hid,hW];exact(by simp:(w.alloc (d #[J I p,J I s,J I f,J I r] 39)).heap.size=w.heap.size+1)▸heap_alloc_new _ _
 have HB:Hid _:=hB
 have kK:(c !=0)=ur:=by simpa using hc
 clear h hB hc;simp only[Pg.Mp.val]
 go_enter Tryz.func90,Tryz.ntmps90
 go_upto_region 1 with fail
 rw[<-hW];clear hW
 go_wp2_with fail
 refine(xA c _).mono ?_;rintro e w2 ⟨rfl,Hd⟩;obtain⟨⟨z0,z1,z2,z3,z4,z5⟩,zf⟩:=zG ((Hd.block _ (by omega)).trans RZ.out)
 have pR:w.heap.size+1<w2.heap.size:=by have:=Hd.size;omega
 have Ht:Hid (Below w.heap.size w w2):=zT HB.out Hd;clear Hd;simp only[Pg.Ev.val,Pg.Ev.code]
 go_wp2_with fail
 refine bodyPost_ret (v:=(Pg.Ev.code c).val) ?_ rfl ⟨rfl,?_⟩
 ·simp[results,Tryz.results90,go_sem,z0,z1,z2,z3,z4,z5,pR,Pg.Ev.val,Pg.Ev.code]
 ·exact vo Ht.out _ (by omega) _ _ _ _ _ _
theorem yaS {b:Nat} {D:Dsd} {X:Pg.Spc} (m:Pg.Mp) (hm:Pg.fits m.p) (PM:X.busy=K) (ag:Option Addr) (cg:Nat) (G:List Int) (w:E) (h:Dsk w b D X) (hG:zx w ag G) (hn:∀g,ag=U ⟨g,0,Z⟩->¬dsF D b X.C.length [] g) (eQ:G.length<=4680):
 Calls O 90 #[kO (U ⟨b,0,Z⟩),m.val,un ag G.length cg,J I 0] w fun e w'=>e=A (Pg.Ev.code 0).val/\Dsk w' b {D with ag:=ag,cg:=cg} (X.post X.S m G)/\But (fun x=>x=b\/x=D.bs) w w':=by
 obtain⟨p,s,f,r⟩:=m;obtain⟨W,hW⟩:∃W,W=(w.alloc (d #[J I p,J I s,J I f,J I r] 39)).alloc (d #[J I 0,ks K,J I 0,J I 0,J I 0,ks K] 36):=⟨_,rfl⟩
 have hB:Below w.heap.size w W:=by rw[hW];exact zA (zA (zR _) _) _
 have rU:W.heap.size=w.heap.size+2:=by rw[hW];simp
 have RZ:Hid (W.heap[w.heap.size+1]?=U (d #[J I 0,ks K,J I 0,J I 0,J I 0,ks K] 36 (0,0))):=by
  rw[Hid,hW];exact(by simp:(w.alloc (d #[J I p,J I s,J I f,J I r] 39)).heap.size=w.heap.size+1)▸heap_alloc_new _ _
 have x0:W.cell? ⟨w.heap.size,0,Z⟩=U (J I p):=by rw[hW];simp[go_sem]
 have x1:W.cell? ⟨w.heap.size,1,Z⟩=U (J I s):=by rw[hW];simp[go_sem]
 have x2:W.cell? ⟨w.heap.size,2,Z⟩=U (J I f):=by rw[hW];simp[go_sem]
 have x3:W.cell? ⟨w.heap.size,3,Z⟩=U (J I r):=by rw[hW];simp[go_sem]
 have LT:Hid (∀x,dsF D b X.C.length X.G x->x<w.heap.size):=h.owns
 have Iy:Hid (∀x,dsF {D with ag:=ag,cg:=cg} b X.C.length G x->x<w.heap.size):=by
  rintro x ⟨i,hx⟩
  match i with
  | 0=>exact h.lt (i:=0) hx
  | 1=>exact h.lt (i:=1) hx
  | 2=>exact h.lt (i:=2) hx
  | 3=>exact h.lt (i:=3) hx
  | 4=>
    obtain⟨g,e,hl,_⟩:=hG 0 (List.length_pos_iff.2 hx.1);have e2:ag=U ⟨x,0,Z⟩:=hx.2;rw[e2]at e;injection e with e;injection e with e;rw[e];exact hl
  | k+5=>exact h.lt (i:=k+5) hx
 have rY:=h.lb;have iY:D.bs<w.heap.size:=LT.out _ ⟨3,rfl⟩;have Hg:=h.len;have wO:=h.pos;have fe:=h.le;have HW:=h.grow hB
 obtain⟨P2,B2⟩:=HW.goes (ag:=ag) (cg:=cg) (G:=G) (fun j hj=>by
  obtain⟨g,e,hl,hc⟩:=hG j hj
  exact⟨g,e,kp hl hB.size,(hB.cell (p:=⟨g,j,Z⟩) hl).trans hc⟩) hn eQ
 have c4:=HW.c4;have fb:=HW.fb;generalize Hz:W.setCell ⟨b,4,Z⟩ (un ag G.length cg)=W2 at*
 have pR:W2.heap.size=w.heap.size+2:=by rw[<-Hz];simpa using rU
 have HM:Hid _:=hm;have HB:Hid _:=hB;have P2:Hid _:=P2;have B2:Hid _:=B2
 have Ho:∀y,w.heap.size<=y->¬y=b:=fun y h1 h2=>by omega
 have q0:=cell_regrown ((B2.out.cell (a:=⟨w.heap.size,0,Z⟩) (show w.heap.size<_ by omega) (Ho _ (kh _))).trans x0);have q1:=cell_regrown ((B2.out.cell (a:=⟨w.heap.size,1,Z⟩) (show w.heap.size<_ by omega) (Ho _ (kh _))).trans x1);have q2:=cell_regrown ((B2.out.cell (a:=⟨w.heap.size,2,Z⟩) (show w.heap.size<_ by omega) (Ho _ (kh _))).trans x2);have q3:=cell_regrown ((B2.out.cell (a:=⟨w.heap.size,3,Z⟩) (show w.heap.size<_ by omega) (Ho _ (kh _))).trans x3);have Z2:Hid (W2.heap[w.heap.size+1]?=_):=(B2.out.block _ (by omega) (Ho _ (by omega))).trans RZ.out;have g3:=cell_regrown P2.out.c3;have g2:=cell_regrown P2.out.c2;simp only at g3 g2;have uU:=fun w' (hs:jD w' D.bs X.T (fun k=>X.W.getD k K))=>yec ⟨p,s,f,r⟩ X.C.length w' hs (by rw[Pg.yki (by omega)];unfold Pg.Spc.busy at PM;rw[PM];rfl) wO fe;rw[<-Hg,Pg.post_waits,Hg]at uU;clear h hG hn hm hB HW x0 x1 x2 x3 Ho PM;simp only[Pg.Mp.val]at uU ⊢
 go_enter Tryz.func90,Tryz.ntmps90
 go_upto_region 1 with fail
 rw[<-hW];clear hW
 go_upto_region 4 with fail
 clear Hz c4 fb;refine Loose.yhr 10 (by kernel_rfl) (by kernel_rfl) ?_;simp only[yS,yV,yC,yQ]
 repeat (
  refine Loose.zS (fun k hk=> ?_)
  go_simp
  (refine hk _ ?_;clear hk k))
 refine Loose.yhs ?_;intro w3 He;have P3:Hid _:=P2.out.grow He;have rE:Hid _:=He;have Z3:Hid (w3.heap[w.heap.size+1]?=_):=(He.block _ (by omega)).trans Z2.out;clear He q0 q1 q2 q3 g2 g3 Z2 P2
 go_wp2_with fail
 refine(uU _ P3.out.tl).mono ?_;rintro e w4 ⟨rfl,pF,Hl⟩;have P4:Hid (Dsk w4 b {D with ag:=ag,cg:=cg} (X.post X.S ⟨p,s,f,r⟩ G)):=P3.out.shot pF Hl (by rw[List.length_map];exact Hg) HM.out
 have Sl:w.heap.size+1<w3.heap.size:=by have:=rE.out.size;omega
 have Z4:w4.heap[w.heap.size+1]?=_:=(Hl.block _ Sl (fun e=>by have e:w.heap.size+1=D.bs:=e;omega)).trans Z3.out;have GK:w.heap.size+1<w4.heap.size:=kp Sl Hl.size;obtain⟨⟨z0,z1,z2,z3,z4,z5⟩,zf⟩:=zG Z4;have B4:Hid (But (fun x=>x=b\/x=D.bs) w w4):=((((But.yhp HB.out).trans B2.out (fun _ _ h=> .inl h)).trans (But.yhp (F:=fun _=>False) rE.out) (fun _ _ h=>h.elim)).trans Hl (fun _ _ h=> .inr h))
 have FIN:Hid (∀Wf,But (fun x=>x=w.heap.size+1) w4 Wf->Dsk Wf b {D with ag:=ag,cg:=cg} (X.post X.S ⟨p,s,f,r⟩ G)/\But (fun x=>x=b\/x=D.bs) w Wf):=fun Wf hb=>by
  refine⟨P4.out.keep hb (fun x hx e=> ?_),B4.out.trans hb (fun x hx e=>by omega)⟩;have:=Iy.out x hx;omega
 clear pF Hl Z4 P4 B4 uU P3 rE Z3 B2
 go_wp2_with fail
 refine bodyPost_ret (v:=(Pg.Ev.code 0).val) ?_ rfl ⟨rfl,FIN.out _ ?_⟩
 ·simp[results,Tryz.results90,go_sem,z0,z1,z2,z3,z4,z5,GK,Pg.Ev.val,Pg.Ev.code]
 ·exact ycr _ _ _ _ _ _ _ _
theorem ybl {b:Nat} {D:Dsd} {X:Pg.Spc} (x:Pg.Sx) (hz:X.busy=ur) (w:E) (h:Dsk w b D X):
 Calls O 52 #[kO (U ⟨b,0,Z⟩),x.val] w fun e w'=>e=A (Pg.Ev.code 8).val/\Below w.heap.size w w':=by
 obtain⟨W,hW⟩:∃W,W=chW w x:=⟨_,rfl⟩
 have CW:Hid (ChW w W x):=by rw[hW];exact xM w x
 have bE:=qh W (h.grow CW.out.bel);rw[hz]at bE;have rU:W.heap.size=w.heap.size+2:=CW.out.size;clear h hz;obtain⟨kd,co,⟨p,s,f,r⟩,q,k,u⟩:=x;simp only[chW,Pg.Sx.val]at hW ⊢
 go_enter Tryz.func52,Tryz.ntmps52
 go_upto_region 1 with fail
 rw[<-hW];clear hW
 go_wp2_with fail
 refine bE.mono ?_;rintro e w1 ⟨rfl,hw⟩;subst w1
 go_wp2_with fail
 refine(xA 8 _).mono ?_;rintro e w2 ⟨rfl,Hd⟩;obtain⟨⟨z0,z1,z2,z3,z4,z5⟩,zf⟩:=zG ((Hd.block _ (by omega)).trans CW.out.ev)
 have pR:w.heap.size+1<w2.heap.size:=by have:=Hd.size;omega
 have Ht:Hid (Below w.heap.size w w2):=zT CW.out.bel Hd;clear Hd;simp only[Pg.Ev.val,Pg.Ev.code]
 go_wp2_with fail
 refine bodyPost_ret (v:=(Pg.Ev.code 8).val) ?_ rfl ⟨rfl,?_⟩
 ·simp[results,Tryz.results52,go_sem,z0,z1,z2,z3,z4,z5,pR,Pg.Ev.val,Pg.Ev.code]
 ·exact vo Ht.out _ (by omega) _ _ _ _ _ _
theorem ybS {b:Nat} {D:Dsd} {X:Pg.Spc} (x:Pg.Sx) (hk:x.kind=1) (hz:X.busy=K) (w:E) (h:Dsk w b D X):
 Calls O 52 #[kO (U ⟨b,0,Z⟩),x.val] w fun e w'=>e=A (Pg.Ev.val ⟨Pg.insC X.S 0 x.m,K,0,0,0,decide (Pg.insC X.S 0 x.m=0)⟩)/\zi w b D X {X with S:=Pg.insS X.S 0 x.m} w':=by
 obtain⟨W,hW⟩:∃W,W=chW w x:=⟨_,rfl⟩
 have CW:Hid (ChW w W x):=by rw[hW];exact xM w x
 have PW:=h.grow CW.out.bel;have bE:=qh W PW;rw[hz]at bE;have HI:=ybV x.m W PW;have rU:W.heap.size=w.heap.size+2:=CW.out.size;have LT:Hid (∀x,dsF D b X.C.length X.G x->x<w.heap.size):=h.owns;have x0:=CW.out.x0;have x2:=CW.out.x2;have x3:=CW.out.x3;have x4:=CW.out.x4;have x5:=CW.out.x5;clear h hz PW;obtain⟨kd,co,⟨p,s,f,r⟩,q,k,u⟩:=x;simp only at hk x0 x2 x3 x4 x5;subst hk;generalize Pg.insC X.S 0 _=c at*;generalize Pg.insS X.S 0 _=S' at*;generalize decide (c=0)=z at*;simp only[chW,Pg.Sx.val,Pg.Mp.val]at hW HI ⊢
 go_enter Tryz.func52,Tryz.ntmps52
 go_upto_region 1 with fail
 rw[<-hW];clear hW
 go_wp2_with fail
 refine bE.mono ?_;rintro e w1 ⟨rfl,hw⟩;subst w1
 go_wp2_with fail
 refine HI.mono ?_;rintro e w2 ⟨rfl,d2⟩;have D2:Hid _:=d2;obtain⟨e2,rX⟩:=d2.block (w:=w) (r:=w.heap.size+1) LT.out (by omega) (by omega);obtain⟨⟨z0,z1,z2,z3,z4,z5⟩,zf⟩:=zG (e2.trans CW.out.ev);have FIN:Hid (∀Wf,But (fun x=>x=w.heap.size+1) w2 Wf->zi w b D X {X with S:=S'} Wf):=fun Wf hb=>D2.out.behind CW.out.bel LT.out (fun x e=>by omega) hb;clear d2 D2 e2 x0 x2 x3 x4 x5 HI bE CW;simp only[Pg.Ev.val]
 go_wp2_with fail
 refine bodyPost_ret (v:=Pg.Ev.val ⟨c,K,0,0,0,z⟩) ?_ rfl ⟨rfl,FIN.out _ ?_⟩
 ·simp[results,Tryz.results52,go_sem,z0,z1,z2,z3,z4,z5,rX,Pg.Ev.val]
 ·exact ycr _ _ _ _ _ _ _ _
structure ChD (w Wa:E) (b mb:Nat) (D:Dsd) (X:Pg.Spc) (S':Pg.Fs) (FM:Nat->Prop) (m:Pg.Mp) (ad:Option Addr) (G:List Int):Prop where
 ds:Dsk Wa b {D with FM:=FM} {X with S:=S'}
 but:But (dsF D b X.C.length X.G) w Wa
 own:∀x,FM x->D.FM x\/w.heap.size+1<x
 ev:Wa.heap[w.heap.size+1]?=U (d #[J I 0,ks K,J I 0,J I 0,J I 0,ks K] 36 (0,0))
 m0:Wa.cell? ⟨mb,0,Z⟩=U (J I m.p)
 m1:Wa.cell? ⟨mb,1,Z⟩=U (J I m.s)
 m2:Wa.cell? ⟨mb,2,Z⟩=U (J I m.f)
 m3:Wa.cell? ⟨mb,3,Z⟩=U (J I m.r)
 gone:zx Wa ad G
 ng:∀g,ad=U ⟨g,0,Z⟩->¬dsF {D with FM:=FM} b X.C.length [] g/\w.heap.size+1<g
 lt:∀x,dsF D b X.C.length X.G x->x<w.heap.size
section
variable {w W V w4 Wa w6:E} {b mb:Nat} {D:Dsd} {X:Pg.Spc} {S':Pg.Fs} {FM:Nat->Prop} {m:Pg.Mp} {ad:Option Addr} {G:List Int} {x:Pg.Sx}
theorem ChD.size (h:ChD w Wa b mb D X S' FM m ad G):w.heap.size+1<Wa.heap.size:=(M.1 h.ev).1
theorem ygw (hD:Dsk w b D X) {g:Nat} (hg:w.heap.size<=g) (hf:¬FM g):¬dsF {D with FM:=FM} b X.C.length [] g:=by
 rintro ⟨i,hx⟩
 match i with
 | 0=>have:=hD.lt (i:=0) hx;omega
 | 1=>exact hf hx
 | 2=>have:=hD.lt (i:=2) hx;omega
 | 3=>have:=hD.lt (i:=3) hx;omega
 | 4=>exact absurd rfl hx.1
 | k+5=>have:=hD.lt (i:=k+5) hx;omega
theorem ChD.made (hD:Dsk w b D X) (hB:Below w.heap.size w W) (Ol:W.heap[w.heap.size+1]?=U (d #[J I 0,ks K,J I 0,J I 0,J I 0,ks K] 36 (0,0)))
 (hV:Below W.heap.size W V) (hm:zh w4 D.bm S' FM) (hb:But D.FM V w4) (hF:∀x,FM x->D.FM x\/V.heap.size<=x) (hG:zx w4 ad G) (hn:∀g,ad=U ⟨g,0,Z⟩->V.heap.size<=g/\¬FM g)
 {Y:Nat->Prop} (hW:But Y w4 Wa) (hY:∀j,Y j->W.heap.size<=j/\j<V.heap.size)
 (m0:Wa.cell? ⟨mb,0,Z⟩=U (J I m.p)) (m1:Wa.cell? ⟨mb,1,Z⟩=U (J I m.s)) (m2:Wa.cell? ⟨mb,2,Z⟩=U (J I m.f)) (m3:Wa.cell? ⟨mb,3,Z⟩=U (J I m.r)):
 ChD w Wa b mb D X S' FM m ad G:=by
 have NU:=(M.1 Ol).1;have sV:=hV.size;have s4:=hb.size;have DV:=(hD.grow hB).grow hV;have lt:=hD.owns;have P4:=DV.frames hm hb hF;refine⟨P4.keep hW (fun x hx hy=> ?_),((But.yhp (zT hB hV)).trans hb (fun x _ h=>⟨1,h⟩)).trans hW (fun x hx hy=>by have:=hY x hy;have:=hB.size;omega),fun x hx=>(hF x hx).imp id (fun h=>by omega),?_,m0,m1,m2,m3,hG.but hW (fun g e hy=>by have:=hY g hy;have:=(hn g e).1;omega),fun g e=>⟨ygw hD (by have:=(hn g e).1;have:=hB.size;omega) (hn g e).2,by have:=(hn g e).1;omega⟩,lt⟩
 ·have:=hY x hy
  have:=hB.size;rcases qy (D:=D) (N:=V.heap.size) hF x hx with h|h
  ·have:=lt x h
   omega
  ·omega
 ·refine(hW.block _ (by omega) (fun hy=>by have:=hY _ hy;omega)).trans ((hb.block _ (by omega) (fun hy=> ?_)).trans ((hV.block _ NU).trans Ol))
  have:=lt _ ⟨1,hy⟩;omega
theorem ChD.told {cg:Nat} (h:ChD w Wa b mb D X S' FM m ad G) (h6:Dsk w6 b {D with FM:=FM,ag:=ad,cg:=cg} (X.post S' m G)) (hb:But (fun x=>x=b\/x=D.bs) Wa w6):
 (∀Wf,But (fun x=>x=w.heap.size+1) w6 Wf->zi w b D X (X.post S' m G) Wf)/\w6.heap[w.heap.size+1]?=U (d #[J I 0,ks K,J I 0,J I 0,J I 0,ks K] 36 (0,0)):=by
 have l0:=h.lt b ⟨0,rfl⟩;have l3:=h.lt D.bs ⟨3,rfl⟩
 have own:∀x,dsF {D with FM:=FM,ag:=ad,cg:=cg} b X.C.length G x->dsF D b X.C.length X.G x\/w.heap.size+1<x:=by
  rintro x ⟨i,hx⟩
  match i with
  | 0=>exact .inl ⟨0,hx⟩
  | 1=>exact(h.own x hx).imp (fun h=>⟨1,h⟩) id
  | 2=>exact .inl ⟨2,hx⟩
  | 3=>exact .inl ⟨3,hx⟩
  | 4=>exact .inr (h.ng x hx.2).2
  | k+5=>exact .inl ⟨k+5,hx⟩
 refine⟨fun Wf hf=>⟨_,h6.keep hf (fun x hx e=> ?_),(h.but.trans hb (fun x _ e=>e.elim (fun e=>⟨0,e⟩) (fun e=>⟨3,e⟩))).trans hf (fun x hx e=>by omega),fun x hx=>(own x hx).imp id (fun h=>by omega)⟩,(hb.block _ h.size (fun e=>by omega)).trans h.ev⟩;rcases own x hx with h'|h'
 ·have:=h.lt x h'
  omega
 ·omega
end
theorem yaK {w3 w4:E} {F:Nat->Prop} {ob:Obj} (hb:But F (w3.alloc ob).drew w4) (hn:¬F w3.heap.size):w4.heap[w3.heap.size]?=(w3.alloc ob).heap[w3.heap.size]?:=hb.block w3.heap.size (by simp) hn
theorem zo {w3 V w4:E} {F:Nat->Prop} {a:Addr} {v:Value} (hb:But F V w4) (hV:Below w3.heap.size w3 V) (hl:a.block<w3.heap.size) (hn:¬F a.block) (h:w3.cell? a=U v):w4.cell? a=U v:=(hb.cell (kp hl hV.size) hn).trans ((hV.cell hl).trans h)
theorem ygK (w:E) (r:Nat) (x0 x1 x2 x3:Value):But (fun x=>x=r) w ((((w.setCell ⟨r,0,Z⟩ x0).setCell ⟨r,1,Z⟩ x1).setCell ⟨r,2,Z⟩ x2).setCell ⟨r,3,Z⟩ x3):=(But.refl (fun x=>x=r) w).set4 r (.inr rfl) _ _ _ _
theorem yao {b:Nat} {D:Dsd} {X X':Pg.Spc} (x:Pg.Sx) (hk:x.kind=2) (hz:X.busy=K) (w:E) (h:Dsk w b D X) (h1:Pg.tFC X.S 0 x.m.p=0->X'=X.post (Pg.rmR X.S 0 x.m.p).1 (Pg.tFM X.S 0 x.m.p) (Pg.rmR X.S 0 x.m.p).2) (h2:Pg.tFC X.S 0 x.m.p≠0->X'=X):
 Calls O 52 #[kO (U ⟨b,0,Z⟩),x.val] w fun e w'=>e=A (Pg.Ev.code (Pg.tFC X.S 0 x.m.p)).val/\zi w b D X X' w':=by
 obtain⟨kd,co,⟨p,s,f,r⟩,q,k,u⟩:=x;simp only at hk h1 h2;subst hk;obtain⟨W,hW⟩:∃W,W=chW w ⟨2,co,⟨p,s,f,r⟩,q,k,u⟩:=⟨_,rfl⟩
 have CW:Hid (ChW w W ⟨2,co,⟨p,s,f,r⟩,q,k,u⟩):=by rw[hW];exact xM w _
 have PW:Hid _:=h.grow CW.out.bel;have bE:=qh W PW.out;rw[hz]at bE;have LT:Hid (∀x,dsF D b X.C.length X.G x->x<w.heap.size):=h.owns;have rU:W.heap.size=w.heap.size+2:=CW.out.size
 have mh:w.heap.size<W.heap.size:=by omega
 have x0:=CW.out.x0;have y2:=CW.out.x2;have g0:=PW.out.c0;have g1:=PW.out.c1;simp only at x0 y2;have HI:=fun w3 (hm:zh w3 D.bm X.S D.FM)=>yda 0 p w3 hm;have Tf:Hid (Pg.fits (Pg.tFM X.S 0 p).p):=Pg.ykr X.S p;have Uo:Hid ((Pg.rmR X.S 0 p).2.length<=4680):=yeV X.S 0 p
 have uV:Hid (Pg.tFC X.S 0 p≠0->(Pg.rmR X.S 0 p).1=X.S):=fun e=>by unfold Pg.rmR;rw[if_neg e]
 have H1:Hid _:=h1;have H2:Hid _:=h2;have HZ:Hid (X.busy=K):=hz;have HX:Hid _:=h;clear h hz h1 h2;simp only[chW,Pg.Sx.val]at hW ⊢;generalize rT:Pg.tFC X.S 0 p=c at*;clear rT;generalize Pg.tFM X.S 0 p=m at*;obtain⟨S',wu⟩:∃S',S'=(Pg.rmR X.S 0 p).1:=⟨_,rfl⟩;obtain⟨G,Nc⟩:∃G,G=(Pg.rmR X.S 0 p).2:=⟨_,rfl⟩;rw[<-wu,<-Nc]at HI H1;rw[<-wu]at uV;rw[<-Nc]at Uo;clear wu Nc;obtain⟨mp,ms,fM,mr⟩:=m;have rY:b<w.heap.size:=LT.out b ⟨0,rfl⟩
 have lL:b<W.heap.size:=by omega
 have n1:b≠W.heap.size:=by omega
 have n2:w.heap.size≠W.heap.size:=by omega
 have n3:W.heap.size≠b:=by omega
 have n4:W.heap.size≠w.heap.size:=by omega
 have NF:∀j,w.heap.size<=j->¬D.FM j:=fun j hj e=>by have:=LT.out _ ⟨1,e⟩;omega
 have nb:¬D.FM b:=fun e=>by have:=HX.out.part 0 1 b rfl e;omega
 have MF:Hid (W.heap.size=w.heap.size+2):=rU;clear rU
 go_enter Tryz.func52,Tryz.ntmps52
 go_upto_region 1 with fail
 rw[<-hW];clear hW
 go_wp2_with fail
 refine bE.mono ?_;rintro e w1 ⟨rfl,hw⟩;subst w1
 go_upto_region 7 with fail
 clear x0 bE
 go_region_held3 (fun w'=>w'.cell? ⟨b,0,Z⟩=U (kO (U ⟨D.bm,0,Z⟩))/\w'.cell? ⟨b,1,Z⟩=U (J I 0)/\w'.cell? ⟨w.heap.size,2,Z⟩=U (J I p)) (go_keep) (
  (go_at_call 89;refine(HI _ (PW.out.grow (by first|exact(zA (zR W) _).drew|exact zA (zR W) _|exact(zR W).drew|exact zR W)).mem).mono ?_;rintro en w4 Ck
   obtain⟨ad,cap,FM,rfl,Ro,fZ,Hl,fF,lq⟩:=Ck.body;simp only[Pg.Mp.val];have Bf:Hid (zx w4 ad G):=Ro;have bG:Hid _:=fZ;have rM:Hid _:=Hl;have sQ:Hid _:=fF;have Bl:Hid _:=lq;have u0:=zo Hl (by first|exact(zA (zR W) _).drew|exact zA (zR W) _|exact(zR W).drew|exact zR W) lL nb g0;have u1:=zo Hl (by first|exact(zA (zR W) _).drew|exact zA (zR W) _|exact(zR W).drew|exact zR W) lL nb g1;have u2:=zo Hl (by first|exact(zA (zR W) _).drew|exact zA (zR W) _|exact(zR W).drew|exact zR W) mh (NF _ (kh _)) y2;have s4:W.heap.size<=w4.heap.size:=ue (by first|exact kh _|simp) Hl.size
   have RN:b<w4.heap.size:=by omega
   have GM:w.heap.size<w4.heap.size:=by omega
   have ub:b≠w4.heap.size:=by omega
   have ux:w.heap.size≠w4.heap.size:=by omega
   have oD:w4.heap.size≠b:=by omega
   have wZ:w4.heap.size≠w.heap.size:=by omega
   first
    | (have hA:But D.FM W.drew w4:=Hl;clear hA)
    | (have tK:w4.heap[W.heap.size]?=U (d #[J I 0,J I 0,J I 0,J I 0] 39 (0,0)):=(yaK Hl (NF _ (by omega))).trans (heap_alloc_new W (d #[J I 0,J I 0,J I 0,J I 0] 39))
       have pF:W.heap.size<w4.heap.size:=(M.1 tK).1
       obtain⟨⟨a0,a1,a2,a3⟩,af⟩:=ygh tK)
   clear Ck Ro fZ Hl fF lq))
 focus
  obtain⟨Wa,rJ⟩:∃Wa,Wa=w4.alloc (d #[J I mp,J I ms,J I fM,J I mr] 39):=⟨_,rfl⟩;rw[<-rJ];have C:Hid (ChD w Wa b w4.heap.size D X S' FM ⟨mp,ms,fM,mr⟩ ad G):=ChD.made (Y:=fun _=>False) HX.out CW.out.bel CW.out.ev (xI W) bG.out rM.out sQ.out Bf.out Bl.out (by rw[rJ];exact But.yhp (zA (zR w4) _)) (fun _ h=>h.elim) (by rw[rJ];simp[go_sem]) (by rw[rJ];simp[go_sem]) (by rw[rJ];simp[go_sem]) (by rw[rJ];simp[go_sem]);clear rJ bG rM sQ Bf Bl u0 u1 u2 RN GM ub ux oD wZ s4;generalize w4.heap.size=mb at*
 rotate_left
 focus
  obtain⟨Wa,rJ⟩:∃Wa,Wa=(((w4.setCell ⟨W.heap.size,0,Z⟩ (J I mp)).setCell ⟨W.heap.size,1,Z⟩ (J I ms)).setCell ⟨W.heap.size,2,Z⟩ (J I fM)).setCell ⟨W.heap.size,3,Z⟩ (J I mr):=⟨_,rfl⟩;rw[<-rJ];have C:Hid (ChD w Wa b W.heap.size D X S' FM ⟨mp,ms,fM,mr⟩ ad G):=ChD.made (Y:=fun j=>j=W.heap.size) HX.out CW.out.bel CW.out.ev ((zA (zR W) (d #[J I 0,J I 0,J I 0,J I 0] 39)).drew) bG.out rM.out sQ.out Bf.out Bl.out (by rw[rJ];exact ygK _ _ _ _ _ _) (fun j h=>⟨by omega,by simp;omega⟩) (by rw[rJ];simp[go_sem,a0,a1,a2,a3]) (by rw[rJ];simp[go_sem,a0,a1,a2,a3]) (by rw[rJ];simp[go_sem,a0,a1,a2,a3]) (by rw[rJ];simp[go_sem,a0,a1,a2,a3]);clear rJ bG rM sQ Bf Bl u0 u1 u2 RN GM ub ux oD wZ s4 a0 a1 a2 a3 af pF tK;generalize W.heap.size=mb at*
 rotate_left
 all_goals
  clear HI g0 g1 y2 n1 n2 n3 n4 nb NF lL mh CW PW HX rY;have m0:=C.out.m0;have m1:=C.out.m1;have m2:=C.out.m2;have m3:=C.out.m3;have bK:=C.out.size;simp only at m0 m1 m2 m3
  by_cases hc:c=0
  ·subst hc
   have uB:Hid _:=H1.out rfl;have mO:=yaS (X:={X with S:=S'}) ⟨mp,ms,fM,mr⟩ Tf.out HZ.out ad cap G Wa C.out.ds C.out.gone (fun g e=>(C.out.ng g e).1) Uo.out;simp only[Pg.Mp.val]at mO
   go_wp2_with fail
   refine mO.mono ?_;rintro e w6 ⟨rfl,h6,H7⟩;obtain⟨fin,uC⟩:=C.out.told h6 H7
   have FIN:Hid (∀Wf,But (fun x=>x=w.heap.size+1) w6 Wf->zi w b D X X' Wf):=fun Wf hf=>by rw[uB.out];exact fin Wf hf
   obtain⟨⟨z0,z1,z2,z3,z4,z5⟩,zf⟩:=zG uC;have wU:w.heap.size+1<w6.heap.size:=(M.1 uC).1;clear h6 H7 fin uC mO C m0 m1 m2 m3 H1 H2 uB;simp only[Pg.Ev.val,Pg.Ev.code]
   go_wp2_with fail
   refine bodyPost_ret (v:=(Pg.Ev.code 0).val) ?_ rfl ⟨rfl,FIN.out _ ?_⟩
   ·simp[results,Tryz.results52,go_sem,z0,z1,z2,z3,z4,z5,wU,Pg.Ev.val,Pg.Ev.code]
   ·exact ycr _ _ _ _ _ _ _ _
  ·have uB:Hid _:=H2.out hc
   have HS:Hid _:=uV.out hc;have mO:=vF ⟨mp,ms,fM,mr⟩ c hc ad G.length cap Wa C.out.ds;simp only[Pg.Mp.val]at mO
   go_wp2_with fail
   refine mO.mono ?_;rintro e w6 ⟨rfl,H7⟩;have uC:=(H7.block _ bK).trans C.out.ev
   have FIN:Hid (∀Wf,But (fun x=>x=w.heap.size+1) w6 Wf->zi w b D X X' Wf):=fun Wf hf=>by
    rw[uB.out];have P6:=C.out.ds.grow H7;rw[HS.out]at P6;have own:∀x,dsF {D with FM:=FM} b X.C.length X.G x->dsF D b X.C.length X.G x\/w.heap.size+2<=x:=qy (fun x hx=>(C.out.own x hx).imp id (fun h=>by omega));refine⟨_,P6.keep hf (fun x hx e=> ?_),(C.out.but.trans (But.yhp (F:=fun _=>False) H7) (fun _ _ h=>h.elim)).trans hf (fun x hx e=>by omega),fun x hx=>(own x hx).imp id (fun h=>by omega)⟩;rcases own x hx with h|h
    ·have:=C.out.lt x h
     omega
    ·omega
   obtain⟨⟨z0,z1,z2,z3,z4,z5⟩,zf⟩:=zG uC;have wU:w.heap.size+1<w6.heap.size:=kp bK H7.size;clear H7 uC mO C m0 m1 m2 m3 H1 H2 uB HS;simp only[Pg.Ev.val,Pg.Ev.code]
   go_wp2_with fail
   refine bodyPost_ret (v:=(Pg.Ev.code c).val) ?_ rfl ⟨rfl,FIN.out _ ?_⟩
   ·simp[results,Tryz.results52,go_sem,z0,z1,z2,z3,z4,z5,wU,Pg.Ev.val,Pg.Ev.code]
   ·exact ycr _ _ _ _ _ _ _ _
theorem vp {b:Nat} {D:Dsd} {X X':Pg.Spc} (x:Pg.Sx) (hk:x.kind=3) (hz:X.busy=K) (w:E) (h:Dsk w b D X) (h1:Pg.prC X.S 0 x.m.p x.m.r=0->X'=X.post (Pg.prS X.S 0 x.m.p x.m.r) (Pg.prM X.S 0 x.m.p x.m.r) []) (h2:Pg.prC X.S 0 x.m.p x.m.r≠0->X'=X):
 Calls O 52 #[kO (U ⟨b,0,Z⟩),x.val] w fun e w'=>e=A (Pg.Ev.code (Pg.prC X.S 0 x.m.p x.m.r)).val/\zi w b D X X' w':=by
 obtain⟨kd,co,⟨p,s,f,r⟩,q,k,u⟩:=x;simp only at hk h1 h2;subst hk;obtain⟨W,hW⟩:∃W,W=chW w ⟨3,co,⟨p,s,f,r⟩,q,k,u⟩:=⟨_,rfl⟩
 have CW:Hid (ChW w W ⟨3,co,⟨p,s,f,r⟩,q,k,u⟩):=by rw[hW];exact xM w _
 have PW:Hid _:=h.grow CW.out.bel;have bE:=qh W PW.out;rw[hz]at bE;have LT:Hid (∀x,dsF D b X.C.length X.G x->x<w.heap.size):=h.owns;have rU:W.heap.size=w.heap.size+2:=CW.out.size
 have mh:w.heap.size<W.heap.size:=by omega
 have x0:=CW.out.x0;have y2:=CW.out.x2;have y5:=CW.out.x5;have g0:=PW.out.c0;have g1:=PW.out.c1;simp only at x0 y2 y5;have HI:=fun w3 (hm:zh w3 D.bm X.S D.FM)=>yci 0 p r w3 hm;have Tf:Hid (Pg.fits (Pg.prM X.S 0 p r).p):=Pg.ylr X.S p r
 have uV:Hid (Pg.prC X.S 0 p r≠0->Pg.prS X.S 0 p r=X.S):=fun e=>by unfold Pg.prS;rw[if_neg e]
 have H1:Hid _:=h1;have H2:Hid _:=h2;have HZ:Hid (X.busy=K):=hz;have HX:Hid _:=h;clear h hz h1 h2;simp only[chW,Pg.Sx.val]at hW ⊢;generalize rT:Pg.prC X.S 0 p r=c at*;clear rT;generalize Pg.prM X.S 0 p r=m at*;generalize Pg.prS X.S 0 p r=S' at*;obtain⟨mp,ms,fM,mr⟩:=m;have rY:b<w.heap.size:=LT.out b ⟨0,rfl⟩
 have lL:b<W.heap.size:=by omega
 have n1:b≠W.heap.size:=by omega
 have n2:w.heap.size≠W.heap.size:=by omega
 have n3:W.heap.size≠b:=by omega
 have n4:W.heap.size≠w.heap.size:=by omega
 have NF:∀j,w.heap.size<=j->¬D.FM j:=fun j hj e=>by have:=LT.out _ ⟨1,e⟩;omega
 have nb:¬D.FM b:=fun e=>by have:=HX.out.part 0 1 b rfl e;omega
 have MF:Hid (W.heap.size=w.heap.size+2):=rU;clear rU
 go_enter Tryz.func52,Tryz.ntmps52
 go_upto_region 1 with fail
 rw[<-hW];clear hW
 go_wp2_with fail
 refine bE.mono ?_;rintro e w1 ⟨rfl,hw⟩;subst w1
 go_upto_region 9 with fail
 clear x0 bE
 go_region_held3 (fun w'=>w'.cell? ⟨b,0,Z⟩=U (kO (U ⟨D.bm,0,Z⟩))/\w'.cell? ⟨b,1,Z⟩=U (J I 0)/\w'.cell? ⟨w.heap.size,2,Z⟩=U (J I p)/\w'.cell? ⟨w.heap.size,5,Z⟩=U (J I r)) (go_keep) (
  (go_at_call 91;refine(HI _ (PW.out.grow (by first|exact(zA (zR W) _).drew|exact zA (zR W) _|exact(zR W).drew|exact zR W)).mem).mono ?_;rintro en w4 ⟨rfl,FM,fZ,Hl,fF⟩
   simp only[Pg.Mp.val];have bG:Hid _:=fZ;have rM:Hid _:=Hl;have sQ:Hid _:=fF;have u0:=zo Hl (by first|exact(zA (zR W) _).drew|exact zA (zR W) _|exact(zR W).drew|exact zR W) lL nb g0;have u1:=zo Hl (by first|exact(zA (zR W) _).drew|exact zA (zR W) _|exact(zR W).drew|exact zR W) lL nb g1;have u2:=zo Hl (by first|exact(zA (zR W) _).drew|exact zA (zR W) _|exact(zR W).drew|exact zR W) mh (NF _ (kh _)) y2;have u5:=zo Hl (by first|exact(zA (zR W) _).drew|exact zA (zR W) _|exact(zR W).drew|exact zR W) mh (NF _ (kh _)) y5;have s4:W.heap.size<=w4.heap.size:=ue (by first|exact kh _|simp) Hl.size
   have RN:b<w4.heap.size:=by omega
   have GM:w.heap.size<w4.heap.size:=by omega
   have ub:b≠w4.heap.size:=by omega
   have ux:w.heap.size≠w4.heap.size:=by omega
   have oD:w4.heap.size≠b:=by omega
   have wZ:w4.heap.size≠w.heap.size:=by omega
   first
    | (have hA:But D.FM W.drew w4:=Hl;clear hA)
    | (have tK:w4.heap[W.heap.size]?=U (d #[J I 0,J I 0,J I 0,J I 0] 39 (0,0)):=(yaK Hl (NF _ (by omega))).trans (heap_alloc_new W (d #[J I 0,J I 0,J I 0,J I 0] 39))
       have pF:W.heap.size<w4.heap.size:=(M.1 tK).1
       obtain⟨⟨a0,a1,a2,a3⟩,af⟩:=ygh tK)
   clear fZ Hl fF))
 focus
  obtain⟨Wa,rJ⟩:∃Wa,Wa=w4.alloc (d #[J I mp,J I ms,J I fM,J I mr] 39):=⟨_,rfl⟩;rw[<-rJ];have C:Hid (ChD w Wa b w4.heap.size D X S' FM ⟨mp,ms,fM,mr⟩ Z []):=ChD.made (Y:=fun _=>False) HX.out CW.out.bel CW.out.ev (xI W) bG.out rM.out sQ.out (fun j hj=>by simp at hj) (fun g e=>by cases e) (by rw[rJ];exact But.yhp (zA (zR w4) _)) (fun _ h=>h.elim) (by rw[rJ];simp[go_sem]) (by rw[rJ];simp[go_sem]) (by rw[rJ];simp[go_sem]) (by rw[rJ];simp[go_sem]);clear rJ bG rM sQ u0 u1 u2 u5 RN GM ub ux oD wZ s4;generalize w4.heap.size=mb at*
 rotate_left
 focus
  obtain⟨Wa,rJ⟩:∃Wa,Wa=(((w4.setCell ⟨W.heap.size,0,Z⟩ (J I mp)).setCell ⟨W.heap.size,1,Z⟩ (J I ms)).setCell ⟨W.heap.size,2,Z⟩ (J I fM)).setCell ⟨W.heap.size,3,Z⟩ (J I mr):=⟨_,rfl⟩;rw[<-rJ];have C:Hid (ChD w Wa b W.heap.size D X S' FM ⟨mp,ms,fM,mr⟩ Z []):=ChD.made (Y:=fun j=>j=W.heap.size) HX.out CW.out.bel CW.out.ev ((zA (zR W) (d #[J I 0,J I 0,J I 0,J I 0] 39)).drew) bG.out rM.out sQ.out (fun j hj=>by simp at hj) (fun g e=>by cases e) (by rw[rJ];exact ygK _ _ _ _ _ _) (fun j h=>⟨by omega,by simp;omega⟩) (by rw[rJ];simp[go_sem,a0,a1,a2,a3]) (by rw[rJ];simp[go_sem,a0,a1,a2,a3]) (by rw[rJ];simp[go_sem,a0,a1,a2,a3]) (by rw[rJ];simp[go_sem,a0,a1,a2,a3]);clear rJ bG rM sQ u0 u1 u2 u5 RN GM ub ux oD wZ s4 a0 a1 a2 a3 af pF tK;generalize W.heap.size=mb at*
 rotate_left
 all_goals
  clear HI g0 g1 y2 y5 n1 n2 n3 n4 nb NF lL mh CW PW HX rY;have m0:=C.out.m0;have m1:=C.out.m1;have m2:=C.out.m2;have m3:=C.out.m3;have bK:=C.out.size;simp only at m0 m1 m2 m3
  by_cases hc:c=0
  ·subst hc
   have uB:Hid _:=H1.out rfl;have mO:=yaS (X:={X with S:=S'}) ⟨mp,ms,fM,mr⟩ Tf.out HZ.out Z 0 [] Wa C.out.ds C.out.gone (fun g e=>(C.out.ng g e).1) (by simp);simp only[Pg.Mp.val,List.length_nil]at mO
   go_wp2_with fail
   refine mO.mono ?_;rintro e w6 ⟨rfl,h6,H7⟩;obtain⟨fin,uC⟩:=C.out.told h6 H7
   have FIN:Hid (∀Wf,But (fun x=>x=w.heap.size+1) w6 Wf->zi w b D X X' Wf):=fun Wf hf=>by rw[uB.out];exact fin Wf hf
   obtain⟨⟨z0,z1,z2,z3,z4,z5⟩,zf⟩:=zG uC;have wU:w.heap.size+1<w6.heap.size:=(M.1 uC).1;clear h6 H7 fin uC mO C m0 m1 m2 m3 H1 H2 uB;simp only[Pg.Ev.val,Pg.Ev.code]
   go_wp2_with fail
   refine bodyPost_ret (v:=(Pg.Ev.code 0).val) ?_ rfl ⟨rfl,FIN.out _ ?_⟩
   ·simp[results,Tryz.results52,go_sem,z0,z1,z2,z3,z4,z5,wU,Pg.Ev.val,Pg.Ev.code]
   ·exact ycr _ _ _ _ _ _ _ _
  ·have uB:Hid _:=H2.out hc
   have HS:Hid _:=uV.out hc;have mO:=vF ⟨mp,ms,fM,mr⟩ c hc Z 0 0 Wa C.out.ds;simp only[Pg.Mp.val]at mO
   go_wp2_with fail
   refine mO.mono ?_;rintro e w6 ⟨rfl,H7⟩;have uC:=(H7.block _ bK).trans C.out.ev
   have FIN:Hid (∀Wf,But (fun x=>x=w.heap.size+1) w6 Wf->zi w b D X X' Wf):=fun Wf hf=>by
    rw[uB.out];have P6:=C.out.ds.grow H7;rw[HS.out]at P6;have own:∀x,dsF {D with FM:=FM} b X.C.length X.G x->dsF D b X.C.length X.G x\/w.heap.size+2<=x:=qy (fun x hx=>(C.out.own x hx).imp id (fun h=>by omega));refine⟨_,P6.keep hf (fun x hx e=> ?_),(C.out.but.trans (But.yhp (F:=fun _=>False) H7) (fun _ _ h=>h.elim)).trans hf (fun x hx e=>by omega),fun x hx=>(own x hx).imp id (fun h=>by omega)⟩;rcases own x hx with h|h
    ·have:=C.out.lt x h
     omega
    ·omega
   obtain⟨⟨z0,z1,z2,z3,z4,z5⟩,zf⟩:=zG uC;have wU:w.heap.size+1<w6.heap.size:=kp bK H7.size;clear H7 uC mO C m0 m1 m2 m3 H1 H2 uB HS;simp only[Pg.Ev.val,Pg.Ev.code]
   go_wp2_with fail
   refine bodyPost_ret (v:=(Pg.Ev.code c).val) ?_ rfl ⟨rfl,FIN.out _ ?_⟩
   ·simp[results,Tryz.results52,go_sem,z0,z1,z2,z3,z4,z5,wU,Pg.Ev.val,Pg.Ev.code]
   ·exact ycr _ _ _ _ _ _ _ _
end Go.Proofs.YtdphiompijbelaaGreat
namespace Go.Proofs.YtdphiompijbelaaGreat
open Go.RowKit
def anV (a f r:Int):Value:=ud #[J I a,J I f,J I r]
def vu (w:E) (b:Nat) (l:List (Int×Int×Int)):Prop:=
 ∃es iU,w.heap[b]?=U (.map es iU)/\(∀e ∈ es.toList,e.val=ud #[]/\∃a f r,e.key=anV a f r)/\∀x ∈ l,∃e ∈ es.toList,e.key=anV x.1 x.2.1 x.2.2
section
variable {w w':E} {b:Nat} {l:List (Int×Int×Int)}
theorem vu.lt (h:vu w b l):b<w.heap.size:=by
 obtain⟨es,iU,hb,_⟩:=h;exact(M.1 hb).1
theorem vu.of_block (h:vu w b l) (hk:w'.heap[b]?=w.heap[b]?):vu w' b l:=by
 obtain⟨es,iU,hb,h⟩:=h;exact⟨es,iU,hk.trans hb,h⟩
theorem yem (w:E):vu (w.alloc (.map #[] 0)) w.heap.size []:=⟨#[],0,heap_alloc_new _ _,by simp,by simp⟩
theorem ybd (em:Bool) (a f r:Int) (w:E):(Instr.checkKey em 10000 34 (anV a f r)).run O w= .ok () w:=by
 unfold anV
 kernel_rfl
theorem yfm (a f r a' f' r':Int) (w:E):∃x:Bool,(Op.equal 34 (anV a f r) (anV a' f' r')).run O w= .ok x w/\(x=ur ↔ anV a f r=anV a' f' r'):=by
 have hd:Op.maxDepth=9999+1:=rfl;refine⟨a==a'&&(f==f'&&r==r'),?_,?_⟩
 ·unfold Op.equal anV
  rw[hd,run_equalIn_agg w 9999 _ _ _ (by kernel_rfl) (by kernel_rfl)]
  have hf : (Tryz.prog.fieldsOf 34).toList.map (fun x => (x.name, x.type, x.offset)) = [("End", 3, 0), ("Frame", 3, 1), ("Rights", 3, 2)] := by kernel_rfl
  have hi:∀(a b:Int) (w:E),(Op.equalIn 9999 3 (J I a) (J I b)).run O w= .ok (a==b) w:=fun a b w=>run_equalIn_int w 9998 _ I I _ _ (by kernel_rfl)
  have hp:Tryz.prog.plainKey 3=ur:=by kernel_rfl
  have step : ∀ (xs ys : Array Value) (g : Field) (o : Nat) (a b : Int) (gs : List Field) (w : E), g.name ≠ "_" → g.type = 3 → g.offset = o → xs[o]? = U (J I a) → ys[o]? = U (J I b) →
   (Op.eqFields 9999 xs ys (g::gs)).run O w=bif a==b then(Op.eqFields 9999 xs ys gs).run O w else .ok K w:=by
   intro xs ys g o a b gs w h0 h1 h2 h3 h4;subst h2;simp only[Op.eqFields,ne_eq,h0,not_false_eq_true,if_true,Sem.run_bind,Sem.run_ite,h1,run_part_plain w hp h3,run_part_plain w hp h4,hi,Result.andThen_ok]
   cases a==b<;>rfl
  generalize (Tryz.prog.fieldsOf 34).toList=fs at hf ⊢
  obtain⟨g0,fs,rfl⟩:∃g gs,fs=g::gs:=by
   cases fs
   ·simp at hf
   ·exact⟨_,_,rfl⟩
  obtain⟨g1,fs,rfl⟩:∃g gs,fs=g::gs:=by
   cases fs
   ·simp at hf
   ·exact⟨_,_,rfl⟩
  obtain⟨g2,fs,rfl⟩:∃g gs,fs=g::gs:=by
   cases fs
   ·simp at hf
   ·exact⟨_,_,rfl⟩
  obtain rfl:fs=[]:=by
   cases fs
   ·rfl
   ·simp at hf
  ·simp only[List.map_cons,List.map_nil,List.cons.injEq,Prod.mk.injEq,and_true]at hf
   obtain⟨⟨a0,a1,a2⟩,⟨b0,b1,b2⟩,⟨c0,c1,c2⟩⟩:=hf;rw[step _ _ g0 0 a a' _ w (by rw[a0];decide) a1 a2 rfl rfl,step _ _ g1 1 f f' _ w (by rw[b0];decide) b1 b2 rfl rfl,step _ _ g2 2 r r' _ w (by rw[c0];decide) c1 c2 rfl rfl];generalize (a==a')=x0;generalize (f==f')=x1;generalize (r==r')=x2;cases x0
   ·rfl
   cases x1
   ·rfl
   cases x2<;>rfl
 ·simp[anV]
theorem yf6 {es:List MapEntry} (fC:∀e ∈ es,e.val=ud #[]/\∃a f r,e.key=anV a f r) (a f r:Int) (w:E):∀i:Nat,
 ((Instr.findAsking 34 (anV a f r) es i).run O w= .ok Z w/\∀e ∈ es,e.key≠anV a f r)\/∃j e,(Instr.findAsking 34 (anV a f r) es i).run O w= .ok (U (i+j,ud #[])) w/\es[j]?=U e/\e.key=anV a f r:=by
 induction es with
 | nil=>exact fun i=> .inl ⟨by simp[Instr.findAsking],by simp⟩
 | cons e es ih=>
   intro i;obtain⟨hv,a',f',r',hk⟩:=fC e (by simp);obtain⟨x,hx,GG⟩:=yfm a f r a' f' r' w
   have hs:(Instr.findAsking 34 (anV a f r) (e::es) i).run O w=bif x then .ok (U (i,ud #[])) w else(Instr.findAsking 34 (anV a f r) es (i+1)).run O w:=by
    simp only[Instr.findAsking,Sem.run_bind,hk,hx,Result.andThen_ok,hv]
    cases x<;>rfl
   cases x
   ·rcases ih (fun e he=>fC e (by simp[he])) (i+1)with ⟨h1,h2⟩|⟨j,e',h1,h2,h3⟩
    ·refine .inl ⟨by rw[hs];exact h1,fun e' he'=> ?_⟩
     rcases yR.1 he' with rfl|he'
     ·rw[hk]
      intro h;exact Bool.noConfusion (GG.2 h.symm)
     ·exact h2 e' he'
    ·exact .inr ⟨j+1,e',by rw[hs];show(Instr.findAsking _ _ es (i+1)).run _ _=_;rw[h1,show i+1+j=i+(j+1) by omega],by simpa using h2,h3⟩
   ·exact .inr ⟨0,e,by rw[hs];rfl,rfl,by rw[hk];exact(GG.1 rfl).symm⟩
theorem yaJ {es:List MapEntry} (fC:∀e ∈ es,e.val=ud #[]/\∃a f r,e.key=anV a f r) (a f r:Int) (w:E):
 ((Instr.findKey 34 (anV a f r) es).run O w= .ok Z w/\∀e ∈ es,e.key≠anV a f r)\/∃j e,(Instr.findKey 34 (anV a f r) es).run O w= .ok (U (j,ud #[])) w/\es[j]?=U e/\e.key=anV a f r:=by
 rw[run_findKey_eq w (by kernel_rfl)];have:=yf6 fC a f r w 0
 simpa only[Nat.zero_add]using this
theorem yfn (a f r:Int) (w:E):(Instr.keyThatStays (anV a f r) (anV a f r)).run O w= .ok (anV a f r) w:=by
 have:Instr.sameBits 10000 (anV a f r) (anV a f r)=ur:=by
  show Instr.sameBits (9999+1) _ _=ur
  simp[anV,Instr.sameBits]
 unfold Instr.keyThatStays;rw[this];simp
theorem vu.put (h:vu w b l) (a f r:Int):∃w',(Instr.mapUpdate 88 (.map (U b)) (anV a f r) (ud #[])).run O w= .ok () w'/\vu w' b ((a,f,r)::l)/\But (fun j=>j=b) w w':=by
 obtain⟨es,iU,hb,fC,hl⟩:=h;have Hf:b<w.heap.size:=(M.1 hb).1
 have hu:Tryz.prog.underlying 88=U (.map 34 243):=by kernel_rfl
 have bT:∀o:Obj,But (fun j=>j=b) w {w with heap:=w.heap.setIfInBounds b o}:=fun o=>⟨rfl,rfl,rfl,by simp,fun k _ hk=>Array.getElem?_setIfInBounds_ne (fun e=>hk e.symm)⟩;have hat:∀o:Obj,({w with heap:=w.heap.setIfInBounds b o}:E).heap[b]?=U o:=fun o=>Array.getElem?_setIfInBounds_self_of_lt Hf;rcases yaJ fC a f r w with ⟨h1,h2⟩|⟨j,e,h1,h2,h3⟩
 ·refine⟨{w with heap:=w.heap.setIfInBounds b (.map (es.push {key:=anV a f r,val:=ud #[],born:=iU}) (iU+1))},?_,⟨_,_,hat _,fun e he=> ?_,fun x hx=> ?_⟩,bT _⟩
  ·simp[Instr.mapUpdate,run_underlying hu,MapKept.run_getObj_map hb,ybd,h1,MapKept.run_setObj_map _ hb,Result.andThen]
  ·simp only[Array.toList_push,List.mem_append,List.mem_singleton]at he
   rcases he with he|rfl
   ·exact fC e he
   ·exact⟨rfl,_,_,_,rfl⟩
  ·rcases yR.1 hx with rfl|hx
   ·exact⟨{key:=anV a f r,val:=ud #[],born:=iU},by simp,rfl⟩
   ·obtain⟨e,he,hk⟩:=hl x hx
    exact⟨e,by simp[he],hk⟩
 ·have hj:j<es.size:=by
   obtain⟨hj,_⟩:=List.getElem?_eq_some_iff.1 h2
   simpa using hj
  have BA:es[j]?=U e:=by rw[<-Array.getElem?_toList];exact h2
  refine⟨{w with heap:=w.heap.setIfInBounds b (.map (es.modify j fun e=>{e with key:=anV a f r,val:=ud #[]}) iU)},?_,⟨_,_,hat _,fun e' he=> ?_,fun x hx=> ?_⟩,bT _⟩
  ·simp[Instr.mapUpdate,run_underlying hu,MapKept.run_getObj_map hb,ybd,h1,BA,h3,yfn,MapKept.run_setObj_map _ hb,Result.andThen]
  ·rw[yN]at he
   obtain⟨i,hi⟩:=yB.1 he;rw[yP]at hi
   cases hl':es.toList[i]? with
   | none=>rw[hl']at hi;simp at hi
   | some y=>
     rw[hl']at hi
     have hi:(if j=i then({y with key:=anV a f r,val:=ud #[]}:MapEntry)else y)=e':=by
      split at hi
      ·next e0=>rw[if_pos e0];exact Option.some.inj hi
      ·next e0=>rw[if_neg e0];exact Option.some.inj hi
     have hy:=fC y (uc hl');split at hi
     ·rw[<-hi];exact⟨rfl,_,_,_,rfl⟩
     ·rw[<-hi];exact hy
  ·obtain⟨e1,AQ,sW⟩:∃e ∈ es.toList,e.key=anV x.1 x.2.1 x.2.2:=by
    rcases yR.1 hx with rfl|hx
    ·exact⟨e,uc h2,h3⟩
    ·exact hl x hx
   obtain⟨i,hi⟩:=yB.1 AQ;refine⟨if j=i then{e1 with key:=anV a f r,val:=ud #[]}else e1,?_,?_⟩
   ·rw[yN]
    refine uc (i:=i) ?_;rw[yP,hi]
    split<;>rfl
   ·split
    ·next e0=>
     subst e0;rw[hi]at h2;injection h2 with h2;rw[<-h2]at h3;rw[<-sW,h3]
    ·exact sW
theorem vu.look (h:vu w b l) {a f r:Int} (hm:(a,f,r) ∈ l):(Instr.lookup 88 (.map (U b)) (anV a f r) ur).run O w= .ok (ua #[ud #[],ks ur]) w:=by
 obtain⟨es,iU,hb,fC,hl⟩:=h
 have hu:Tryz.prog.underlying 88=U (.map 34 243):=by kernel_rfl
 obtain⟨e0,Oi,Ca⟩:=hl _ hm;rcases yaJ fC a f r w with ⟨h1,h2⟩|⟨j,e,h1,h2,h3⟩
 ·exact absurd Ca (h2 e0 Oi)
 ·simp[Instr.lookup,run_underlying hu,MapKept.run_getObj_map hb,ybd,h1,Result.andThen]
end
open Go.RowKit Go.Sort
theorem vB {m:Nat} {l:List (Int×Int×Int)} (a f r:Int) (w:E) (h:vu w m l):
 Calls O 163 #[.map (U m),ud #[J I a,J I f,J I r]] w fun e w'=>e=A (ua #[])/\vu w' m ((a,f,r)::l)/\But (fun k=>k=m) w w':=by
 obtain⟨W,hW⟩:∃W,W=w.alloc (d #[J I a,J I f,J I r] 34):=⟨_,rfl⟩
 have hB:Below w.heap.size w W:=by rw[hW];exact zA (zR _) _
 have x0:W.cell? ⟨w.heap.size,0,Z⟩=U (J I a):=by rw[hW];simp[go_sem]
 have x1:W.cell? ⟨w.heap.size,1,Z⟩=U (J I f):=by rw[hW];simp[go_sem]
 have x2:W.cell? ⟨w.heap.size,2,Z⟩=U (J I r):=by rw[hW];simp[go_sem]
 obtain⟨w',hr,ha,hb⟩:=(h.of_block (hB.block _ h.lt)).put a f r;unfold anV at hr;have HA:Hid _:=ha;have HB:Hid (But (fun k=>k=m) w w'):=(But.yhp (F:=fun k=>k=m) hB).trans hb fun _ _ e=>e;clear h ha hb hB
 go_enter Tryz.func163,Tryz.ntmps163
 go_upto_region 1 with fail
 rw[<-hW];clear hW
 go_wp2_with fail
 go_end0
 exact⟨rfl,HA.out,HB.out⟩
theorem ycv {b c:Nat} {L:List Pg.Mp} {F:Nat->Prop} (x:Pg.Sx) (hx:Pg.fits x.m.p) (w:E) (h:qL w b L F) (hc:ybG w c 2 x.m):
 Calls O 156 #[kO (U ⟨b,0,Z⟩),kO (U ⟨c,0,Z⟩)] w fun e w'=>e=A (ua #[])/\∃F',qL w' b (Pg.addL L x.m) F'/\But F w w'/\∀k,F' k->F k\/w.heap.size<=k:=by
 have HA:Hid _:=yet x.m hx w h;obtain⟨c0,c1,c2,c3⟩:=hc;obtain⟨kd,co,⟨p,s,f,r⟩,q,k,u⟩:=x;simp only[Pg.Mp.val]at HA c0 c1 c2 c3;clear h
 go_enter Tryz.func156,Tryz.ntmps156
 go_wp2_with fail
 refine Calls.mono HA.out ?_;rintro e w1 ⟨rfl,F',h1,Ha,tO⟩;have H1:Hid _:=(⟨h1,Ha,tO⟩:_/\_/\_);clear h1 Ha tO HA
 go_wp2_with fail
 go_end0
 exact⟨rfl,F',H1.out⟩
theorem ycw {b c:Nat} {L:List Pg.Mp} {F:Nat->Prop} (x:Pg.Sx) (hx:Pg.fits x.m.p) (w:E) (h:qL w b L F) (hc:ybG w c 2 x.m):
 Calls O 158 #[kO (U ⟨b,0,Z⟩),kO (U ⟨c,0,Z⟩)] w fun e w'=>e=A (ua #[])/\∃F',qL w' b (Pg.yhU L x.m.p) F'/\But F w w'/\∀k,F' k->F k\/w.heap.size<=k:=by
 have HA:Hid _:=ydD x.m.p hx w h;obtain⟨c0,c1,c2,c3⟩:=hc;obtain⟨kd,co,⟨p,s,f,r⟩,q,k,u⟩:=x;simp only at HA c0 c1 c2 c3;clear h
 go_enter Tryz.func158,Tryz.ntmps158
 go_wp2_with fail
 refine Calls.mono HA.out ?_;rintro e w1 ⟨rfl,F',h1,Ha,tO⟩;have H1:Hid _:=(⟨h1,Ha,tO⟩:_/\_/\_);clear h1 Ha tO HA
 go_wp2_with fail
 go_end0
 exact⟨rfl,F',H1.out⟩
theorem ycx {b c:Nat} {L:List Pg.Mp} {F:Nat->Prop} (x:Pg.Sx) (hx:Pg.fits x.m.p) (w:E) (h:qL w b L F) (hc:ybG w c 2 x.m):
 Calls O 160 #[kO (U ⟨b,0,Z⟩),kO (U ⟨c,0,Z⟩)] w fun e w'=>e=A (ua #[])/\∃F',qL w' b (Pg.yir L x.m.p x.m.r) F'/\But F w w'/\∀k,F' k->F k\/w.heap.size<=k:=by
 have HA:Hid _:=ybk x.m.p x.m.r hx w h;obtain⟨c0,c1,c2,c3⟩:=hc;obtain⟨kd,co,⟨p,s,f,r⟩,q,k,u⟩:=x;simp only at HA c0 c1 c2 c3;clear h
 go_enter Tryz.func160,Tryz.ntmps160
 go_wp2_with fail
 refine Calls.mono HA.out ?_;rintro e w1 ⟨rfl,F',h1,Ha,tO⟩;have H1:Hid _:=(⟨h1,Ha,tO⟩:_/\_/\_);clear h1 Ha tO HA
 go_wp2_with fail
 go_end0
 exact⟨rfl,F',H1.out⟩
theorem yc7 {ad ML:Option Addr} {cap cap':Nat} {L:List Pg.Mp} (w:E) (h:xS w ad L) (h':xS w ML L) (hl:L.length<=5000):
 Calls O 165 #[un ad L.length cap,un ML L.length cap'] w fun e w'=>e=A (ks ur)/\Below w.heap.size w w':=by
 have HA:Hid (xS w ad L):=h;have HB:Hid (xS w ML L):=h';clear h h'
 go_enter Tryz.func165,Tryz.ntmps165
 go_wp2_with fail
 go_loopw [13] (fun i wr=>∃j:Nat,j<=L.length/\i=J I j/\Hid (Below w.heap.size w wr)) (fun i _=>L.length-(intOf i).toNat)
 case atStart=>exact⟨0,by omega,rfl,zR _⟩
 case round=>
  obtain⟨j,hj,rfl,HR⟩:=hrel
  have i0:(0:Int)<=(j:Int):=by omega
  by_cases Hf:j<L.length
  ·obtain⟨g,rfl,hg,hm⟩:=xS.below HA.out HR.out j Hf
   obtain⟨g',rfl,Om,uJ⟩:=xS.below HB.out HR.out j Hf;obtain⟨k0,k1,k2,k3⟩:=hm;obtain⟨m0,m1,m2,m3⟩:=uJ
   have i1:(j:Int)<(L.length:Int):=by omega
   have fin:Hid (∀nq,Below w.heap.size w (wr.drewN nq)):=fun nq=>zT HR.out (below_drewN (zR _) nq);generalize L.getD j .zz=x at*;obtain⟨p,s,f,r⟩:=x;simp only at k0 k1 k2 k3 m0 m1 m2 m3
   go_wp2_with fail
   go_quiet (fail)
   go_wp2_with fail
   exact⟨⟨j+1,by omega,by go_num,fin.out _⟩,by simp[intOf];omega⟩
  ·have i1:¬(j:Int)<(L.length:Int):=by omega
   go_wp2_with fail
   go_ret
   exact⟨rfl,HR.out⟩
end Go.Proofs.YtdphiompijbelaaGreat
namespace Go.Proofs.YtdphiompijbelaaGreat
open Go.RowKit Go.Sort
namespace Tk
variable {w0 wc wd:E} {bf:Nat} {F F':Nat->Prop} {S S':Pg.Fs}
end Tk
theorem ygC (S:Pg.Fs):S.take.n=S.n:=by
 unfold Pg.Fs.take;split
 ·rfl
 ·split<;>rfl
theorem ykO (p s:Int):∀(lv:Nat) (S:Pg.Fs) (t:Int),(Pg.insW p s lv S t).1.n=S.n
 | 0,S,t=>rfl
 | lv+1,S,t=>by
   rw[Pg.insW];split
   ·rfl
   ·rw[ykO p s lv,(Pg.yif _ _ _ _).1,ygC]
theorem yaZ:∀(G:List Int) (x:Int) (S:Pg.Fs),Pg.gives (G++[x]) S=(Pg.gives G S).give x
 | [],x,S=>rfl
 | y::r,x,S=>by
   show Pg.gives (r++[x]) (S.give y)=_
   rw[yaZ r x (S.give y)];rfl
namespace Pg
end Pg
end Go.Proofs.YtdphiompijbelaaGreat
