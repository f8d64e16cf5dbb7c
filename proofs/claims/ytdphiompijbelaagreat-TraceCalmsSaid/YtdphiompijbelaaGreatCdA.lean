import Derived.Test.YtdphiompijbelaaGreatEntryRef
import Derived.Test.YtdphiompijbelaaGreatTabCp
import Derived.Deep.DeepCutAuto
set_option linter.all false
set_option maxRecDepth 100000
open List renaming take_succ_cons->un,drop_succ_cons->ur,take_zero->uc,drop_zero->ua
open Int renaming toNat_natCast->kh,eq_ofNat_of_zero_le->uv,tmod_eq_emod_of_nonneg->yB
open Go.Proofs.Tryz renaming prog->kO
open Go.Ending renaming returned->z
open Go.RowKit.Below renaming heap_setCell->E
open Go.Obj renaming cells->M
open Go.World renaming cell?_of_block->U,block_lt_of_cell?->H,frozen?->yS,cell?->yR
open Array renaming getElem?_eq_some_iff->Z
open Nat renaming lt_of_lt_of_le->Q,le_refl->ud,le_succ->yI
open Go.RowKit renaming Hid->T
open Go renaming cell_regrown->N,bodyPost_ret->O,cell_later->X,World->A,heap_alloc_new->ki,Calls->ue,Value->yJ
open Bool renaming true->P,false->Y,and_eq_true->yN
open Option renaming none->B,some->V
open Go.IntKind renaming i64->J,u64->yC
open Go.Value renaming int->I,bool->R,pointer->D,tuple->y,agg->kp,bool->yP,int->yY
set_option maxHeartbeats 8000000
namespace Go.Proofs.YtdphiompijbelaaGreat
open Go.RowKit Go.Sort
section
attribute [local go_sem] Loose.gent
theorem ygx (W:Int) (h0:0<=W) (h1:W<18446744073709551616) (k:Nat) (hk:k<64) (b:Nat) (w:A) (hc:w.cell? ⟨b,0,B⟩=V (I yC W)):
 ue kO 151 #[I yC (k:Int),D (V ⟨b,0,B⟩)] w fun e w'=>e=z (R (Pg.bit W k))/\w'=w:=by
 have hq:0<=W/2^k:=Int.ediv_nonneg h0 (Int.pow_nonneg (by decide))
 have HQ:T (((W/2^k).tmod 2==1)=Pg.bit W k):=by
  show((W/2^k).tmod 2==1)=decide (W/2^k%2=1)
  rw[yB hq,Bool.eq_iff_iff];simp
 clear hq
 go_enter Tryz.func151,Tryz.ntmps151
 go_wp2
 go_ret
 exact⟨zV HQ.out,rfl⟩
theorem ycf (W:Int) (h0:0<=W) (h1:W<18446744073709551616) (k:Int) (n:Nat) (hn:k.toNat=n) (k0:0<=k) (k1:k<64) (b:Nat) (w:A) (hc:w.cell? ⟨b,0,B⟩=V (I yC W)):
 ue kO 151 #[I yC k,D (V ⟨b,0,B⟩)] w fun e w'=>e=z (R (Pg.bit W n))/\w'=w:=by
 obtain⟨m,rfl⟩:=uv k0;rw[kh]at hn;subst hn;exact ygx W h0 h1 _ (by omega) b w hc
theorem jr (W lv:Int) (h0:0<=W) (h1:W<18446744073709551616) (w:A):
 ue kO 105 #[I yC W,I J lv] w fun e w'=>e=z (Pg.decV W lv)/\Lw w w':=by
 by_cases hl:lv<0\/3<lv
 ·have HC:T (Pg.yhV W lv=1):=by simp[T,Pg.yhV,hl]
  have HV:T _:=Pg.yjH HC.out (by simp[Pg.yhZ,HC.out]);rcases hl with h|h
  all_goals
   go_enter Tryz.func105,Tryz.ntmps105
   go_wp2
   refine O (v:=y #[kp #[R Y,R Y,I J 0,R Y,R Y,I J 0],I J 1]) ?_ rfl ⟨by rw[HV.out],?_⟩
   ·simp[results,Tryz.results105,go_sem]
   ·exact zA (zA (zR _) _) _
 ·have l0:0<=lv:=by omega
  have l3:lv<=3:=by omega
  have HL:T (¬(lv<0\/3<lv)):=hl;clear hl
  go_enter Tryz.func105,Tryz.ntmps105
  go_wp2_with fail
  go_loop [7] (fun i=>∃k:Nat,k<=64/\i=I yC k/\T (∀j,j<k->Pg.yif W lv j=Y)) (fun i=>(64-intOf i).toNat)
  case atStart=>exact⟨0,by omega,rfl,fun j hj=>absurd hj (by omega)⟩
  case round=>
   obtain⟨k,hk,rfl,HB⟩:=hrel
   by_cases Hf:k<64
   ·have HN:T (Pg.yif W lv k=Y->T (∀j,j<k+1->Pg.yif W lv j=Y)):=by
     intro hb j hj
     by_cases e:j=k
     ·rw[e];exact hb
     ·exact HB.out j (by omega)
    have HV:T (Pg.yif W lv k=P->Pg.decV W lv=y #[kp #[R Y,R Y,I J 0,R Y,R Y,I J 0],I J 7]):=by
     intro hb;have:=Pg.bits_of_good h0 Hf hb;have hl:=HL.out
     have hc:Pg.yhV W lv=7:=by simp[Pg.yhV,hl,this]
     exact Pg.yjH hc (by simp[Pg.yhZ,hc])
    clear HB;rcases Pg.kint k with ⟨d3,dk⟩|⟨d3,d5,LM,dk⟩|⟨d3,d5,d7,dk⟩|⟨d3,d5,d7,LM,dk⟩|⟨d3,d5,d7,LM,d31,dk⟩|⟨d3,d5,d7,LM,d31,dk⟩
    all_goals
     cases bT:Pg.bit W k
     all_goals
      go_wp2_with (first
       | (go_at_call 151;refine(ycf W h0 h1 _ k ?_ ?_ ?_ _ _ ?_).mono ?_;(exact kh _);(omega);(omega);(go_simp);rintro e w' ⟨rfl,rfl⟩)
       | (go_at_call 151;refine(ycf W h0 h1 _ 0 ?_ ?_ ?_ _ _ ?_).mono ?_;(exact rfl);(omega);(omega);(go_simp);rintro e w' ⟨rfl,rfl⟩))
      all_goals first
       | (go_round
          case rel=>
           refine⟨k+1,by omega,?_,HN.out ?_⟩
           ·first|go_num|(congr 1;omega)
           ·first|exact Pg.bitBad_off bT|exact Pg.yky dk ‹Pg.bit W 0=P› (.inl ‹_›)|exact Pg.yky dk ‹Pg.bit W 0=P› (.inr (of_decide_eq_false ‹(lv==0)=Y›))
          case measure=>simp[intOf]<;>omega)
       | (have fT:Pg.yif W lv k=P:=by
           first|exact Pg.bitBad_unknown bT dk|exact Pg.bitBad_zero bT ‹Pg.bit W 0=Y› |exact Pg.bitBad_seven bT ‹(k:Int)=7› (of_decide_eq_true ‹(lv==0)=P›)
          refine O (v:=y #[kp #[R Y,R Y,I J 0,R Y,R Y,I J 0],I J 7]) ?_ rfl ⟨by rw[HV.out fT],?_⟩
          ·simp[results,Tryz.results105,go_sem]
          ·exact zA (zA (zR _) _) _)
   ·have KR:k=64:=by omega
    subst KR;have hG:=Pg.good_of_bits h0 h1 HB.out;have HG:T _:=hG;clear HB Hf hk hG
    by_cases hz:W=0
    ·have HC:T (Pg.yhV W lv=0):=by
      have hl:=HL.out;simp[T,Pg.yhV,hl,hz,Pg.wBad]
     have HV:T _:=Pg.yjH HC.out (by simp[Pg.yhZ,hz])
     have Dx:(W==0)=P:=by simpa using hz
     clear hz
     go_wp2
     refine O (v:=y #[kp #[R Y,R Y,I J 0,R Y,R Y,I J 0],I J 0]) ?_ rfl ⟨by rw[HV.out],?_⟩
     ·simp[results,Tryz.results105,go_sem]
     ·exact zA (zA (zR _) _) _
    ·have Dx:(W==0)=Y:=by simpa using hz
     have HC:T (Pg.yhV W lv=Pg.yhN P (Pg.yir W lv) (W/2%8) (Pg.yio W) (Pg.yh3 W) (W/4096) lv):=by
      have hl:=HL.out;simp[T,Pg.yhV,hl,HG.out,hz]
     have HZ:T (W≠0):=hz;clear hz
     obtain⟨L,hL,cB⟩:∃L,T (Pg.yir W lv=L)/\((lv==0)=P/\P=L\/(lv==0)=Y/\Pg.bit W 7=L):=by
      by_cases mJ:lv=0
      ·exact⟨P,by simp[T,mJ,Pg.yir],.inl ⟨by simpa using mJ,rfl⟩⟩
      ·refine⟨_,rfl,.inr ⟨by simpa using mJ,?_⟩⟩
       simp only[Pg.yir,mJ,decide_false,Bool.false_or];rfl
     have lX:T (Pg.yhV W lv=Pg.yhN P L (W/2%8) (Pg.yio W) (Pg.yh3 W) (W/4096) lv):=by
      have:=HC.out;rw[hL.out]at this;exact this
     have HV0:T (Pg.yhN P L (W/2%8) (Pg.yio W) (Pg.yh3 W) (W/4096) lv=0->Pg.decV W lv=y #[kp #[R P,R L,I J (W/2%8),R (Pg.yio W),R (Pg.yh3 W),I J (W/4096)],I J 0]):=by
      intro hz;have:=Pg.decV_good (lX.out.trans hz) HZ.out;rw[hL.out]at this;exact this
     have HV1:T (Pg.yhN P L (W/2%8) (Pg.yio W) (Pg.yh3 W) (W/4096) lv≠0->Pg.decV W lv=y #[kp #[R Y,R Y,I J 0,R Y,R Y,I J 0],I J (Pg.yhN P L (W/2%8) (Pg.yio W) (Pg.yh3 W) (W/4096) lv)]):=by
      intro hz;exact Pg.yjH lX.out (by simp[Pg.yhZ,lX.out,hz])
     clear HC lX hL HG;have b5:Pg.bit W 5=Pg.yio W:=rfl;have b6:Pg.bit W 6=Pg.yh3 W:=rfl
     go_wp2_with fail
     have c0:∀d os,(grow (redrawn ((w.alloc (Obj.cells #[yY IntKind.u64 W] 64)).alloc (Obj.cells #[yP Y,yP Y,yY IntKind.i64 0,yP Y,yP Y,yY IntKind.i64 0] 70)) d) os).cell? ⟨w.heap.size,0,B⟩=V (I yC W):=
      N (by simp[go_sem])
     rcases cB with ⟨q0,rfl⟩|⟨q0,q1⟩
     all_goals
      refine Loose.yiH 18 9 (M #[R Y,R Y,I J 0,R Y,R Y,I J 0] 70) _ (by kernel_rfl) (by kernel_rfl) rfl rfl rfl (by intro a w;simp[go_sem]) ?_;simp only[un,uc,ur,ua]
      repeat (
       refine Loose.zS (fun k hk=> ?_)
       go_simp
       first
        | (refine hk _ ?_;clear hk k)
        | (apply Exists.intro
           refine⟨fun _=> ?_,hk _ ?_⟩
           (first
             | (go_at_call 151;refine Loose.yiB (ycf W h0 h1 _ 7 ?_ ?_ ?_ _ _ ?_);(exact rfl);(omega);(omega);(go_simp))
             | (go_at_call 151;refine Loose.yiB (ycf W h0 h1 _ 5 ?_ ?_ ?_ _ _ ?_);(exact rfl);(omega);(omega);(go_simp))
             | (go_at_call 151;refine Loose.yiB (ycf W h0 h1 _ 6 ?_ ?_ ?_ _ _ ?_);(exact rfl);(omega);(omega);(go_simp)))
           clear hk k))
      refine Loose.yhM ?_;intro b w' hb' rV hX
      have cb:w'.cell? ⟨b,0,B⟩=V (R Y)/\w'.cell? ⟨b,1,B⟩=V (R Y)/\w'.cell? ⟨b,2,B⟩=V (I J 0)/\w'.cell? ⟨b,3,B⟩=V (R Y)/\w'.cell? ⟨b,4,B⟩=V (R Y)/\w'.cell? ⟨b,5,B⟩=V (I J 0):=by
       simp[yR,hX]
      have fb:∀i,w'.frozen? ⟨b,i,B⟩=Y:=fun i=>by simp[yS,hX]
      have hB:Lw w w':=zT (zA (zA (zR _) _) _) hb'
      have hbl':w.heap.size+2<=b:=by simpa using rV
      have Tu:w'.cell? ⟨w.heap.size+1,0,B⟩=V (R Y)/\w'.cell? ⟨w.heap.size+1,1,B⟩=V (R Y)/\w'.cell? ⟨w.heap.size+1,2,B⟩=V (I J 0)/\w'.cell? ⟨w.heap.size+1,3,B⟩=V (R Y)/\w'.cell? ⟨w.heap.size+1,4,B⟩=V (R Y)/\w'.cell? ⟨w.heap.size+1,5,B⟩=V (I J 0):=
       ⟨X hb' (by simp[go_sem]),X hb' (by simp[go_sem]),X hb' (by simp[go_sem]),X hb' (by simp[go_sem]),X hb' (by simp[go_sem]),X hb' (by simp[go_sem])⟩
      have Dh:∀i,w'.frozen? ⟨w.heap.size+1,i,B⟩=Y:=fun i=>by
       rw[hb'.frozen (by simp)];simp[go_sem]
      clear hX rV hb' c0
      go_wp2_with fail
      first
       | (have st:=yac (v0:=R P) (v1:=R L) (v2:=I J (W/2%8)) (v3:=R (Pg.yio W)) (v4:=R (Pg.yh3 W)) (v5:=I J (W/4096)) hB (by omega) cb)
       | (have st:=yac (v0:=R P) (v1:=R P) (v2:=I J (W/2%8)) (v3:=R (Pg.yio W)) (v4:=R (Pg.yh3 W)) (v5:=I J (W/4096)) hB (by omega) cb)
      refine(xc _ _ _ _ _ _ _ _).mono ?_;rintro e w3 ⟨rfl,He⟩;obtain⟨tL,bi,uA,iI⟩:=st
      have GD:w3.cell? ⟨w.heap.size+1,0,B⟩=V (R Y)/\w3.cell? ⟨w.heap.size+1,1,B⟩=V (R Y)/\w3.cell? ⟨w.heap.size+1,2,B⟩=V (I J 0)/\w3.cell? ⟨w.heap.size+1,3,B⟩=V (R Y)/\w3.cell? ⟨w.heap.size+1,4,B⟩=V (R Y)/\w3.cell? ⟨w.heap.size+1,5,B⟩=V (I J 0):=
       xC He ⟨uA _ _ _ (by omega) Tu.1,uA _ _ _ (by omega) Tu.2.1,uA _ _ _ (by omega) Tu.2.2.1,uA _ _ _ (by omega) Tu.2.2.2.1,uA _ _ _ (by omega) Tu.2.2.2.2.1,uA _ _ _ (by omega) Tu.2.2.2.2.2⟩
      have Hf:=H _ _ (uA _ _ _ (by omega) Tu.1)
      have hfr2:∀i,w3.frozen? ⟨w.heap.size+1,i,B⟩=Y:=fun i=>by rw[He.frozen (p:=⟨w.heap.size+1,i,B⟩) Hf,iI];exact Dh i
      have l7:=xC He bi;have pE:=zT tL He;clear He tL bi uA iI Tu Dh hB cb fb Hf;generalize hcv:Pg.yhN P _ (W/2%8) (Pg.yio W) (Pg.yh3 W) (W/4096) lv=c at*;clear hcv
      by_cases hz:c=0
      ·have hn:(c !=0)=Y:=by simp[hz]
       have HV:=HV0.out hz;have Lx:T _:=HV;have HZ0:T (c=0):=hz;clear HV hz
       go_wp2
       refine O ?_ rfl ⟨by rw[Lx.out],?_⟩
       ·simp[results,Tryz.results105,go_sem,GD]
       ·exact(((((pE.setCell (by simp) _).setCell (by simp) _).setCell (by simp) _).setCell (by simp) _).setCell (by simp) _).setCell (by simp) _
      ·have hn:(c !=0)=P:=by simp[hz]
       have HV:=HV1.out hz;have Lx:T _:=HV;clear HV hz
       go_wp2
       refine O ?_ rfl ⟨by rw[Lx.out],?_⟩
       ·simp[results,Tryz.results105,go_sem,GD]
       ·exact(((((pE.setCell (by simp) _).setCell (by simp) _).setCell (by simp) _).setCell (by simp) _).setCell (by simp) _).setCell (by simp) _
theorem vT (t l:Bool) (r:Int) (u d:Bool) (f lv q:Int) (w:A):
 ue kO 72 #[kp #[R t,R l,I J r,R u,R d,I J f],I J lv,I J q] w fun e w'=>e=z (Pg.mapV t l r u d f lv q)/\Lw w w':=by
 have nJ:Pg.lOk t l r u d f lv q=Y/\((Pg.yhN t l r u d f lv !=0)=P\/((Pg.yhN t l r u d f lv !=0)=Y/\l=Y)\/((Pg.yhN t l r u d f lv !=0)=Y/\l=P/\q<0)\/((Pg.yhN t l r u d f lv !=0)=Y/\l=P/\0<=q/\4096<=q))\/
  (Pg.lOk t l r u d f lv q=P/\(Pg.yhN t l r u d f lv !=0)=Y/\l=P/\0<=q/\q<4096/\0<=lv/\lv<=2):=by
  by_cases h1:Pg.yhN t l r u d f lv=0
  ·cases l
   ·left;refine⟨by simp[Pg.lOk],.inr (.inl ⟨by simp[h1],rfl⟩)⟩
   ·by_cases h2:0<=q/\q<4096
    ·right
     obtain⟨⟨a,b⟩,hc⟩:=Pg.yh0 h1;refine⟨by simp[Pg.lOk,h1,Pg.below,h2],by simp[h1],rfl,h2.1,h2.2,a,?_⟩;rcases hc with ⟨_,h,_⟩|⟨_,_,_,_,_,⟨_,h,_⟩|⟨h,_⟩⟩
     ·cases h
     ·exact h
     ·cases h
    ·left
     refine⟨by simp[Pg.lOk,Pg.below];intro _;omega,?_⟩
     by_cases h3:q<0
     ·exact .inr (.inr (.inl ⟨by simp[h1],rfl,h3⟩))
     ·exact .inr (.inr (.inr ⟨by simp[h1],rfl,by omega,by omega⟩))
  ·left;exact⟨by simp[Pg.lOk,h1],.inl (by simp[h1])⟩
 rcases nJ with ⟨hk,hc⟩|⟨hk,h1,rfl,q0,q1,l0,l2⟩
 ·have HV:T _:=Pg.ykq hk
  clear hk;rcases hc with h1|⟨h1,rfl⟩|⟨h1,rfl,h2⟩|⟨h1,rfl,h2,h3⟩
  all_goals
   go_enter Tryz.func72,Tryz.ntmps72
   go_wp2_with fail
   refine(xc _ _ _ _ _ _ _ _).mono ?_;rintro e w1 ⟨rfl,Ha⟩;obtain⟨rO,si⟩:=xV Ha
   go_wp2
   refine O ?_ rfl ⟨by rw[HV.out],?_⟩
   ·simp[results,Tryz.results72,go_sem,rO]
   ·exact((((zT (zA (zA (zR _) _) _) Ha).setCell (by simp) _).setCell (by simp) _).setCell (by simp) _).setCell (by simp) _
 ·have HV:T _:=Pg.yli hk
  clear hk;have hs:=Pg.yh2 lv
  have rG:1<=Pg.span lv:=by rcases Pg.yhX lv with h|h|h|h<;>omega
  have Ho:¬Pg.span lv=0:=by omega
  have hne2:(Pg.span lv==0)=Y:=by simpa using Ho
  have hm:=Int.emod_nonneg q (by omega:Pg.span lv≠0);have sD:=Int.emod_lt_of_pos q (by omega:0<Pg.span lv);have ht:q.tmod (Pg.span lv)=q%Pg.span lv:=yB q0;have UT:IntKind.i64.wrap (q-q%Pg.span lv)=q-q%Pg.span lv:=xJ (by omega) (by omega)
  go_enter Tryz.func72,Tryz.ntmps72
  go_wp2_with fail
  refine(xc _ _ _ _ _ _ _ _).mono ?_;rintro e w1 ⟨rfl,Ha⟩;have ce:=xC (v0:=R t) (v1:=R P) (v2:=I J r) (v3:=R u) (v4:=R d) (v5:=I J f) (b:=w.heap.size) Ha (by simp[go_sem]);have cr:=xG (v0:=I J 0) (v1:=I J 0) (v2:=I J 0) (v3:=I J 0) (b:=w.heap.size+1) Ha (by simp[go_sem])
  have fr:∀i,w1.frozen? ⟨w.heap.size+1,i,B⟩=Y:=fun i=>by
   rw[Ha.frozen (p:=⟨w.heap.size+1,i,B⟩) (by simp)];simp[go_sem]
  have hB:=zT (zA (zA (zR _) _) _) Ha;clear Ha
  go_wp2_with fail
  have ke:=fun d os=>xC (below_regrown w1 d os) ce;refine Loose.yi6 12 (by kernel_rfl) (by kernel_rfl) ?_;simp only[un,uc,ur,ua]
  repeat (
   refine Loose.zS (fun k hk=> ?_)
   go_simp
   first
    | (refine hk _ ?_;clear hk k)
    | (apply Exists.intro
       refine⟨fun _=> ?_,hk _ ?_⟩
       (go_at_call 123;exact Loose.yiB (zv _ _))
       clear hk k))
  refine Loose.yhM ?_;intro w' hb';have Hf:=H _ _ cr.1
  replace cr:=xG hb' cr
  have fr':∀i,w'.frozen? ⟨w.heap.size+1,i,B⟩=Y:=fun i=>by
   rw[hb'.frozen (p:=⟨w.heap.size+1,i,B⟩) Hf];exact fr i
  replace hB:=zT hB hb'
  clear hb' fr ke ce
  go_wp2
  refine O ?_ rfl ⟨by rw[HV.out],?_⟩
  ·simp[results,Tryz.results72,go_sem,cr]
  ·exact(((hB.setCell (by simp) _).setCell (by simp) _).setCell (by simp) _).setCell (by simp) _
section
variable {b:Nat} {root:Int}
theorem qN.of_block {w w':A} {K:Pg.Wk} (h:qN w b K) (hk:w'.heap[b]?=w.heap[b]?):qN w' b K:=by
 obtain⟨t,lv,x,h⟩:=h;exact⟨t,lv,x,h.of_block hk⟩
theorem qN.lb {w:A} {K:Pg.Wk} (h:qN w b K):b<w.heap.size:=by
 obtain⟨t,lv,x,h⟩:=h;exact h.lb
theorem yc5 {w:A} {r:Nat} {v0 v1 v2:yJ} {t:TypeId} (h:w.heap[r]?=V (M #[v0,v1,v2] t (0,0))):
 (w.cell? ⟨r,0,B⟩=V v0/\w.cell? ⟨r,1,B⟩=V v1/\w.cell? ⟨r,2,B⟩=V v2)/\∀i,w.frozen? ⟨r,i,B⟩=Y:=
 ⟨by simp[yR,h],fun i=>by simp[yS,h]⟩
theorem ybf {F:Nat->Prop} {w w1:A} (h:But F w w1) (r:Nat) (hr:w.heap.size<=r\/F r) (x0 x1 x2:yJ):But F w (((w1.setCell ⟨r,0,B⟩ x0).setCell ⟨r,1,B⟩ x1).setCell ⟨r,2,B⟩ x2):=
 ((h.setCell (a:=⟨r,0,B⟩) hr x0).setCell (a:=⟨r,1,B⟩) hr x1).setCell (a:=⟨r,2,B⟩) hr x2
theorem yfu {K:Pg.Wk} {G:Nat->Prop} {w W:A} {r:Nat} (hr:¬r=b) (hw:w.heap.size<=r) (h:qN W b K/\Ch8 b 1 G w W) (v0 v1 v2:yJ):
 qN (((W.setCell ⟨r,0,B⟩ v0).setCell ⟨r,1,B⟩ v1).setCell ⟨r,2,B⟩ v2) b K/\Ch8 b 1 G w (((W.setCell ⟨r,0,B⟩ v0).setCell ⟨r,1,B⟩ v1).setCell ⟨r,2,B⟩ v2):=by
 have hb:=ybf (F:=fun j=>j=r) (But.refl _ W) r (.inr rfl) v0 v1 v2;have Ho:¬b=r:=fun e=>hr e.symm;have hl:=h.1.lb;refine⟨h.1.of_block (hb.block b hl Ho),ybf h.2.but r (.inl hw) v0 v1 v2,fun p hp=> ?_⟩;exact(hb.cell (a:=⟨b,p,B⟩) hl Ho).trans (h.2.oth p hp)
theorem ygZ {K:Pg.Wk} {G:Nat->Prop} {w W W':A} (h:qN W b K/\Ch8 b 1 G w W) (hb:Lw W W'):qN W' b K/\Ch8 b 1 G w W':=
 ⟨h.1.of_block (hb.block b h.1.lb),h.2.trans (Ch8.yhJ (F:=G) hb h.1.lb) fun _ _ hi=>hi⟩
structure ygj (w:A) (b:Nat) (q k:Int) (u:Bool) (t lv x:Int) (m:Bool):Prop where
 c1:w.cell? ⟨b,1,B⟩=V (R P)
 c2:w.cell? ⟨b,2,B⟩=V (I J q)
 c3:w.cell? ⟨b,3,B⟩=V (I J k)
 c4:w.cell? ⟨b,4,B⟩=V (R u)
 c5:w.cell? ⟨b,5,B⟩=V (I J t)
 c6:w.cell? ⟨b,6,B⟩=V (I J lv)
 c7:w.cell? ⟨b,7,B⟩=V (R m)
 c8:w.cell? ⟨b,8,B⟩=V (I yC x)
 fb:∀p,w.frozen? ⟨b,p,B⟩=Y
theorem ygj.drew {W:A} {q k:Int} {u:Bool} {t lv x:Int} {m:Bool} (h:ygj W b q k u t lv x m):ygj W.drew b q k u t lv x m:=⟨h.c1,h.c2,h.c3,h.c4,h.c5,h.c6,h.c7,h.c8,h.fb⟩
theorem ygj.again {W:A} {q k:Int} {u:Bool} {t lv x:Int} {m:Bool} (h:ygj W b q k u t lv x m):
 qN (((W.setCell ⟨b,5,B⟩ (I J root)).setCell ⟨b,6,B⟩ (I J 3)).setCell ⟨b,7,B⟩ (R Y)) b (Pg.Wk.start root q k u)/\Ch8 b 1 (fun j=>j=b) W (((W.setCell ⟨b,5,B⟩ (I J root)).setCell ⟨b,6,B⟩ (I J 3)).setCell ⟨b,7,B⟩ (R Y)):=by
 obtain⟨c1,c2,c3,c4,c5,c6,c7,c8,fb⟩:=h
 refine⟨⟨root,3,x,?_,?_,?_,?_,?_,?_,?_,?_,fun p=> ?_,fun _=>⟨rfl,rfl⟩,fun h=>absurd rfl h⟩,(((Ch8.refl b 1 (fun j=>j=b) W).set rfl 4 (by decide) _).set rfl 5 (by decide) _).set rfl 6 (by decide) _⟩<;>simp[go_sem,c1,c2,c3,c4,c5,c6,c7,c8,fb,Pg.Wk.start]
theorem vF {q k:Int} {u:Bool} {t lv x:Int} {m:Bool} (w:A) (h:ygj w b q k u t lv x m):
 ue kO 102 #[D (V ⟨b,0,B⟩),I J root] w fun e w'=>e=z (y #[])/\qN w' b (Pg.Wk.start root q k u)/\Ch8 b 1 (fun j=>j=b) w w':=by
 have HF:T _:=h.again (root:=root);have c1:=h.c1;have c5:=h.c5;have c6:=h.c6;have c7:=h.c7;have fb:=h.fb;clear h
 go_enter Tryz.func102,Tryz.ntmps102
 go_wp2
 go_end0
 exact⟨rfl,HF.out⟩
theorem yaL {K:Pg.Wk} (w:A) (h:qN w b K):
 ue kO 102 #[D (V ⟨b,0,B⟩),I J root] w fun e w'=>e=z (y #[])/\qN w' b (K.again root)/\Ch8 b 1 (fun j=>j=b) w w':=by
 obtain⟨t,lv,x,h⟩:=h;cases ho:K.on
 ·have e:K.again root=K:=by simp[Pg.Wk.again,ho]
  rw[e];have c1:=h.c1;rw[ho]at c1;have HF:T (qN w b K/\Ch8 b 1 (fun j=>j=b) w w):=⟨⟨_,_,_,h⟩,Ch8.refl _ _ _ _⟩;clear h ho e
  go_enter Tryz.func102,Tryz.ntmps102
  go_wp2
  go_end0
  exact⟨rfl,HF.out⟩
 ·have e:K.again root=Pg.Wk.start root K.q K.k K.u:=by simp[Pg.Wk.again,ho,Pg.Wk.start]
  rw[e];exact vF w ⟨by rw[h.c1,ho],h.c2,h.c3,h.c4,h.c5,h.c6,h.c7,h.c8,h.fb⟩
theorem vu.ended {W:A} {K:Pg.Wk} {t lv x:Int} (h:vu W b K t lv x):
 qN (((((W.setCell ⟨b,1,B⟩ (R Y)).setCell ⟨b,2,B⟩ (I J 0)).setCell ⟨b,3,B⟩ (I J 0)).setCell ⟨b,4,B⟩ (R Y)).setCell ⟨b,7,B⟩ (R Y)) b Pg.Wk.off/\Ch8 b 1 (fun j=>j=b) W (((((W.setCell ⟨b,1,B⟩ (R Y)).setCell ⟨b,2,B⟩ (I J 0)).setCell ⟨b,3,B⟩ (I J 0)).setCell ⟨b,4,B⟩ (R Y)).setCell ⟨b,7,B⟩ (R Y)):=by
 obtain⟨c1,c2,c3,c4,c5,c6,c7,c8,fb,_,_⟩:=h
 refine⟨⟨t,lv,x,?_,?_,?_,?_,?_,?_,?_,?_,fun p=> ?_,fun h=>(by cases h),fun h=>absurd rfl h⟩,(((((Ch8.refl b 1 (fun j=>j=b) W).set0 rfl _).set rfl 1 (by decide) _).set rfl 2 (by decide) _).set rfl 3 (by decide) _).set rfl 6 (by decide) _⟩<;>simp[go_sem,c1,c2,c3,c4,c5,c6,c7,c8,fb,Pg.Wk.off]
theorem ybg {K:Pg.Wk} (a f r:Int) (w:A) (h:qN w b K):
 ue kO 106 #[D (V ⟨b,0,B⟩),kp #[I J a,I J f,I J r]] w fun e w'=>e=z (y #[kp #[I J a,I J f,I J r],R P,I J 0])/\qN w' b Pg.Wk.off/\Ch8 b 1 (fun j=>j=b) w w':=by
 obtain⟨t,lv,x,h⟩:=h;have HF:=h.ended;have c1:=h.c1;have c2:=h.c2;have c3:=h.c3;have c4:=h.c4;have c7:=h.c7;have fb:=h.fb;have hl:=h.lb
 have dE:b<w.heap.size+1:=by omega
 have n0:b≠w.heap.size:=by omega
 have n1:b≠w.heap.size+1:=by omega
 have m0:w.heap.size≠b:=by omega
 have m1:w.heap.size+1≠b:=by omega
 have TU:T _:=HF;clear h HF
 go_enter Tryz.func106,Tryz.ntmps106
 go_wp2
 refine O (v:=y #[kp #[I J a,I J f,I J r],R P,I J 0]) ?_ rfl ⟨rfl,ygZ TU.out (zA (zA (zR _) _) _)⟩;simp[results,Tryz.results106,go_sem]
theorem vu.begun {W:A} {t lv x:Int} (h:vu W b Pg.Wk.off t lv x) (q k:Int) (u:Bool):
 ygj ((((W.setCell ⟨b,1,B⟩ (R P)).setCell ⟨b,2,B⟩ (I J q)).setCell ⟨b,3,B⟩ (I J k)).setCell ⟨b,4,B⟩ (R u)) b q k u t lv x Y/\Ch8 b 1 (fun j=>j=b) W ((((W.setCell ⟨b,1,B⟩ (R P)).setCell ⟨b,2,B⟩ (I J q)).setCell ⟨b,3,B⟩ (I J k)).setCell ⟨b,4,B⟩ (R u)):=by
 obtain⟨c1,c2,c3,c4,c5,c6,c7,c8,fb,_,_⟩:=h
 refine⟨⟨?_,?_,?_,?_,?_,?_,?_,?_,fun p=> ?_⟩,((((Ch8.refl b 1 (fun j=>j=b) W).set0 rfl _).set rfl 1 (by decide) _).set rfl 2 (by decide) _).set rfl 3 (by decide) _⟩<;>simp[go_sem,c1,c2,c3,c4,c5,c6,c7,c8,fb,Pg.Wk.off]
theorem ygn (S:Pg.Fs) (t q:Int) (lv:Nat):S.at' t (Pg.ix q lv:Nat)=S.has t:=by
 have:=Pg.yiw q lv;unfold Pg.Fs.at';cases S.has t
 ·rfl
 ·simp;omega
theorem yeh {w w':A} {e:Nat} {v0 v1 v2 v3 v4 v5:yJ} (hk:w'.heap[e]?=w.heap[e]?) (h:w.cell? ⟨e,0,B⟩=V v0/\w.cell? ⟨e,1,B⟩=V v1/\w.cell? ⟨e,2,B⟩=V v2/\w.cell? ⟨e,3,B⟩=V v3/\w.cell? ⟨e,4,B⟩=V v4/\w.cell? ⟨e,5,B⟩=V v5):
 w'.cell? ⟨e,0,B⟩=V v0/\w'.cell? ⟨e,1,B⟩=V v1/\w'.cell? ⟨e,2,B⟩=V v2/\w'.cell? ⟨e,3,B⟩=V v3/\w'.cell? ⟨e,4,B⟩=V v4/\w'.cell? ⟨e,5,B⟩=V v5:=
 ⟨(U hk).trans h.1,(U hk).trans h.2.1,(U hk).trans h.2.2.1,(U hk).trans h.2.2.2.1,(U hk).trans h.2.2.2.2.1,(U hk).trans h.2.2.2.2.2⟩
theorem qs.lb {w:A} {g o:Nat} {l:Pg.Ln} (h:qs w g o l):g<w.heap.size:=H _ _ h.1
theorem vu.low {W:A} {q k:Int} {u:Bool} {t:Int} {lv:Nat} {xw:Int} (h:vu W b ⟨P,q,k,u,t,lv,0⟩ t (lv:Int) xw) (t':Int) (m:Nat):
 qN ((W.setCell ⟨b,5,B⟩ (I J t')).setCell ⟨b,6,B⟩ (I J (m:Int))) b ⟨P,q,k,u,t',m,0⟩/\Ch8 b 1 (fun j=>j=b) W ((W.setCell ⟨b,5,B⟩ (I J t')).setCell ⟨b,6,B⟩ (I J (m:Int))):=by
 obtain⟨c1,c2,c3,c4,c5,c6,c7,c8,fb,_,_⟩:=h
 refine⟨⟨t',(m:Int),xw,?_,?_,?_,?_,?_,?_,?_,?_,fun p=> ?_,fun _=>⟨rfl,rfl⟩,fun h=>absurd rfl h⟩,((Ch8.refl b 1 (fun j=>j=b) W).set rfl 4 (by decide) _).set rfl 5 (by decide) _⟩<;>simp[go_sem,c1,c2,c3,c4,c5,c6,c7,c8,fb]
theorem vu.wait {W:A} {q k:Int} {u:Bool} {t:Int} {lv:Nat} {xw:Int} (h:vu W b ⟨P,q,k,u,t,lv,0⟩ t (lv:Int) xw) (x':Int) (hx:x'≠0):
 qN ((W.setCell ⟨b,7,B⟩ (R P)).setCell ⟨b,8,B⟩ (I yC x')) b ⟨P,q,k,u,t,lv,x'⟩/\Ch8 b 1 (fun j=>j=b) W ((W.setCell ⟨b,7,B⟩ (R P)).setCell ⟨b,8,B⟩ (I yC x')):=by
 obtain⟨c1,c2,c3,c4,c5,c6,c7,c8,fb,_,_⟩:=h
 refine⟨⟨t,(lv:Int),x',?_,?_,?_,?_,?_,?_,?_,?_,fun p=> ?_,fun _=>⟨rfl,rfl⟩,fun _=>rfl⟩,((Ch8.refl b 1 (fun j=>j=b) W).set rfl 6 (by decide) _).set rfl 7 (by decide) _⟩<;>simp[go_sem,c1,c2,c3,c4,c5,c6,c7,c8,fb,hx]
theorem yaN {bm g0 g1 bl:Nat} {vb:yJ} {S:Pg.Fs} {q k:Int} {u:Bool} {t:Int} {lv:Nat} {xw:Int} {x:Int} (hq:Pg.below q 4096=P) (rQ:lv<4) (w:A) (h:vu w b ⟨P,q,k,u,t,lv,x⟩ t (lv:Int) xw) (hm:zj w bm g0 g1 vb S) (hh:S.has t=Y):
 ue kO 57 #[D (V ⟨b,0,B⟩),D (V ⟨bm,0,B⟩),I J root,D (V ⟨bl,0,B⟩)] w fun e w'=>e=z (y #[kp #[I J (Pg.Wo.res ⟨P,q,k,u,t,lv,x⟩ (.code 12)).a,I J (Pg.Wo.res ⟨P,q,k,u,t,lv,x⟩ (.code 12)).f,I J (Pg.Wo.res ⟨P,q,k,u,t,lv,x⟩ (.code 12)).r],R (Pg.Wo.res ⟨P,q,k,u,t,lv,x⟩ (.code 12)).ended,I J (Pg.Wo.cd (.code 12))])/\qN w' b (Pg.Wo.next ⟨P,q,k,u,t,lv,x⟩ (.code 12))/\Ch8 b 1 (fun j=>j=b) w w':=by
 obtain⟨W,hW⟩:=eY (w.alloc (M #[I J 0,I J 0,I J 0] 34))
 have rH:Lw w W:=by rw[hW];exact zA (zR w) _
 have hl:=h.lb;have dK:T _:=h;have aK:T _:=hm;have pg:T _:=rH;have sI:=h.grow rH;have nQ:=hm.keep (F:=fun _=>False) (But.yhJ rH) (fun _ _=>id)
 have R0:T (W.heap[w.heap.size]?=V (M #[I J 0,I J 0,I J 0] 34 (0,0))):=by rw[hW];exact ki _ _
 have tZ:¬w.heap.size=b:=by omega
 have Ho:b≠w.heap.size:=by omega
 have kN:w.heap.size<W.heap.size:=(Z.1 R0.out).1;have HT:=xv t W nQ;rw[hh]at HT;have k1:=h.c1;have k5:=h.c5;simp only at k1 k5;simp only[Pg.Wo.res,Pg.Wo.cd,Pg.Wo.next,Pg.Rs.zero];clear h hm rH sI nQ
 go_enter Tryz.func57,Tryz.ntmps57
 go_wp2_with fail
 rw[<-hW];refine HT.mono ?_;rintro e w1 ⟨rfl,hw⟩;subst w1;clear hW;obtain⟨⟨x0,x1,x2⟩,xf⟩:=yc5 R0.out;have HF:T _:=yfu tZ (ud _) ⟨⟨_,_,_,dK.out.grow pg.out⟩,Ch8.yhJ (F:=fun j=>j=b) pg.out hl⟩ (I J 0) (I J 0) (I J 0)
 go_wp2
 refine O (v:=y #[kp #[I J 0,I J 0,I J 0],R Y,I J 12]) ?_ rfl ⟨rfl,HF.out⟩;simp[results,Tryz.results57,go_sem,x0,x1,x2]
theorem ycC {bm g0 g1 bl:Nat} {vb:yJ} {S:Pg.Fs} {q k:Int} {u:Bool} {t:Int} {lv:Nat} {xw:Int} {x:Int} (hq:Pg.below q 4096=P) (rQ:lv<4) (w:A) (h:vu w b ⟨P,q,k,u,t,lv,x⟩ t (lv:Int) xw) (hm:zj w bm g0 g1 vb S) (hh:S.has t=P) (hx:x≠0) (aB:S.word t.toNat (Pg.ix q lv)≠x):
 ue kO 57 #[D (V ⟨b,0,B⟩),D (V ⟨bm,0,B⟩),I J root,D (V ⟨bl,0,B⟩)] w fun e w'=>e=z (y #[kp #[I J (Pg.Wo.res ⟨P,q,k,u,t,lv,x⟩ (.go (Pg.Wk.again root ⟨P,q,k,u,t,lv,x⟩))).a,I J (Pg.Wo.res ⟨P,q,k,u,t,lv,x⟩ (.go (Pg.Wk.again root ⟨P,q,k,u,t,lv,x⟩))).f,I J (Pg.Wo.res ⟨P,q,k,u,t,lv,x⟩ (.go (Pg.Wk.again root ⟨P,q,k,u,t,lv,x⟩))).r],R (Pg.Wo.res ⟨P,q,k,u,t,lv,x⟩ (.go (Pg.Wk.again root ⟨P,q,k,u,t,lv,x⟩))).ended,I J (Pg.Wo.cd (.go (Pg.Wk.again root ⟨P,q,k,u,t,lv,x⟩)))])/\qN w' b (Pg.Wo.next ⟨P,q,k,u,t,lv,x⟩ (.go (Pg.Wk.again root ⟨P,q,k,u,t,lv,x⟩)))/\Ch8 b 1 (fun j=>j=b) w w':=by
 obtain⟨W,hW⟩:=eY (w.alloc (M #[I J 0,I J 0,I J 0] 34))
 have rH:Lw w W:=by rw[hW];exact zA (zR w) _
 have hl:=h.lb;have dK:T _:=h;have aK:T _:=hm;have pg:T _:=rH;have sI:=h.grow rH;have nQ:=hm.keep (F:=fun _=>False) (But.yhJ rH) (fun _ _=>id)
 have R0:T (W.heap[w.heap.size]?=V (M #[I J 0,I J 0,I J 0] 34 (0,0))):=by rw[hW];exact ki _ _
 have tZ:¬w.heap.size=b:=by omega
 have Ho:b≠w.heap.size:=by omega
 have kN:w.heap.size<W.heap.size:=(Z.1 R0.out).1;have HT:=xv t W nQ;rw[hh]at HT;have k1:=h.c1;have k5:=h.c5;simp only at k1 k5;obtain⟨tn,rfl⟩:=uv (hm.ok.yh4 hh).1
 have nL:tn<S.n:=by have:=(hm.ok.yh4 hh).2.1;omega
 have kK:=Pg.yiw q lv;have fG:=zQ q (lv:Int);rw[Pg.yhY hq rQ]at fG;have M0:=N nQ.raw.c0;have MW:=N (nQ.raw.cw tn (Pg.ix q lv) nL kK);have K2:=N sI.c2;have K5:=N sI.c5;have K6:=N sI.c6;simp only at K2 K5 K6;simp only[kh]at aB;generalize S.word tn (Pg.ix q lv)=wd at*;generalize bD:Pg.ix q lv=lH at*;have uR:T _:=bD
 have i0:(0:Int)<=(tn:Int):=by omega
 have i1:(tn:Int)<(S.n:Int):=by omega
 have i2:(0:Int)<=(lH:Int):=by omega
 have i3:(lH:Int)<8:=by omega
 clear h hm rH sI nQ bD;simp only[Pg.Wo.res,Pg.Wo.cd,Pg.Wo.next,Pg.Rs.zero,Pg.Wo.ended]
 go_enter Tryz.func57,Tryz.ntmps57
 go_wp2_with fail
 rw[<-hW];refine HT.mono ?_;rintro e w1 ⟨rfl,hw⟩;subst w1;clear hW;clear HT k1 k5
 go_wp2_with fail
 refine wp_region_quiet_below (by kernel_rfl) (by kernel_rfl) ?_
 repeat (first
  | go_big_quiet_step ((go_at_call 104;exact Calls.regrown_of (fG _))))
 refine wpQuiet_nil ?_;intro _ sF;obtain⟨⟨dq,osq⟩,rfl⟩:=sF;have Hd:=below_regrown W dq osq;have Ht:T (Lw w (grow (redrawn W dq) osq)):=zT pg.out Hd;have R2:T ((grow (redrawn W dq) osq).heap[w.heap.size]?=_):=(Hd.block _ kN).trans R0.out;clear Hd fG M0 MW K2 K5 K6 R0 pg kN;generalize grow (redrawn W dq) osq=w2 at*;have tK:=dK.out.grow Ht.out;have y7:=tK.c7;have y8:=tK.c8;have y6:=tK.c6
 have Am:decide (x≠0)=P:=by simpa using hx
 simp only[Am]at y6 y7 y8;have Ar:=dK.out.wd hx;simp only at Ar;subst Ar
 have hwn:(wd !=xw)=P:=by simpa using aB
 clear aB Am hx;have tq:w.heap.size<w2.heap.size:=(Z.1 R2.out).1;have su:b<w2.heap.size:=tK.lb;clear tK;have HA:=yaL (root:=root) w2 ⟨_,_,_,dK.out.grow Ht.out⟩
 go_wp2_with fail
 refine HA.mono ?_;rintro e w3 ⟨rfl,bG,fU⟩;have wC:T (Ch8 b 1 (fun j=>j=b) w w3):=(Ch8.yhJ Ht.out hl).trans fU (fun _ _ h=>h);have R3:T (w3.heap[w.heap.size]?=_):=(fU.but.block _ tq tZ).trans R2.out;obtain⟨⟨x0,x1,x2⟩,xf⟩:=yc5 R3.out;have HF:T _:=yfu tZ (ud _) ⟨bG,wC.out⟩ (I J 0) (I J 0) (I J 0);clear bG fU HA
 go_wp2
 refine O (v:=y #[kp #[I J 0,I J 0,I J 0],R Y,I J 0]) ?_ rfl ⟨rfl,HF.out⟩;simp[results,Tryz.results57,go_sem,x0,x1,x2]
end
section
variable {b:Nat} {root:Int}
structure yam (w:A) (b bm g0 g1 bl:Nat) (vb:yJ) (S:Pg.Fs) (K:Pg.Wk) (out:Pg.Wo) (e:Ending) (w':A):Prop where
 end':e=z (y #[kp #[I J (out.res K).a,I J (out.res K).f,I J (out.res K).r],R (out.res K).ended,I J out.cd])
 at':qN w' b (out.next K)
 mem:zj w' bm g0 g1 vb (out.fs S K)
 ln:qs w' bl 0 ⟨(out.res K).m,(out.res K).d⟩
 chg:Ch8 b 1 (fun j=>j=b\/j=bl\/xg bm g0 g1 vb j) w w'
theorem yam.plain {w w':A} {bm g0 g1 bl:Nat} {vb:yJ} {S:Pg.Fs} {K:Pg.Wk} {out:Pg.Wo} {e:Ending} (hm:zj w bm g0 g1 vb S) (hL:qs w bl 0 ⟨⟨0,0,0,0⟩,Y⟩) (dh:¬xg bm g0 g1 vb b) (rV:b≠bl)
 (hf:out.fs S K=S) (h0:(out.res K).m=⟨0,0,0,0⟩/\(out.res K).d=Y)
 (h:e=z (y #[kp #[I J (out.res K).a,I J (out.res K).f,I J (out.res K).r],R (out.res K).ended,I J out.cd])/\qN w' b (out.next K)/\Ch8 b 1 (fun j=>j=b) w w'):yam w b bm g0 g1 bl vb S K out e w':=by
 obtain⟨h1,h2,h3⟩:=h;refine⟨h1,h2,?_,?_,h3.mono (fun _ _ h=> .inl h)⟩
 ·rw[hf]
  exact hm.keep h3.but (fun j hj e=>dh (e▸hj))
 ·rw[h0.1,h0.2]
  exact hL.of fun p=>h3.but.cell (a:=⟨bl,p,B⟩) hL.lb (fun e=>rV e.symm)
theorem ycD {bm g0 g1 bl:Nat} {vb:yJ} {S:Pg.Fs} {q k:Int} {u:Bool} {t:Int} {lv:Nat} {xw rc:Int} {et el:Bool} {er:Int} {eu ed:Bool} {ef:Int} {oc:Pg.Wo} (hq:Pg.below q 4096=P) (rQ:lv<4) (w:A) (h:vu w b ⟨P,q,k,u,t,lv,0⟩ t (lv:Int) xw) (hm:zj w bm g0 g1 vb S) (hL:qs w bl 0 ⟨⟨0,0,0,0⟩,Y⟩) (dh:¬xg bm g0 g1 vb b) (rV:b≠bl) (hh:S.has t=P) (hc:Pg.yhR S t (Pg.ix q lv) lv=rc) (he:Pg.rEn S t (Pg.ix q lv) lv=⟨et,el,er,eu,ed,ef⟩)
 (hA:((rc !=0)=P/\oc= .code rc)\/(rc=0/\((et=Y/\oc= .stop 1)\/(et=P/\((el=Y/\∃m:Nat,(lv:Int)-1=(m:Int)/\(1:Int)<=(lv:Int)/\oc= .go ⟨P,q,k,u,ef,m,0⟩)\/(el=P/\((Pg.may er k u=Y/\oc= .stop 2)\/(Pg.may er k u=P/\S.word t.toNat (Pg.ix q lv)≠0/\(eu=Y\/(eu=P/\ed=Y/\(k !=1)=Y))/\oc= .go ⟨P,q,k,u,t,lv,S.word t.toNat (Pg.ix q lv)⟩)))))))):
 ue kO 57 #[D (V ⟨b,0,B⟩),D (V ⟨bm,0,B⟩),I J root,D (V ⟨bl,0,B⟩)] w fun e w'=>yam w b bm g0 g1 bl vb S ⟨P,q,k,u,t,lv,0⟩ oc e w':=by
 have mZ:=fun W'=>vx er q k u W';generalize Pg.may er k u=mv at*;have PL:T (∀{out:Pg.Wo} {e:Ending} {w':A},out.fs S ⟨P,q,k,u,t,lv,0⟩=S->((out.res ⟨P,q,k,u,t,lv,0⟩).m=⟨0,0,0,0⟩/\(out.res ⟨P,q,k,u,t,lv,0⟩).d=Y)->(e=z (y #[kp #[I J (out.res ⟨P,q,k,u,t,lv,0⟩).a,I J (out.res ⟨P,q,k,u,t,lv,0⟩).f,I J (out.res ⟨P,q,k,u,t,lv,0⟩).r],R (out.res ⟨P,q,k,u,t,lv,0⟩).ended,I J out.cd])/\qN w' b (out.next ⟨P,q,k,u,t,lv,0⟩)/\Ch8 b 1 (fun j=>j=b) w w')->yam w b bm g0 g1 bl vb S ⟨P,q,k,u,t,lv,0⟩ out e w'):=fun a1 a2 a3=>yam.plain hm hL dh rV a1 a2 a3;obtain⟨W,hW⟩:=eY (w.alloc (M #[I J 0,I J 0,I J 0] 34))
 have rH:Lw w W:=by rw[hW];exact zA (zR w) _
 have hl:=h.lb;have dK:T _:=h;have aK:T _:=hm;have pg:T _:=rH;have sI:=h.grow rH;have nQ:=hm.keep (F:=fun _=>False) (But.yhJ rH) (fun _ _=>id)
 have R0:T (W.heap[w.heap.size]?=V (M #[I J 0,I J 0,I J 0] 34 (0,0))):=by rw[hW];exact ki _ _
 have tZ:¬w.heap.size=b:=by omega
 have Ho:b≠w.heap.size:=by omega
 have kN:w.heap.size<W.heap.size:=(Z.1 R0.out).1;have HT:=xv t W nQ;rw[hh]at HT;have k1:=h.c1;have k5:=h.c5;simp only at k1 k5;obtain⟨tn,rfl⟩:=uv (hm.ok.yh4 hh).1
 have nL:tn<S.n:=by have:=(hm.ok.yh4 hh).2.1;omega
 have kK:=Pg.yiw q lv;have fG:=zQ q (lv:Int);rw[Pg.yhY hq rQ]at fG;have M0:=N nQ.raw.c0;have MW:=N (nQ.raw.cw tn (Pg.ix q lv) nL kK);have K2:=N sI.c2;have K5:=N sI.c5;have K6:=N sI.c6;simp only at K2 K5 K6;have Cc:=hm.ok.low tn (Pg.ix q lv);have Cb:=hm.ok.high tn (Pg.ix q lv);obtain⟨e1,e2⟩:=Pg.yik (i:=Pg.ix q lv) (lv:=lv) hh;simp only[kh]at e1 e2;have kZ:=fun W'=>jr (S.word tn (Pg.ix q lv)) (lv:Int) Cc Cb W';rw[Pg.yjw,<-e1,<-e2,hc,he]at kZ;simp only[Pg.En.val]at kZ;clear Cc Cb e1 e2 hc he;simp only[kh]at hA;generalize S.word tn (Pg.ix q lv)=wd at*;generalize bD:Pg.ix q lv=lH at*;have uR:T _:=bD
 have i0:(0:Int)<=(tn:Int):=by omega
 have i1:(tn:Int)<(S.n:Int):=by omega
 have i2:(0:Int)<=(lH:Int):=by omega
 have i3:(lH:Int)<8:=by omega
 have HA:T _:=hA;clear h hm rH sI nQ bD hA
 go_enter Tryz.func57,Tryz.ntmps57
 go_wp2_with fail
 rw[<-hW];refine HT.mono ?_;rintro e w1 ⟨rfl,hw⟩;subst w1;clear hW;clear HT k1 k5
 go_wp2_with fail
 refine wp_region_quiet_below (by kernel_rfl) (by kernel_rfl) ?_
 repeat (first
  | go_big_quiet_step ((go_at_call 104;exact Calls.regrown_of (fG _))))
 refine wpQuiet_nil ?_;intro _ sF;obtain⟨⟨dq,osq⟩,rfl⟩:=sF;have Hd:=below_regrown W dq osq;have Ht:T (Lw w (grow (redrawn W dq) osq)):=zT pg.out Hd;have R2:T ((grow (redrawn W dq) osq).heap[w.heap.size]?=_):=(Hd.block _ kN).trans R0.out;clear Hd fG M0 MW K2 K5 K6 R0 pg kN;generalize grow (redrawn W dq) osq=w2 at*;have tK:=dK.out.grow Ht.out;have y7:=tK.c7;have y8:=tK.c8;have y6:=tK.c6;simp only[ne_eq,not_true_eq_false,decide_false]at y6 y7 y8;have tq:w.heap.size<w2.heap.size:=(Z.1 R2.out).1;have su:b<w2.heap.size:=tK.lb;clear tK
 go_wp2_with fail
 refine(kZ _).mono ?_;rintro e w3 ⟨rfl,He⟩;have rE:T (Lw w w3):=zT Ht.out He;have R3:T (w3.heap[w.heap.size]?=_):=(He.block _ tq).trans R2.out;have mO:w.heap.size<w3.heap.size:=Q tq He.size;have lN:b<w3.heap.size:=Q su He.size
 have nb3:b≠w3.heap.size:=by omega
 have mb3:w3.heap.size≠b:=by omega
 have U9:w.heap.size≠w3.heap.size:=by omega
 have U2:w3.heap.size≠w.heap.size:=by omega
 clear He kZ y6 y7 y8 Ht R2 tq su;rcases HA.out with ⟨hc,rfl⟩|⟨rfl,hA⟩
 ·clear HA
  obtain⟨⟨x0,x1,x2⟩,xf⟩:=yc5 R3.out;have HF:T _:=ygZ (yfu tZ (ud _) ⟨⟨_,_,_,dK.out.grow rE.out⟩,Ch8.yhJ (F:=fun j=>j=b) rE.out hl⟩ (I J 0) (I J 0) (I J 0)) (zA (zR _) (M #[R et,R el,I J er,R eu,R ed,I J ef] 70))
  go_wp2
  refine O (v:=y #[kp #[I J 0,I J 0,I J 0],R Y,I J rc]) ?_ rfl (PL.out rfl ⟨rfl,rfl⟩ ⟨rfl,HF.out⟩);simp[results,Tryz.results57,go_sem,x0,x1,x2,mO,U9,U2]
 clear HA;have HA:T _:=hA;clear hA;obtain⟨W4,rJ⟩:=eY (w3.alloc (M #[R et,R el,I J er,R eu,R ed,I J ef] 70))
 have pI:Lw w3 W4:=by rw[rJ];exact zA (zR _) _
 have rR:T (Lw w W4):=zT rE.out pI;have R4:T (W4.heap[w.heap.size]?=_):=(pI.block _ mO).trans R3.out
 have E4:T (W4.cell? ⟨w3.heap.size,0,B⟩=V (R et)/\W4.cell? ⟨w3.heap.size,1,B⟩=V (R el)/\W4.cell? ⟨w3.heap.size,2,B⟩=V (I J er)/\W4.cell? ⟨w3.heap.size,3,B⟩=V (R eu)/\W4.cell? ⟨w3.heap.size,4,B⟩=V (R ed)/\W4.cell? ⟨w3.heap.size,5,B⟩=V (I J ef)):=by rw[T,rJ];simp[go_sem]
 have F4:T (∀i,W4.frozen? ⟨w3.heap.size,i,B⟩=Y):=fun i=>by rw[rJ];simp[go_sem]
 have gH:w.heap.size<W4.heap.size:=by have:=pI.size;omega
 have nI:b<W4.heap.size:=by have:=pI.size;omega
 have aS:w3.heap.size<W4.heap.size:=by rw[rJ];simp
 clear pI;rcases HA.out with ⟨rfl,rfl⟩|⟨rfl,hA⟩
 ·clear HA
  go_wp2_with fail
  rw[<-rJ];clear rJ;have HE:=ybg 1 0 0 _ ⟨_,_,_,dK.out.grow rR.out⟩;refine HE.mono ?_;rintro e w9 ⟨rfl,mI,dW⟩;have uP:T (Ch8 b 1 (fun j=>j=b) w w9):=(Ch8.yhJ rR.out hl).trans dW (fun _ _ h=>h);have R9:T (w9.heap[w.heap.size]?=_):=(dW.but.block _ gH tZ).trans R4.out;obtain⟨⟨x0,x1,x2⟩,xf⟩:=yc5 R9.out;have HF:T _:=yfu tZ (ud _) ⟨mI,uP.out⟩ (I J 1) (I J 0) (I J 0);clear mI dW HE
  go_wp2
  refine O (v:=y #[kp #[I J 1,I J 0,I J 0],R P,I J 0]) ?_ rfl (PL.out rfl ⟨rfl,rfl⟩ ⟨rfl,HF.out⟩);simp[results,Tryz.results57,go_sem,x0,x1,x2]
 clear HA;have HA:T _:=hA;clear hA;rcases HA.out with ⟨rfl,m,uy,iT,rfl⟩|⟨rfl,hA⟩
 ·clear HA
  have bG:=dK.out.grow rE.out;have z5:=bG.c5;have z6:=bG.c6;have zf:=bG.fb;obtain⟨⟨x0,x1,x2⟩,xf⟩:=yc5 R3.out;have HF:T _:=ygZ (yfu tZ (ud _) ⟨(bG.low ef m).1,(Ch8.yhJ rE.out hl).trans (bG.low ef m).2 (fun _ _ h=>h)⟩ (I J 0) (I J 0) (I J 0)) (zA (zR _) (M #[R P,R Y,I J er,R eu,R ed,I J ef] 70));clear bG
  go_wp2
  refine O (v:=y #[kp #[I J 0,I J 0,I J 0],R Y,I J 0]) ?_ rfl (PL.out rfl ⟨rfl,rfl⟩ ⟨rfl,HF.out⟩);simp[results,Tryz.results57,go_sem,x0,x1,x2,mO,U9,U2]
 clear HA;have HA:T _:=hA;clear hA
 go_wp2_with fail
 rw[<-rJ];clear rJ;have z2:=N E4.out.2.2.1;have y2:=N (dK.out.grow rR.out).c2;have y3:=N (dK.out.grow rR.out).c3;have y4:=N (dK.out.grow rR.out).c4;simp only at y2 y3 y4;refine wp_region_quiet_below (by kernel_rfl) (by kernel_rfl) ?_
 repeat (first
  | go_big_quiet_step ((go_at_call 107;exact Calls.regrown_of (mZ _))))
 refine wpQuiet_nil ?_;intro _ sF;obtain⟨⟨gP,pK⟩,rfl⟩:=sF;have rD:=below_regrown W4 gP pK;have tT:T (Lw w (grow (redrawn W4 gP) pK)):=zT rR.out rD;have R5:T ((grow (redrawn W4 gP) pK).heap[w.heap.size]?=_):=(rD.block _ gH).trans R4.out;have E5:T _:=xC rD E4.out;have F5:T (∀i,(grow (redrawn W4 gP) pK).frozen? ⟨w3.heap.size,i,B⟩=Y):=fun i=>(rD.frozen (p:=⟨w3.heap.size,i,B⟩) aS).trans (F4.out i);have aW:w.heap.size<(grow (redrawn W4 gP) pK).heap.size:=Q gH rD.size;have Rw:b<(grow (redrawn W4 gP) pK).heap.size:=Q nI rD.size;have KD:w3.heap.size<(grow (redrawn W4 gP) pK).heap.size:=Q aS rD.size;clear rD z2 y2 y3 y4 E4 F4 mZ rR R4 gH nI aS rE R3 lN;generalize grow (redrawn W4 gP) pK=w5 at*;generalize w3.heap.size=Eb at*;rcases HA.out with ⟨rfl,rfl⟩|⟨rfl,lF,hA,rfl⟩
 ·clear HA
  go_wp2_with fail
  have HE:=ybg 2 0 0 _ ⟨_,_,_,dK.out.grow tT.out⟩;refine HE.mono ?_;rintro e w9 ⟨rfl,mI,dW⟩;have uP:T (Ch8 b 1 (fun j=>j=b) w w9):=(Ch8.yhJ tT.out hl).trans dW (fun _ _ h=>h);have R9:T (w9.heap[w.heap.size]?=_):=(dW.but.block _ aW tZ).trans R5.out;obtain⟨⟨x0,x1,x2⟩,xf⟩:=yc5 R9.out;have HF:T _:=yfu tZ (ud _) ⟨mI,uP.out⟩ (I J 2) (I J 0) (I J 0);clear mI dW HE
  go_wp2
  refine O (v:=y #[kp #[I J 2,I J 0,I J 0],R P,I J 0]) ?_ rfl (PL.out rfl ⟨rfl,rfl⟩ ⟨rfl,HF.out⟩);simp[results,Tryz.results57,go_sem,x0,x1,x2]
 clear HA;obtain⟨z0,z1,z2,z3,z4,z5⟩:=E5.out;have cZ:=dK.out.grow tT.out;have y3:=cZ.c3;have y7:=cZ.c7;have y8:=cZ.c8;have yf:=cZ.fb;simp only[ne_eq,not_true_eq_false,decide_false]at y3 y7 y8;obtain⟨⟨x0,x1,x2⟩,xf⟩:=yc5 R5.out;have HF:T _:=yfu tZ (ud _) ⟨(cZ.wait wd lF).1,(Ch8.yhJ tT.out hl).trans (cZ.wait wd lF).2 (fun _ _ h=>h)⟩ (I J 0) (I J 0) (I J 0);clear cZ;rcases hA with rfl|⟨rfl,rfl,dL⟩
 all_goals
  go_wp2
  refine O (v:=y #[kp #[I J 0,I J 0,I J 0],R Y,I J 0]) ?_ rfl (PL.out rfl ⟨rfl,rfl⟩ ⟨rfl,HF.out⟩);simp[results,Tryz.results57,go_sem,x0,x1,x2]
end
section
variable {b:Nat} {root:Int}
theorem yaM {bm g0 g1 bl:Nat} {vb:yJ} {S:Pg.Fs} {q k:Int} {u:Bool} {t:Int} {lv:Nat} {xw x er ef:Int} {eu ed d' mk:Bool} (hq:Pg.below q 4096=P) (rQ:lv<4) (w:A) (h:vu w b ⟨P,q,k,u,t,lv,x⟩ t (lv:Int) xw) (hm:zj w bm g0 g1 vb S) (hL:qs w bl 0 ⟨⟨0,0,0,0⟩,Y⟩) (Pv:∀p,w.frozen? ⟨bl,p,B⟩=Y) (dh:¬xg bm g0 g1 vb b) (uy:¬xg bm g0 g1 vb bl) (rV:b≠bl) (pU:Pg.may er k u=P) (hh:S.has t=P) (hc:Pg.yhR S t (Pg.ix q lv) lv=0) (he:Pg.rEn S t (Pg.ix q lv) lv=⟨P,P,er,eu,ed,ef⟩)
 (oW:decide (x≠0)=mk) (aB:mk=P->S.word t.toNat (Pg.ix q lv)=xw) (hB:(mk=Y/\eu=P/\(ed||k !=1)=P/\d'=ed)\/(mk=P/\(eu&&(ed||k !=1))=Y/\d'=(ed||k==1))):
 ue kO 57 #[D (V ⟨b,0,B⟩),D (V ⟨bm,0,B⟩),I J root,D (V ⟨bl,0,B⟩)] w fun e w'=>yam w b bm g0 g1 bl vb S ⟨P,q,k,u,t,lv,x⟩ (.done ⟨P,P,er,P,d',ef⟩ mk) e w':=by
 have mZ:=fun W'=>vx er q k u W';rw[pU]at mZ;clear pU;obtain⟨W,hW⟩:=eY (w.alloc (M #[I J 0,I J 0,I J 0] 34))
 have rH:Lw w W:=by rw[hW];exact zA (zR w) _
 have hl:=h.lb;have dK:T _:=h;have aK:T _:=hm;have pg:T _:=rH;have sI:=h.grow rH;have nQ:=hm.keep (F:=fun _=>False) (But.yhJ rH) (fun _ _=>id)
 have R0:T (W.heap[w.heap.size]?=V (M #[I J 0,I J 0,I J 0] 34 (0,0))):=by rw[hW];exact ki _ _
 have tZ:¬w.heap.size=b:=by omega
 have Ho:b≠w.heap.size:=by omega
 have kN:w.heap.size<W.heap.size:=(Z.1 R0.out).1;have HT:=xv t W nQ;rw[hh]at HT;have k1:=h.c1;have k5:=h.c5;simp only at k1 k5;obtain⟨tn,rfl⟩:=uv (hm.ok.yh4 hh).1
 have nL:tn<S.n:=by have:=(hm.ok.yh4 hh).2.1;omega
 have kK:=Pg.yiw q lv;have fG:=zQ q (lv:Int);rw[Pg.yhY hq rQ]at fG;have M0:=N nQ.raw.c0;have MW:=N (nQ.raw.cw tn (Pg.ix q lv) nL kK);have K2:=N sI.c2;have K5:=N sI.c5;have K6:=N sI.c6;simp only at K2 K5 K6;have Cc:=hm.ok.low tn (Pg.ix q lv);have Cb:=hm.ok.high tn (Pg.ix q lv);obtain⟨e1,e2⟩:=Pg.yik (i:=Pg.ix q lv) (lv:=lv) hh;simp only[kh]at e1 e2;have kZ:=fun W'=>jr (S.word tn (Pg.ix q lv)) (lv:Int) Cc Cb W';rw[Pg.yjw,<-e1,<-e2,hc,he]at kZ;simp only[Pg.En.val]at kZ;clear Cc Cb e1 e2 hc he;simp only[kh]at aB;generalize S.word tn (Pg.ix q lv)=wd at*;generalize bD:Pg.ix q lv=lH at*;have uR:T _:=bD
 have i0:(0:Int)<=(tn:Int):=by omega
 have i1:(tn:Int)<(S.n:Int):=by omega
 have i2:(0:Int)<=(lH:Int):=by omega
 have i3:(lH:Int)<8:=by omega
 clear h hm rH sI nQ bD;have NY:=fun W'=>vT P P er P d' ef (lv:Int) q W';rw[Pg.ylJ ⟨P,P,er,P,d',ef⟩ (lv:Int) q]at NY;have aj:Pg.Wo.res ⟨P,q,k,u,(tn:Int),lv,x⟩ (.done ⟨P,P,er,P,d',ef⟩ mk)=⟨P,Pg.aEnd (Pg.En.map ⟨P,P,er,P,d',ef⟩ (lv:Int) q).r k u,Pg.yie (Pg.En.map ⟨P,P,er,P,d',ef⟩ (lv:Int) q).p (Pg.En.map ⟨P,P,er,P,d',ef⟩ (lv:Int) q).f (Pg.En.map ⟨P,P,er,P,d',ef⟩ (lv:Int) q).r q k u,Pg.yh1 (Pg.En.map ⟨P,P,er,P,d',ef⟩ (lv:Int) q).r k u,Pg.En.map ⟨P,P,er,P,d',ef⟩ (lv:Int) q,d'⟩:=rfl;generalize Pg.En.map ⟨P,P,er,P,d',ef⟩ (lv:Int) q=mm at*;obtain⟨mp,ms,mf,mr⟩:=mm;simp only[Pg.Mp.val]at NY;have lI:=fun W'=>qn mp ms mf mr q k u W';generalize Pg.aEnd mr k u=aa at*;generalize Pg.yie mp mf mr q k u=af at*;generalize Pg.yh1 mr k u=ar at*;have FK:T _:=aj;clear aj;have HL:T (qs w bl 0 ⟨⟨0,0,0,0⟩,Y⟩):=hL;have WJ:T _:=Pv;clear hL Pv;have iA:T (Pg.index q (lv:Int)=(Pg.ix q lv:Nat)):=Pg.yhY hq rQ;have KH:Pg.Wo.fs S ⟨P,q,k,u,(tn:Int),lv,x⟩ (.done ⟨P,P,er,P,d',ef⟩ P)=S.store (tn:Int) (Pg.index q (lv:Int)) (Pg.enc P P er P d' ef (lv:Int)):=rfl;rw[iA.out,uR.out]at KH;have wU:=fun W'=>jh P P er P d' ef (lv:Int) W';have hv:=Pg.ykl P P er P d' ef (lv:Int);generalize Pg.enc P P er P d' ef (lv:Int)=v at*;have NH:T _:=KH;clear KH
 have OJ:T (S.at' (tn:Int) (lH:Int)=P):=by rw[T,<-uR.out,ygn S (tn:Int) q lv,hh]
 clear hh
 go_enter Tryz.func57,Tryz.ntmps57
 go_wp2_with fail
 rw[<-hW];refine HT.mono ?_;rintro e w1 ⟨rfl,hw⟩;subst w1;clear hW;clear HT k1 k5
 go_wp2_with fail
 refine wp_region_quiet_below (by kernel_rfl) (by kernel_rfl) ?_
 repeat (first
  | go_big_quiet_step ((go_at_call 104;exact Calls.regrown_of (fG _))))
 refine wpQuiet_nil ?_;intro _ sF;obtain⟨⟨dq,osq⟩,rfl⟩:=sF;have Hd:=below_regrown W dq osq;have Ht:T (Lw w (grow (redrawn W dq) osq)):=zT pg.out Hd;have R2:T ((grow (redrawn W dq) osq).heap[w.heap.size]?=_):=(Hd.block _ kN).trans R0.out;clear Hd fG M0 MW K2 K5 K6 R0 pg kN;generalize grow (redrawn W dq) osq=w2 at*;have tK:=dK.out.grow Ht.out;have y7:=tK.c7;have y8:=tK.c8;have y6:=tK.c6;simp only[oW]at y6 y7 y8;have tq:w.heap.size<w2.heap.size:=(Z.1 R2.out).1;have su:b<w2.heap.size:=tK.lb;clear tK;have OU:T _:=oW;clear oW;rcases hB with ⟨rfl,hB⟩|⟨rfl,hB⟩
 rotate_left
 focus
  have Nh:(wd !=xw)=Y:=by rw[aB rfl];simp
 rotate_left
 all_goals
  have wy:T _:=hB;clear hB aB
 all_goals
  go_wp2_with fail
  refine(kZ _).mono ?_;rintro e w3 ⟨rfl,He⟩;have rE:T (Lw w w3):=zT Ht.out He;have R3:T (w3.heap[w.heap.size]?=_):=(He.block _ tq).trans R2.out;have mO:w.heap.size<w3.heap.size:=Q tq He.size;have lN:b<w3.heap.size:=Q su He.size
  have nb3:b≠w3.heap.size:=by omega
  have mb3:w3.heap.size≠b:=by omega
  have U9:w.heap.size≠w3.heap.size:=by omega
  have U2:w3.heap.size≠w.heap.size:=by omega
  clear He kZ y6 y7 y8 Ht R2 tq su;obtain⟨W4,rJ⟩:=eY (w3.alloc (M #[R P,R P,I J er,R eu,R ed,I J ef] 70))
  have pI:Lw w3 W4:=by rw[rJ];exact zA (zR _) _
  have rR:T (Lw w W4):=zT rE.out pI;have R4:T (W4.heap[w.heap.size]?=_):=(pI.block _ mO).trans R3.out
  have E4:T (W4.cell? ⟨w3.heap.size,0,B⟩=V (R P)/\W4.cell? ⟨w3.heap.size,1,B⟩=V (R P)/\W4.cell? ⟨w3.heap.size,2,B⟩=V (I J er)/\W4.cell? ⟨w3.heap.size,3,B⟩=V (R eu)/\W4.cell? ⟨w3.heap.size,4,B⟩=V (R ed)/\W4.cell? ⟨w3.heap.size,5,B⟩=V (I J ef)):=by rw[T,rJ];simp[go_sem]
  have F4:T (∀i,W4.frozen? ⟨w3.heap.size,i,B⟩=Y):=fun i=>by rw[rJ];simp[go_sem]
  have gH:w.heap.size<W4.heap.size:=by have:=pI.size;omega
  have nI:b<W4.heap.size:=by have:=pI.size;omega
  have aS:w3.heap.size<W4.heap.size:=by rw[rJ];simp
  clear pI
  go_wp2_with fail
  rw[<-rJ];clear rJ;have z2:=N E4.out.2.2.1;have y2:=N (dK.out.grow rR.out).c2;have y3:=N (dK.out.grow rR.out).c3;have y4:=N (dK.out.grow rR.out).c4;simp only at y2 y3 y4;refine wp_region_quiet_below (by kernel_rfl) (by kernel_rfl) ?_
  repeat (first
   | go_big_quiet_step ((go_at_call 107;exact Calls.regrown_of (mZ _))))
  refine wpQuiet_nil ?_;intro _ sF;obtain⟨⟨gP,pK⟩,rfl⟩:=sF;have rD:=below_regrown W4 gP pK;have tT:T (Lw w (grow (redrawn W4 gP) pK)):=zT rR.out rD;have R5:T ((grow (redrawn W4 gP) pK).heap[w.heap.size]?=_):=(rD.block _ gH).trans R4.out;have E5:T _:=xC rD E4.out;have F5:T (∀i,(grow (redrawn W4 gP) pK).frozen? ⟨w3.heap.size,i,B⟩=Y):=fun i=>(rD.frozen (p:=⟨w3.heap.size,i,B⟩) aS).trans (F4.out i);have aW:w.heap.size<(grow (redrawn W4 gP) pK).heap.size:=Q gH rD.size;have Rw:b<(grow (redrawn W4 gP) pK).heap.size:=Q nI rD.size;have KD:w3.heap.size<(grow (redrawn W4 gP) pK).heap.size:=Q aS rD.size;clear rD z2 y2 y3 y4 E4 F4 mZ rR R4 gH nI aS rE R3 lN;generalize grow (redrawn W4 gP) pK=w5 at*;generalize w3.heap.size=Eb at*
 focus
  obtain⟨rfl,hE,hd⟩:=wy.out;have cZ:=dK.out.grow tT.out;have y3:=cZ.c3;have y7:=cZ.c7;simp only[OU.out]at y3 y7;obtain⟨z0,z1,z2,z3,z4,z5⟩:=E5.out;have EX:T (_/\_/\_/\_/\w5.cell? ⟨Eb,4,B⟩=V (R d')/\_):=⟨z0,z1,z2,z3,by rw[hd];exact z4,z5⟩;have aI:T (But (fun _=>False) w w5):=But.yhJ tT.out;have CU:T (zj w5 bm g0 g1 vb (Pg.Wo.fs S ⟨P,q,k,u,(tn:Int),lv,x⟩ (.done ⟨P,P,er,P,d',ef⟩ Y))):=aK.out.keep (F:=fun _=>False) aI.out (fun _ _=>id);have RX:T (w5.heap[w.heap.size]?=_):=R5.out
  have LY:w.heap.size<Eb:=by omega
  obtain⟨DX,Ps⟩:∃DX:Nat->Prop,DX=fun _=>False:=⟨_,rfl⟩;rw[<-Ps]at aI
  have Cy:T (∀j,DX j->xg bm g0 g1 vb j):=fun j e=>by rw[Ps]at e;exact e.elim
  clear Ps cZ hd wy
  have hE:ed=P\/(ed=Y/\(k !=1)=P):=by revert hE;cases ed<;>simp
  rcases hE with rfl|⟨rfl,dL⟩
  all_goals
   go_wp2_with fail
   clear z0 z1 z2 z3 z4 z5 y3 y7 E5 F5 R5 tT aW Rw KD wU hv OJ iA NH;obtain⟨SX,Lr⟩:∃SX,T (Pg.Wo.fs S ⟨P,q,k,u,(tn:Int),lv,x⟩ (.done ⟨P,P,er,P,d',ef⟩ Y)=SX):=⟨_,rfl⟩;rw[Lr.out]at CU;obtain⟨WX,rfl⟩:=eY (w5)
 rotate_left 2
 focus
  obtain⟨hE,hd⟩:=wy.out
  have hE:(eu=Y/\ed=P/\d'=P)\/(eu=Y/\ed=Y/\(k==1)=d')\/(eu=P/\ed=Y/\(k !=1)=Y/\(k==1)=P/\d'=P):=by
   revert hE hd
   cases eu <;> cases ed <;> simp (config := { maxSteps := 100000 }) [bne]
   all_goals intros;simp_all
  clear hd wy
  have hE:(eu=Y/\ed=P/\(k==1)=(k==1)/\T (d'=P))\/(eu=Y/\ed=Y/\(k==1)=d'/\T (d'=d'))\/(eu=P/\ed=Y/\((k !=1)=Y/\(k==1)=P)/\T (d'=P)):=by
   rcases hE with ⟨a,b,c⟩|⟨a,b,c⟩|⟨a,b,c,d,e⟩
   ·exact .inl ⟨a,b,rfl,c⟩
   ·exact .inr (.inl ⟨a,b,c,rfl⟩)
   ·exact .inr (.inr ⟨a,b,⟨c,d⟩,e⟩)
  rcases hE with ⟨rfl,rfl,dL,CJ⟩|⟨rfl,rfl,dL,CJ⟩|⟨rfl,rfl,dL,CJ⟩
  all_goals
   obtain⟨z0,z1,z2,z3,z4,z5⟩:=E5.out;have zf:=F5.out;have cZ:=dK.out.grow tT.out;have y3:=cZ.c3;have y7:=cZ.c7;simp only[OU.out]at y3 y7;clear cZ;obtain⟨W6,nS⟩:=eY (((w5.setCell ⟨Eb,3,B⟩ (R P)).setCell ⟨Eb,4,B⟩ (R d')))
   have LY:w.heap.size<Eb:=by omega
   have F8:Below w.heap.size w5 W6:=by
    have hE:w.heap.size<=Eb:=by omega
    rw[nS];exact((Below.refl _ w5).setCell hE _).setCell hE _
   have bN:T (Lw w W6):=tT.out.trans F8
   have E6:T (W6.cell? ⟨Eb,0,B⟩=V (R P)/\W6.cell? ⟨Eb,1,B⟩=V (R P)/\W6.cell? ⟨Eb,2,B⟩=V (I J er)/\W6.cell? ⟨Eb,3,B⟩=V (R P)/\W6.cell? ⟨Eb,4,B⟩=V (R d')/\W6.cell? ⟨Eb,5,B⟩=V (I J ef)):=by rw[T,nS];simp[go_sem,z0,z1,z2,z3,z4,z5]
   have R6:T (W6.heap[w.heap.size]?=V (M #[I J 0,I J 0,I J 0] 34 (0,0))):=by
    have I4:w.heap.size≠Eb:=by omega
    rw[nS,E _ _ _ _ I4,E _ _ _ _ I4];exact R5.out
   go_wp2_with fail
   first
    | rw[<-nS]
    | rw[CJ.out]at nS;rw[<-nS]
   clear dL CJ;clear nS z0 z1 z2 z3 z4 z5 zf y3 y7 F8 E5 F5 R5 tT aW Rw KD;have sS:=dK.out.grow bN.out;have uz:=aK.out.keep (F:=fun _=>False) (But.yhJ bN.out) (fun _ _=>id);have c0:=uz.raw.c0;have c1:=sS.c5;have c2:=sS.c2;have c3:=sS.c6;simp only at c2;have hlb6:=sS.lb;have hlm6:=uz.raw.lb;obtain⟨c4,c5,c6,c7,c8,c9⟩:=E6.out;have Pd:=zQ q (lv:Int);rw[Pg.yhY hq rQ,uR.out]at Pd;have IA:=aK.out.raw.l0;have U7:g0≠bm:=aK.out.raw.n0;have ng2:bm≠g0:=fun e=>U7 e.symm;have ng3:g0≠b:=fun e=>dh (.inr (.inl e.symm));have ng4:b≠g0:=fun e=>ng3 e.symm
   have ng5:g0≠Eb:=by omega
   have ng6:Eb≠g0:=by omega
   clear sS uz
   go_region_held3 (fun w'=>w'.cell? ⟨bm,0,B⟩=V (.slice (V ⟨g0,0,B⟩) S.n S.n)/\w'.cell? ⟨b,5,B⟩=V (I J (tn:Int))/\w'.cell? ⟨b,2,B⟩=V (I J q)/\w'.cell? ⟨b,6,B⟩=V (I J (lv:Int))/\w'.cell? ⟨Eb,0,B⟩=V (R P)/\w'.cell? ⟨Eb,1,B⟩=V (R P)/\w'.cell? ⟨Eb,2,B⟩=V (I J er)/\w'.cell? ⟨Eb,3,B⟩=V (R P)/\w'.cell? ⟨Eb,4,B⟩=V (R d')/\w'.cell? ⟨Eb,5,B⟩=V (I J ef)) (go_keep) (first
    | (go_at_call 108;refine(wU _).mono ?_;rintro en w8 ⟨rfl,sH⟩;have dQ:T (Lw w w8):=zT (zT bN.out pO.out) sH;have gJ:T _:=sH;have b0:=X gJ.out a0;have b1:=X gJ.out a1;have b2:=X gJ.out a2;have b3:=X gJ.out a3;have b4:=X gJ.out a4;have b5:=X gJ.out a5;have b6:=X gJ.out a6;have b7:=X gJ.out a7;have b8:=X gJ.out a8;have b9:=X gJ.out a9;have Sg:=aK.out.keep (F:=fun _=>False) (But.yhJ dQ.out) (fun _ _=>id);have gw:=Sg.raw.cw tn lH nL kK;have gf:=Sg.raw.f0;have gl:=Sg.raw.l0;clear Sg sH)
    | (go_at_call 104;refine(Pd _).mono ?_;rintro en w7 ⟨rfl,rZ⟩;have pO:T (Lw W6 w7):=(by first|exact zT (zR W6).drew rZ|exact rZ);have a0:=X pO.out c0;have a1:=X pO.out c1;have a2:=X pO.out c2;have a3:=X pO.out c3;have a4:=X pO.out c4;have a5:=X pO.out c5;have a6:=X pO.out c6;have a7:=X pO.out c7;have a8:=X pO.out c8;have a9:=X pO.out c9;clear rZ))
   go_wp2_with fail
   obtain⟨WX,S9⟩:=eY (w8.setCell ⟨g0,tn*8+lH,B⟩ (I yC v));rw[<-S9]
   have aI:T (But (fun j=>j=g0) w WX):=by rw[T,S9];exact(But.yhJ (F:=fun j=>j=g0) dQ.out).setCell (a:=⟨g0,tn*8+lH,B⟩) (.inr rfl) _
   have CU:T (zj WX bm g0 g1 vb (S.store (tn:Int) (lH:Int) v)):=by
    have Sg:=aK.out.keep (F:=fun _=>False) (But.yhJ dQ.out) (fun _ _=>id)
    have e3:S.store (tn:Int) (lH:Int) v={S with word:=Pg.Fs.put S.word tn lH v}:=by simp[Pg.Fs.store,OJ.out]
    refine⟨?_,Sg.ok.store (tn:Int) (lH:Int) hv.1 hv.2⟩;rw[e3,S9];exact Sg.raw.put nL kK v
   have MJ:WX.heap[Eb]?=w8.heap[Eb]?:=by rw[S9];exact E _ _ _ _ ng6
   have EX:T _:=yeh MJ ⟨b4,b5,b6,b7,b8,b9⟩;have Rm:w8.heap[w.heap.size]?=W6.heap[w.heap.size]?:=(gJ.out.block _ (Q (Z.1 R6.out).1 pO.out.size)).trans (pO.out.block _ (Z.1 R6.out).1)
   have RX:T (WX.heap[w.heap.size]?=V (M #[I J 0,I J 0,I J 0] 34 (0,0))):=by
    rw[T,S9,E _ _ _ _ (show w.heap.size≠g0 by omega)];exact Rm.trans R6.out
   obtain⟨SX,Kj⟩:=eY (S.store (tn:Int) (lH:Int) v);have Lr:T (Pg.Wo.fs S ⟨P,q,k,u,(tn:Int),lv,x⟩ (.done ⟨P,P,er,P,d',ef⟩ P)=SX):=NH.out.trans Kj.symm;rw[<-Kj]at CU;obtain⟨DX,Ps⟩:∃DX:Nat->Prop,DX=fun j=>j=g0:=⟨_,rfl⟩;rw[<-Ps]at aI
   have Cy:T (∀j,DX j->xg bm g0 g1 vb j):=fun j e=>by rw[Ps]at e;exact .inr (.inl e)
   clear Ps Kj NH;clear a0 a1 a2 a3 a4 a5 a6 a7 a8 a9 b0 b1 b2 b3 b4 b5 b6 b7 b8 b9 c0 c1 c2 c3 c4 c5 c6 c7 c8 c9 gw gf gl MJ Rm S9 pO gJ dQ bN E6 R6 wU Pd hv
 all_goals
  have oO:bl<w.heap.size:=qs.lb HL.out;have EQ:¬DX b:=fun e=>dh (Cy.out _ e);have ER:¬DX bl:=fun e=>uy (Cy.out _ e);have KS:=dK.out.keep aI.out EQ;have g0':=N EX.out.1;have g1':=N EX.out.2.1;have g2':=N EX.out.2.2.1;have g3':=N EX.out.2.2.2.1;have g4':=N EX.out.2.2.2.2.1;have g5':=N EX.out.2.2.2.2.2;have k2':=N KS.c2;have AC:=N KS.c6;simp only at k2' AC;clear KS;refine Loose.yiH 11 15 (M #[I J 0,I J 0,I J 0,I J 0] 39) _ (by kernel_rfl) (by kernel_rfl) rfl rfl rfl (by intro a w;simp[go_sem]) ?_;simp only[un,uc,ur,ua]
  repeat (
   refine Loose.zS (fun k hk=> ?_)
   go_simp
   first
    | (refine hk _ ?_;clear hk k)
    | (apply Exists.intro
       refine⟨fun _=> ?_,hk _ ?_⟩
       (go_at_call 72;exact Loose.calls (NY _))
       clear hk k))
  refine Loose.yhM ?_;intro bx w6 ru hbX hX
  have cb:w6.cell? ⟨bx,0,B⟩=V (I J 0)/\w6.cell? ⟨bx,1,B⟩=V (I J 0)/\w6.cell? ⟨bx,2,B⟩=V (I J 0)/\w6.cell? ⟨bx,3,B⟩=V (I J 0):=by
   simp[yR,hX]
  obtain⟨mE,mF,bi,l7⟩:=cb
  have fbx:∀i,w6.frozen? ⟨bx,i,B⟩=Y:=fun i=>by simp[yS,hX]
  have LV:Lw WX ((((w6.setCell ⟨bx,0,B⟩ (I J mp)).setCell ⟨bx,1,B⟩ (I J ms)).setCell ⟨bx,2,B⟩ (I J mf)).setCell ⟨bx,3,B⟩ (I J mr)):=zu ru _ hbX _ _ _ _
  have m4:((((w6.setCell ⟨bx,0,B⟩ (I J mp)).setCell ⟨bx,1,B⟩ (I J ms)).setCell ⟨bx,2,B⟩ (I J mf)).setCell ⟨bx,3,B⟩ (I J mr)).cell? ⟨bx,0,B⟩=V (I J mp)/\((((w6.setCell ⟨bx,0,B⟩ (I J mp)).setCell ⟨bx,1,B⟩ (I J ms)).setCell ⟨bx,2,B⟩ (I J mf)).setCell ⟨bx,3,B⟩ (I J mr)).cell? ⟨bx,1,B⟩=V (I J ms)/\((((w6.setCell ⟨bx,0,B⟩ (I J mp)).setCell ⟨bx,1,B⟩ (I J ms)).setCell ⟨bx,2,B⟩ (I J mf)).setCell ⟨bx,3,B⟩ (I J mr)).cell? ⟨bx,2,B⟩=V (I J mf)/\((((w6.setCell ⟨bx,0,B⟩ (I J mp)).setCell ⟨bx,1,B⟩ (I J ms)).setCell ⟨bx,2,B⟩ (I J mf)).setCell ⟨bx,3,B⟩ (I J mr)).cell? ⟨bx,3,B⟩=V (I J mr):=by simp[go_sem,mE,mF,bi,l7]
  have Ah:w.heap.size<=WX.heap.size:=aI.out.size
  have nbx:bx≠bl:=by omega
  have Nj:bl≠bx:=by omega
  have d4:=ru.cell (p:=⟨Eb,4,B⟩) (H _ _ EX.out.2.2.2.2.1);have Ey:=d4.trans EX.out.2.2.2.2.1
  have Co:Eb≠bx:=by have:=H _ _ EX.out.1;simp only at this;omega
  have mEx:bx≠Eb:=fun e=>Co e.symm
  have nEl:Eb≠bl:=by omega
  have mEl:bl≠Eb:=by omega
  have EY:=HL.out.of (w':=WX) fun p=>aI.out.cell (a:=⟨bl,p,B⟩) oO ER;have hL6:=EY.below ru (Q oO Ah);have lf6:∀i,w6.frozen? ⟨bl,i,B⟩=Y:=fun i=>(ru.frozen (p:=⟨bl,i,B⟩) (Q oO Ah)).trans ((aI.out.frozen (a:=⟨bl,i,B⟩) oO ER).trans (WJ.out i));obtain⟨l0,l1,l2,l3,l4⟩:=hL6;simp only[Nat.zero_add]at l1 l2 l3 l4;generalize bR:((((w6.setCell ⟨bx,0,B⟩ (I J mp)).setCell ⟨bx,1,B⟩ (I J ms)).setCell ⟨bx,2,B⟩ (I J mf)).setCell ⟨bx,3,B⟩ (I J mr))=W7 at*;have pO:T _:=LV;have M4:T _:=m4;obtain⟨W8,Ms⟩:=eY ((((((W7.setCell ⟨bl,0,B⟩ (I J mp)).setCell ⟨bl,1,B⟩ (I J ms)).setCell ⟨bl,2,B⟩ (I J mf)).setCell ⟨bl,3,B⟩ (I J mr)).setCell ⟨bl,4,B⟩ (R d')))
  have Tf:But (fun j=>j=bl) W7 W8:=by rw[Ms];exact(vw (F:=fun j=>j=bl) (But.refl _ W7) bl (.inr rfl) _ _ _ _).setCell (a:=⟨bl,4,B⟩) (.inr rfl) _
  have Ru:W7.heap[bl]?=w6.heap[bl]?:=by rw[<-bR,E _ _ _ _ Nj,E _ _ _ _ Nj,E _ _ _ _ Nj,E _ _ _ _ Nj]
  have t0:=(U (a:=⟨bl,0,B⟩) Ru).trans l0;have t1:=(U (a:=⟨bl,1,B⟩) Ru).trans l1;have t2:=(U (a:=⟨bl,2,B⟩) Ru).trans l2;have t3:=(U (a:=⟨bl,3,B⟩) Ru).trans l3;have t4:=(U (a:=⟨bl,4,B⟩) Ru).trans l4
  have L8:T (qs W8 bl 0 ⟨⟨mp,ms,mf,mr⟩,d'⟩):=by
   rw[T,Ms]
   refine⟨?_,?_,?_,?_,?_⟩<;>simp[go_sem,t0,t1,t2,t3,t4]
  have Nv:T (But (fun j=>j=bl) WX W8):=(But.yhJ (F:=fun j=>j=bl) LV).trans Tf (fun _ _ h=>h)
  have M8:T (W8.cell? ⟨bx,0,B⟩=V (I J mp)/\W8.cell? ⟨bx,1,B⟩=V (I J ms)/\W8.cell? ⟨bx,2,B⟩=V (I J mf)/\W8.cell? ⟨bx,3,B⟩=V (I J mr)):=by
   have hk:W8.heap[bx]?=W7.heap[bx]?:=Tf.block bx (H _ _ m4.1) nbx;exact⟨(U hk).trans m4.1,(U hk).trans m4.2.1,(U hk).trans m4.2.2.1,(U hk).trans m4.2.2.2⟩
  have tf:∀i,W7.frozen? ⟨bl,i,B⟩=Y:=fun i=>(World.frozen?_of_block (a:=⟨bl,i,B⟩) Ru).trans (lf6 i)
  have d7:W7.cell? ⟨Eb,4,B⟩=V (R d'):=by
   have MJ:W7.heap[Eb]?=w6.heap[Eb]?:=by rw[<-bR,E _ _ _ _ Co,E _ _ _ _ Co,E _ _ _ _ Co,E _ _ _ _ Co]
   exact(U (a:=⟨Eb,4,B⟩) MJ).trans Ey
  obtain⟨p0,p1,p2,p3⟩:=m4;clear Ru Tf LV d4 EY g0' g1' g2' g3' g4' g5' k2' AC hX
  go_wp2_with fail
  rw[<-Ms];clear bR Ms t0 t1 t2 t3 t4 tf d7 p0 p1 p2 p3 mE mF bi l7 fbx Ey l0 l1 l2 l3 l4 lf6;have H8:T (But (fun j=>DX j\/j=bl) w W8):=(aI.out.mono (fun _ _ h=> .inl h)).trans Nv.out (fun _ _ h=> .inr h)
  have PE:¬(DX b\/b=bl):=by rintro (h|h);exact EQ h;exact rV h
  have uu:=dK.out.keep H8.out PE;have q0':=N M8.out.1;have q1':=N M8.out.2.1;have q2':=N M8.out.2.2.1;have q3':=N M8.out.2.2.2;have k2':=N uu.c2;have AA:=N uu.c3;have AB:=N uu.c4;simp only at k2' AA AB;clear uu;refine Loose.wp_region_late2 7 8 11 (by kernel_rfl) (by kernel_rfl) ?_;simp only[un,uc,ur,ua]
  repeat (
   refine Loose.zS (fun k hk=> ?_)
   go_simp
   first
    | (refine hk _ ?_;clear hk k)
    | (apply Exists.intro
       refine⟨fun _=> ?_,hk _ ?_⟩
       (go_at_call 84;exact Loose.calls (lI _))
       clear hk k))
  refine Loose.yhM ?_;intro aG df;have DT:T (But (fun j=>j=bl) WX aG):=Nv.out.trans (But.yhJ (F:=fun j=>j=bl) df) (fun _ _ h=>h);have LF:T (qs aG bl 0 ⟨⟨mp,ms,mf,mr⟩,d'⟩):=qs.below L8.out df (qs.lb L8.out);clear q0' q1' q2' q3' k2' AA AB df lI L8 M8 Nv H8;have TN:T (But (fun j=>DX j\/j=bl) w aG):=(aI.out.mono (fun _ _ h=> .inl h)).trans DT.out (fun _ _ h=> .inr h);have HE:=ybg aa af ar aG ⟨_,_,_,dK.out.keep TN.out PE⟩
  go_wp2_with fail
  refine HE.mono ?_;rintro e lV ⟨rfl,nZ,fu⟩;have Pe:T (qN lV b Pg.Wk.off):=nZ;have DU:T (But (fun j=>j=bl\/j=b) WX lV):=(DT.out.mono (fun _ _ h=> .inl h)).trans fu.but (fun _ _ h=> .inr h);have eQ:T (Ch8 b 1 (fun j=>j=b\/j=bl\/xg bm g0 g1 vb j) w lV):=((Ch8.yl9 (o:=1) TN.out hl PE).mono (G:=fun j=>j=b\/j=bl\/xg bm g0 g1 vb j) (fun _ _ h=>h.elim (fun h=> .inr (.inr (Cy.out _ h))) (fun h=> .inr (.inl h)))).trans fu (fun _ _ h=> .inl h);have O9:T (qs lV bl 0 ⟨⟨mp,ms,mf,mr⟩,d'⟩):=LF.out.of fun p=>fu.but.cell (a:=⟨bl,p,B⟩) (qs.lb LF.out) (fun e=>rV e.symm);have SF:T (lV.heap[w.heap.size]?=_):=(DU.out.block _ (Z.1 RX.out).1 (by rintro (h|h);omega;exact tZ h)).trans RX.out;clear nZ fu HE LF DT TN
  go_wp2_with fail
  repeat (
   refine Loose.zS (fun k hk=> ?_)
   go_simp
   (refine hk _ ?_;clear hk k))
  refine Loose.yhM ?_;intro DJ bv;have NS:T _:=Pe.out.of_block (bv.block b Pe.out.lb);have Cz:T (But (fun j=>j=bl\/j=b) WX DJ):=DU.out.trans (But.yhJ (F:=fun j=>j=bl\/j=b) bv) (fun _ _ h=>h);have Ny:T (Ch8 b 1 (fun j=>j=b\/j=bl\/xg bm g0 g1 vb j) w DJ):=eQ.out.trans (Ch8.yhJ (F:=fun j=>j=b\/j=bl\/xg bm g0 g1 vb j) bv Pe.out.lb) (fun _ _ h=>h);have Ea:T (qs DJ bl 0 ⟨⟨mp,ms,mf,mr⟩,d'⟩):=qs.below O9.out bv (qs.lb O9.out);have R12:T (DJ.heap[w.heap.size]?=_):=(bv.block _ (Z.1 SF.out).1).trans SF.out;obtain⟨⟨x0,x1,x2⟩,xf⟩:=yc5 R12.out;have HF:T _:=yfu tZ (ud _) ⟨NS.out,Ny.out⟩ (I J aa) (I J af) (I J ar);have Px:=ybf (F:=fun j=>j=w.heap.size) (But.refl _ DJ) w.heap.size (.inr rfl) (I J aa) (I J af) (I J ar);have NT:T _:=Ea.out.of fun p=>Px.cell (a:=⟨bl,p,B⟩) (qs.lb Ea.out) (show ¬bl=w.heap.size by omega)
  have N7:T _:=CU.out.keep (Cz.out.mono (G:=fun j=>j=bl\/j=b\/j=w.heap.size) (fun _ _ h=>h.elim .inl (fun h=> .inr (.inl h)))|>.trans Px (fun _ _ h=> .inr (.inr h))) (by
   rintro j hj (h|h|h)
   ·exact uy (h▸hj)
   ·exact dh (h▸hj)
   ·have:=aK.out.raw.lt hj;omega)
  clear Px bv
  go_wp2
  refine O (v:=y #[kp #[I J aa,I J af,I J ar],R P,I J 0]) ?_ rfl ⟨by rw[FK.out];rfl,HF.out.1,by rw[Lr.out];exact N7.out,by rw[FK.out];exact NT.out,HF.out.2⟩;simp[results,Tryz.results57,go_sem,x0,x1,x2]
theorem ydu {bm bl:Nat} {K:Pg.Wk} (ho:K.on=Y) (w:A) (h:qN w b K):
 ue kO 57 #[D (V ⟨b,0,B⟩),D (V ⟨bm,0,B⟩),I J root,D (V ⟨bl,0,B⟩)] w fun e w'=>e=z (y #[kp #[I J 0,I J 0,I J 0],R Y,I J 9])/\Lw w w':=by
 obtain⟨t,lv,x,h⟩:=h;have c1:=h.c1;have hl:=h.lb
 have Ho:b≠w.heap.size:=by omega
 rw[ho]at c1;clear h ho
 go_enter Tryz.func57,Tryz.ntmps57
 go_wp2
 refine O (v:=y #[kp #[I J 0,I J 0,I J 0],R Y,I J 9]) ?_ rfl ⟨rfl,zA (zR _) _⟩;simp[results,Tryz.results57,go_sem]
theorem yex {bm g0 g1 bl:Nat} {vb:yJ} {S:Pg.Fs} {K:Pg.Wk} (ok:K.Ok) (w:A) (h:qN w b K) (hm:zj w bm g0 g1 vb S) (hL:qs w bl 0 ⟨⟨0,0,0,0⟩,Y⟩) (Pv:∀p,w.frozen? ⟨bl,p,B⟩=Y) (dh:¬xg bm g0 g1 vb b) (uy:¬xg bm g0 g1 vb bl) (rV:b≠bl):
 ue kO 57 #[D (V ⟨b,0,B⟩),D (V ⟨bm,0,B⟩),I J root,D (V ⟨bl,0,B⟩)] w fun e w'=>yam w b bm g0 g1 bl vb S K (Pg.kOut S root K) e w':=by
 cases ho:K.on
 ·have e:Pg.kOut S root K= .code 9:=by simp[Pg.kOut,ho]
  rw[e];refine(ydu ho w h).mono ?_;rintro e w' ⟨rfl,hb⟩;exact yam.plain hm hL dh rV rfl ⟨rfl,rfl⟩ ⟨rfl,h.of_block (hb.block b h.lb),Ch8.yhJ hb h.lb⟩
 ·obtain⟨t0,lv0,xw,h⟩:=h
  obtain⟨on,q,k,u,t,lv,x⟩:=K;simp only at ho;subst ho;obtain⟨e1,e2⟩:=h.at' rfl;simp only at e1 e2;subst e1 e2;have hq:=ok.page rfl;have rQ:=ok.lv;simp only at hq rQ;have pl:∀(out:Pg.Wo) (e:Ending) (w':A),out.fs S ⟨P,q,k,u,t0,lv,x⟩=S->((out.res ⟨P,q,k,u,t0,lv,x⟩).m=⟨0,0,0,0⟩/\(out.res ⟨P,q,k,u,t0,lv,x⟩).d=Y)->_->yam w b bm g0 g1 bl vb S ⟨P,q,k,u,t0,lv,x⟩ out e w':=fun out e w' hf h0 h=>yam.plain hm hL dh rV hf h0 h
  by_cases hx:x=0
  ·subst hx
   have Hw:=Pg.yly S root q k u t0 lv;rw[show Pg.kOut S root (Pg.Wk.at' q k u t0 lv 0)=Pg.kOut S root ⟨P,q,k,u,t0,lv,0⟩from rfl]at Hw;cases hh:S.has t0
   ·have kS:Pg.yhR S t0 (Pg.ix q lv) lv=12:=by simp[Pg.yhR,hh]
    rw[kS,iP (by decide)]at Hw;rw[Hw];exact(yaN hq rQ w h hm hh).mono fun e w' h=>pl _ _ _ rfl ⟨rfl,rfl⟩ h
   ·cases he:Pg.rEn S t0 (Pg.ix q lv) lv with
    | mk et el er eu ed ef=>
    have small:=fun oc (hA:_) (hk:Pg.kOut S root ⟨P,q,k,u,t0,lv,0⟩=oc)=>hk▸ycD (root:=root) (oc:=oc) hq rQ w h hm hL dh rV hh rfl he hA
    by_cases hc:Pg.yhR S t0 (Pg.ix q lv) lv=0
    ·rw[iN (by simpa using hc)]at Hw
     have Hu:=fun h=>Pg.yib (S:=S) (t:=t0) (i:=Pg.ix q lv) (lv:=lv) h
     have lF:(Pg.rEn S t0 (Pg.ix q lv) lv).t=P->S.word t0.toNat (Pg.ix q lv)≠0:=fun ht e=>by
      rw[(Pg.yik (i:=Pg.ix q lv) (lv:=lv) hh).2,e]at ht;simp[Pg.En.of,Pg.yhZ]at ht
     rw[he]at Hw Hu lF;simp only[Pg.En.on]at Hw Hu lF;cases et
     ·rw[iP rfl]at Hw
      exact small _ (.inr ⟨hc,.inl ⟨rfl,rfl⟩⟩) Hw
     ·rw[iN (by decide)]at Hw
      have lF:=lF rfl;cases el
      ·rw[iP rfl]at Hw
       obtain⟨m,kQ⟩:=Hu rfl
       have Sd:lv-1=m:=by omega
       rw[Sd]at Hw;exact small _ (.inr ⟨hc,.inr ⟨rfl,.inl ⟨rfl,m,by omega,by omega,rfl⟩⟩⟩) Hw
      ·rw[iN (by decide)]at Hw
       cases pU:Pg.may er k u
       ·rw[iP pU]at Hw
        exact small _ (.inr ⟨hc,.inr ⟨rfl,.inr ⟨rfl,.inl ⟨pU,rfl⟩⟩⟩⟩) Hw
       ·rw[iN (by simp[pU])]at Hw
        cases hr:(Pg.Wk.at' q k u t0 lv 0).ready ⟨P,P,er,eu,ed,ef⟩
        ·rw[iP hr]at Hw
         simp only[Pg.Wk.ready,Pg.Wk.at']at hr
         exact small _ (.inr ⟨hc,.inr ⟨rfl,.inr ⟨rfl,.inr ⟨pU,lF,by revert hr;cases eu<;>cases ed<;>simp,rfl⟩⟩⟩⟩) Hw
        ·rw[iN (by simp[hr])]at Hw
         rw[Hw];simp only[Pg.Wk.ready,Pg.Wk.at',yN]at hr;obtain⟨rfl,h2⟩:=hr;exact yaM hq rQ w h hm hL Pv dh uy rV pU hh hc he (by simp) (fun e=>by cases e) (.inl ⟨rfl,rfl,h2,rfl⟩)
    ·rw[iP hc]at Hw
     exact small _ (.inl ⟨by simpa using hc,rfl⟩) Hw
  ·obtain⟨_,_,Ir,hlf,pU,MZ⟩:=ok.leaf hx
   simp only at Ir hlf pU MZ;cases hh:S.has t0
   ·have e:Pg.kOut S root ⟨P,q,k,u,t0,lv,x⟩= .code 12:=by simp[Pg.kOut,hh]
    rw[e];exact(yaN hq rQ w h hm hh).mono fun e w' h=>pl _ _ _ rfl ⟨rfl,rfl⟩ h
   ·by_cases hw:S.word t0.toNat (Pg.ix q lv)=x
    ·have e:Pg.kOut S root ⟨P,q,k,u,t0,lv,x⟩= .done (Pg.Wk.mark ⟨P,q,k,u,t0,lv,x⟩ (Pg.En.of x lv)) P:=Pg.ylH hx hh hw
     rw[e];obtain⟨r1,r2⟩:=Pg.yik (i:=Pg.ix q lv) (lv:=lv) hh;rw[hw]at r1 r2;rw[Ir]at r1
     have ht:(Pg.En.of x lv).t=P:=by
      have:=(Pg.yh6 hm.ok (t:=t0) (i:=Pg.ix q lv) (lv:=lv) (by rw[r2];exact hlf)).2.1
      rwa [r2]at this
     cases he:Pg.En.of x lv with
     | mk et el er eu ed ef=>
     rw[he]at r2 hlf pU MZ ht;simp only at hlf pU ht;subst hlf ht;simp only[Pg.Wk.ready]at MZ;simp only[Pg.Wk.mark];exact yaM hq rQ w h hm hL Pv dh uy rV pU hh r1 r2 (by simpa using hx) (fun _=>hw.trans (h.wd hx).symm) (.inr ⟨rfl,MZ,rfl⟩)
    ·have e:Pg.kOut S root ⟨P,q,k,u,t0,lv,x⟩= .go (Pg.Wk.again root ⟨P,q,k,u,t0,lv,x⟩):=by
      unfold Pg.kOut;rw[iN (by simp),iN (by simp[hh]),iP hx,iN (show ¬Pg.Wk.word S ⟨P,q,k,u,t0,lv,x⟩=x from hw)]
     rw[e];exact(ycC hq rQ w h hm hh hx hw).mono fun e w' h=>pl _ _ _ rfl ⟨rfl,rfl⟩ h
end
structure ji (w:A) (b:Nat) (vb:yJ) (C:Pg.Cr):Prop where
 co:vl w b vb C.L
 ck:qN w b C.K
 ok:C.K.Ok
theorem qN.fb {w:A} {b:Nat} {K:Pg.Wk} (h:qN w b K):∀p,w.frozen? ⟨b,p,B⟩=Y:=by
 obtain⟨t,lv,x,h⟩:=h;exact h.fb
theorem vl.walked {w w':A} {b:Nat} {vb:yJ} {L:List Pg.Ln} {K:Pg.Wk} {G:Nat->Prop} (h:vl w b vb L) (hk:qN w' b K) (hc:Ch8 b 1 G w w') (hG:∀k,vb.ownBlock=V k->¬G k):vl w' b vb L:=
 ⟨(hc.oth 0 (.inl (by decide))).trans h.c0,hk.fb,h.row.but hc.but hG,h.nb,h.kept⟩
theorem qN.kept {w w':A} {b:Nat} {vb:yJ} {L:List Pg.Ln} {K:Pg.Wk} {G:Nat->Prop} (h:qN w b K) (hk:vl w' b vb L) (hc:Chg b 0 G w w'):qN w' b K:=by
 obtain⟨t,lv,x,h⟩:=h;exact⟨t,lv,x,(hc.oth 1 (by decide)).trans h.c1,(hc.oth 2 (by decide)).trans h.c2,(hc.oth 3 (by decide)).trans h.c3,(hc.oth 4 (by decide)).trans h.c4,(hc.oth 5 (by decide)).trans h.c5,(hc.oth 6 (by decide)).trans h.c6,(hc.oth 7 (by decide)).trans h.c7,(hc.oth 8 (by decide)).trans h.c8,hk.fb,h.at',h.wd⟩
namespace ji
variable {w w':A} {b:Nat} {vb vb':yJ} {C:Pg.Cr} {G:Nat->Prop}
theorem lb (h:ji w b vb C):b<w.heap.size:=h.co.lb
theorem lt (h:ji w b vb C) {k:Nat} (hk:bkF b vb k):k<w.heap.size:=h.co.lt hk
theorem keep (h:ji w b vb C) (hb:But G w w') (hG:∀k,bkF b vb k->¬G k):ji w' b vb C:=⟨h.co.keep hb hG,h.ck.of_block (hb.block b h.lb (hG b (.inl rfl))),h.ok⟩
theorem grow (h:ji w b vb C) (hb:Lw w w'):ji w' b vb C:=h.keep (G:=fun _=>False) (But.yhJ hb) (fun _ _=>id)
theorem ykL {K':Pg.Wk} (h:ji w b vb C) (hk:qN w' b K') (ok:K'.Ok) (hc:Ch8 b 1 G w w') (hG:∀k,vb.ownBlock=V k->¬G k):ji w' b vb ⟨C.L,K'⟩:=⟨h.co.walked hk hc hG,hk,ok⟩
theorem yme {L':List Pg.Ln} (h:ji w b vb C) (hk:vl w' b vb' L') (hc:Chg b 0 G w w'):ji w' b vb' ⟨L',C.K⟩:=⟨hk,h.ck.kept hk hc,h.ok⟩
end ji
theorem xI {w w1:A} (h:Lw w w1) (r:Nat) (hr:w.heap.size<=r) (x0 x1 x2:yJ):Lw w (((w1.setCell ⟨r,0,B⟩ x0).setCell ⟨r,1,B⟩ x1).setCell ⟨r,2,B⟩ x2):=
 ((h.setCell (p:=⟨r,0,B⟩) hr x0).setCell (p:=⟨r,1,B⟩) hr x1).setCell (p:=⟨r,2,B⟩) hr x2
section
variable {b:Nat} {root:Int} {C:Pg.Cr} {vb:yJ}
theorem ycF (q k:Int) (u:Bool) (hc:Pg.zK q k≠0) (w:A) (h:ji w b vb C):
 ue kO 56 #[D (V ⟨b,0,B⟩),I J root,kp #[I J q,I J k,R u]] w fun e w'=>e=z (Pg.Tl.code (Pg.zK q k)).val/\Lw w w':=by
 obtain⟨W,hW⟩:=eY ((w.alloc (M #[I J q,I J k,R u] 41)).alloc (M #[I J 0,I J 0,I J 0] 34))
 have rH:Lw w W:=by rw[hW];exact zA (zA (zR w) _) _
 have A3:T (W.cell? ⟨w.heap.size,0,B⟩=V (I J q)/\W.cell? ⟨w.heap.size,1,B⟩=V (I J k)/\W.cell? ⟨w.heap.size,2,B⟩=V (R u)):=by rw[T,hW];simp[go_sem]
 have R3:T (W.heap[w.heap.size+1]?=V (M #[I J 0,I J 0,I J 0] 34 (0,0))):=by
  rw[T,hW];exact(by simp:(w.alloc (M #[I J q,I J k,R u] 41)).heap.size=w.heap.size+1)▸ki _ _
 have hl:=h.lb;have HW:T _:=h.grow rH;have pg:T _:=rH;have fO:=zJ q k u W
 have Ho:b≠w.heap.size:=by omega
 have Cn:w.heap.size≠b:=by omega
 have tZ:¬w.heap.size+1=b:=by omega
 have uC:w.heap.size+1<W.heap.size:=by rw[hW];simp
 have HX:T _:=h
 have Tt:(Pg.zK q k !=0)=P:=by simpa using hc
 generalize Pg.zK q k=c at*;simp only[Pg.Tl.code,Pg.Tl.val];clear h rH
 go_enter Tryz.func56,Tryz.ntmps56
 go_wp2_with fail
 rw[<-hW];refine fO.mono ?_;rintro e w1 ⟨rfl,Ha⟩;have P1:T _:=HW.out.grow Ha;have ry:T (Lw w w1):=zT pg.out Ha;have R1:T (w1.heap[w.heap.size+1]?=V (M #[I J 0,I J 0,I J 0] 34 (0,0))):=(Ha.block _ uC).trans R3.out;have sO:w.heap.size+1<w1.heap.size:=Q uC Ha.size;have A1:T _:=qc Ha A3.out;clear Ha fO HW pg A3 hW R3;obtain⟨⟨x0,x1,x2⟩,xf⟩:=yc5 R1.out
 go_wp2
 refine O (v:=y #[kp #[I J 0,I J 0,I J 0],R Y,I J c]) ?_ rfl ⟨rfl,xI ry.out _ (yI _) _ _ _⟩;simp[results,Tryz.results56,go_sem,x0,x1,x2]
theorem ybM (q k:Int) (u:Bool) (hc:Pg.zK q k=0) (ho:C.K.on=P) (w:A) (h:ji w b vb C):
 ue kO 56 #[D (V ⟨b,0,B⟩),I J root,kp #[I J q,I J k,R u]] w fun e w'=>e=z (Pg.Tl.code 8).val/\Lw w w':=by
 obtain⟨W,hW⟩:=eY ((w.alloc (M #[I J q,I J k,R u] 41)).alloc (M #[I J 0,I J 0,I J 0] 34))
 have rH:Lw w W:=by rw[hW];exact zA (zA (zR w) _) _
 have A3:T (W.cell? ⟨w.heap.size,0,B⟩=V (I J q)/\W.cell? ⟨w.heap.size,1,B⟩=V (I J k)/\W.cell? ⟨w.heap.size,2,B⟩=V (R u)):=by rw[T,hW];simp[go_sem]
 have R3:T (W.heap[w.heap.size+1]?=V (M #[I J 0,I J 0,I J 0] 34 (0,0))):=by
  rw[T,hW];exact(by simp:(w.alloc (M #[I J q,I J k,R u] 41)).heap.size=w.heap.size+1)▸ki _ _
 have hl:=h.lb;have HW:T _:=h.grow rH;have pg:T _:=rH;have fO:=zJ q k u W
 have Ho:b≠w.heap.size:=by omega
 have Cn:w.heap.size≠b:=by omega
 have tZ:¬w.heap.size+1=b:=by omega
 have uC:w.heap.size+1<W.heap.size:=by rw[hW];simp
 have HX:T _:=h;rw[hc]at fO;simp only[Pg.Tl.code,Pg.Tl.val];clear h rH
 go_enter Tryz.func56,Tryz.ntmps56
 go_wp2_with fail
 rw[<-hW];refine fO.mono ?_;rintro e w1 ⟨rfl,Ha⟩;have P1:T _:=HW.out.grow Ha;have ry:T (Lw w w1):=zT pg.out Ha;have R1:T (w1.heap[w.heap.size+1]?=V (M #[I J 0,I J 0,I J 0] 34 (0,0))):=(Ha.block _ uC).trans R3.out;have sO:w.heap.size+1<w1.heap.size:=Q uC Ha.size;have A1:T _:=qc Ha A3.out;clear Ha fO HW pg A3 hW R3;obtain⟨⟨x0,x1,x2⟩,xf⟩:=yc5 R1.out;obtain⟨t8,DI,x8,pR⟩:=P1.out.ck;have c1:=pR.c1;rw[ho]at c1;clear pR ho hc
 go_wp2
 refine O (v:=y #[kp #[I J 0,I J 0,I J 0],R Y,I J 8]) ?_ rfl ⟨rfl,xI ry.out _ (yI _) _ _ _⟩;simp[results,Tryz.results56,go_sem,x0,x1,x2]
theorem ybN (q k:Int) (u:Bool) (hc:Pg.zK q k=0) (ho:C.K.on=Y) (hn:Pg.kFnd C.L q=B) (w:A) (h:ji w b vb C):
 ue kO 56 #[D (V ⟨b,0,B⟩),I J root,kp #[I J q,I J k,R u]] w fun e w'=>e=z (Pg.Tl.code 0).val/\ji w' b vb ⟨C.L,Pg.Wk.start root q k u⟩/\But (fun j=>j=b) w w':=by
 obtain⟨W,hW⟩:=eY ((w.alloc (M #[I J q,I J k,R u] 41)).alloc (M #[I J 0,I J 0,I J 0] 34))
 have rH:Lw w W:=by rw[hW];exact zA (zA (zR w) _) _
 have A3:T (W.cell? ⟨w.heap.size,0,B⟩=V (I J q)/\W.cell? ⟨w.heap.size,1,B⟩=V (I J k)/\W.cell? ⟨w.heap.size,2,B⟩=V (R u)):=by rw[T,hW];simp[go_sem]
 have R3:T (W.heap[w.heap.size+1]?=V (M #[I J 0,I J 0,I J 0] 34 (0,0))):=by
  rw[T,hW];exact(by simp:(w.alloc (M #[I J q,I J k,R u] 41)).heap.size=w.heap.size+1)▸ki _ _
 have hl:=h.lb;have HW:T _:=h.grow rH;have pg:T _:=rH;have fO:=zJ q k u W
 have Ho:b≠w.heap.size:=by omega
 have Cn:w.heap.size≠b:=by omega
 have tZ:¬w.heap.size+1=b:=by omega
 have uC:w.heap.size+1<W.heap.size:=by rw[hW];simp
 have HX:T _:=h;have CX:T _:=h.ok.idle ho;have lK:T _:=Pg.Wk.yjc (root:=root) (k:=k) (u:=u) (Pg.yh8 hc);have HQ:T _:=Pg.yim hc;rw[hc]at fO
 have mg:Pg.yjz C.L q= -1:=by simp only[Pg.yjz,hn]
 simp only[Pg.Tl.code,Pg.Tl.val];clear h rH
 go_enter Tryz.func56,Tryz.ntmps56
 go_wp2_with fail
 rw[<-hW];refine fO.mono ?_;rintro e w1 ⟨rfl,Ha⟩;have P1:T _:=HW.out.grow Ha;have ry:T (Lw w w1):=zT pg.out Ha;have R1:T (w1.heap[w.heap.size+1]?=V (M #[I J 0,I J 0,I J 0] 34 (0,0))):=(Ha.block _ uC).trans R3.out;have sO:w.heap.size+1<w1.heap.size:=Q uC Ha.size;have A1:T _:=qc Ha A3.out;clear Ha fO HW pg A3 hW R3;obtain⟨z0,z1,z2⟩:=A1.out;obtain⟨t8,DI,x8,pR⟩:=P1.out.ck;have c1:=pR.c1;rw[ho]at c1;have il:=jQ q HQ.out w1 P1.out.co;rw[mg]at il;clear pR mg ho hc
 go_wp2_with fail
 refine il.mono ?_;rintro e w2 ⟨rfl,Hd⟩;have P2:T _:=P1.out.grow Hd;have Ht:T (Lw w w2):=zT ry.out Hd;have R2:T (w2.heap[w.heap.size+1]?=V (M #[I J 0,I J 0,I J 0] 34 (0,0))):=(Hd.block _ sO).trans R1.out;have tq:w.heap.size+1<w2.heap.size:=Q sO Hd.size;have A2:T _:=qc Hd A1.out;clear Hd il P1 ry R1 A1 sO z0 z1 z2 c1;obtain⟨t8,DI,x8,pR⟩:=P2.out.ck;rw[CX.out]at pR;have HF:T _:=pR.begun q k u;have d1:=pR.c1;have d2:=pR.c2;have d3:=pR.c3;have d4:=pR.c4;have fb:=pR.fb;simp only[Pg.Wk.off]at d1 d2 d3 d4;obtain⟨z0,z1,z2⟩:=A2.out;have Bj:=H _ _ z0;simp only at Bj;clear pR
 go_wp2_with fail
 go_region
 have HA:=vF (root:=root) _ HF.out.1.drew
 go_wp2_with fail
 refine HA.mono ?_;rintro e w9 ⟨rfl,mI,dW⟩;have uP:T (Ch8 b 1 (fun j=>j=b) w w9):=(Ch8.yhJ Ht.out hl).trans (HF.out.2.drew.trans dW (fun _ _ h=>h)) (fun _ _ h=>h);have R9:=((HF.out.2.drew.trans dW (fun _ _ h=>h)).but.block _ tq tZ).trans R2.out;obtain⟨⟨x0,x1,x2⟩,xf⟩:=yc5 R9;have dw:T _:=yfu tZ (yI _) ⟨mI,uP.out⟩ (I J 0) (I J 0) (I J 0);clear mI dW HA z0 z1 z2 d1 d2 d3 d4 fb R9
 go_wp2
 refine O (v:=y #[kp #[I J 0,I J 0,I J 0],R Y,I J 0]) ?_ rfl ⟨rfl,HX.out.ykL dw.out.1 lK.out dw.out.2 (fun k hk e=>HX.out.co.nb (e▸hk)),dw.out.2.but⟩;simp[results,Tryz.results56,go_sem,x0,x1,x2]
theorem ybh (q k:Int) (u:Bool) (hc:Pg.zK q k=0) (ho:C.K.on=Y) {j:Nat} (hn:Pg.kFnd C.L q=V j) (bK:(Pg.kAt C.L q).wants k u=P) (w:A) (h:ji w b vb C):
 ue kO 56 #[D (V ⟨b,0,B⟩),I J root,kp #[I J q,I J k,R u]] w fun e w'=>e=z (Pg.Tl.code 0).val/\ji w' b vb ⟨C.L,Pg.Wk.start root q k u⟩/\But (fun j=>j=b) w w':=by
 obtain⟨W,hW⟩:=eY ((w.alloc (M #[I J q,I J k,R u] 41)).alloc (M #[I J 0,I J 0,I J 0] 34))
 have rH:Lw w W:=by rw[hW];exact zA (zA (zR w) _) _
 have A3:T (W.cell? ⟨w.heap.size,0,B⟩=V (I J q)/\W.cell? ⟨w.heap.size,1,B⟩=V (I J k)/\W.cell? ⟨w.heap.size,2,B⟩=V (R u)):=by rw[T,hW];simp[go_sem]
 have R3:T (W.heap[w.heap.size+1]?=V (M #[I J 0,I J 0,I J 0] 34 (0,0))):=by
  rw[T,hW];exact(by simp:(w.alloc (M #[I J q,I J k,R u] 41)).heap.size=w.heap.size+1)▸ki _ _
 have hl:=h.lb;have HW:T _:=h.grow rH;have pg:T _:=rH;have fO:=zJ q k u W
 have Ho:b≠w.heap.size:=by omega
 have Cn:w.heap.size≠b:=by omega
 have tZ:¬w.heap.size+1=b:=by omega
 have uC:w.heap.size+1<W.heap.size:=by rw[hW];simp
 have HX:T _:=h;have CX:T _:=h.ok.idle ho;have lK:T _:=Pg.Wk.yjc (root:=root) (k:=k) (u:=u) (Pg.yh8 hc);have HQ:T _:=Pg.yim hc;rw[hc]at fO
 have mg:Pg.yjz C.L q=(j:Int):=by simp only[Pg.yjz,hn]
 have Pm:Pg.kAt C.L q=C.L.getD j .zz:=by simp only[Pg.kAt,hn]
 obtain⟨hj,_,_⟩:=Pg.yjq hn;have Hg:=h.co.kept.le
 have i0:(0:Int)<=(j:Int):=by omega
 have i1:(j:Int)<(C.L.length:Int):=by omega
 have i2:¬(j:Int)<0:=by omega
 obtain⟨ad,cap,rfl⟩:=h.co.row.form;obtain⟨g,og,rfl,_,_⟩:=zt h.co.row j hj;obtain⟨l,oO⟩:=eY (C.L.getD j .zz);rw[<-oO]at Pm;rw[Pm]at bK;have lI:=fun w=>qn l.m.p l.m.s l.m.f l.m.r q k u w;obtain⟨⟨mp,ms,mf,mr⟩,ld⟩:=l;simp only at lI;have Pf:T _:=oO;clear Pm oO;simp only[Pg.Ln.wants,yN,beq_iff_eq,Bool.not_eq_true']at bK;obtain⟨dL,Sc,pU⟩:=bK
 have e1:Pg.aEnd mr k u=0:=by simp[Pg.aEnd,pU]
 rw[e1]at lI;obtain⟨ra,BB⟩:∃ra:Int,ra=0:=⟨_,rfl⟩;rw[<-BB]at lI;generalize Pg.yie mp mf mr q k u=rf at*;generalize Pg.yh1 mr k u=rr at*;clear e1 pU
 have tK:(k !=1)=Y:=by simp[dL]
 have hra2:(ra !=0)=Y:=by simp[BB]
 have fH:T _:=dL;clear dL BB;simp only[Pg.Tl.code,Pg.Tl.val];clear h rH
 go_enter Tryz.func56,Tryz.ntmps56
 go_wp2_with fail
 rw[<-hW];refine fO.mono ?_;rintro e w1 ⟨rfl,Ha⟩;have P1:T _:=HW.out.grow Ha;have ry:T (Lw w w1):=zT pg.out Ha;have R1:T (w1.heap[w.heap.size+1]?=V (M #[I J 0,I J 0,I J 0] 34 (0,0))):=(Ha.block _ uC).trans R3.out;have sO:w.heap.size+1<w1.heap.size:=Q uC Ha.size;have A1:T _:=qc Ha A3.out;clear Ha fO HW pg A3 hW R3;obtain⟨z0,z1,z2⟩:=A1.out;obtain⟨t8,DI,x8,pR⟩:=P1.out.ck;have c1:=pR.c1;rw[ho]at c1;have il:=jQ q HQ.out w1 P1.out.co;rw[mg]at il;clear pR mg ho hc
 go_wp2_with fail
 refine il.mono ?_;rintro e w2 ⟨rfl,Hd⟩;have P2:T _:=P1.out.grow Hd;have Ht:T (Lw w w2):=zT ry.out Hd;have R2:T (w2.heap[w.heap.size+1]?=V (M #[I J 0,I J 0,I J 0] 34 (0,0))):=(Hd.block _ sO).trans R1.out;have tq:w.heap.size+1<w2.heap.size:=Q sO Hd.size;have A2:T _:=qc Hd A1.out;clear Hd il P1 ry R1 A1 sO z0 z1 z2 c1
 have gW:T (qs w2 g (og+j*5) ⟨⟨mp,ms,mf,mr⟩,ld⟩):=by
  obtain⟨g',o',e,_,hm⟩:=zt P2.out.co.row j hj;cases e;rw[T,Pf.out];exact hm
 obtain⟨l0,l1,l2,l3,l4⟩:=gW.out;simp only at l0 l1 l2 l3 l4;obtain⟨z0,z1,z2⟩:=A2.out;have g0:=N P2.out.co.c0;have g1:=N l0;have g2:=N l1;have g3:=N l2;have g4:=N l3;have g5:=N z0;have g6:=N z1;have g7:=N z2;clear l0 l1 l2 l3 l4 z0 z1 z2
 go_wp2_with fail
 refine Loose.yhW 10 [] 11 (M #[I J 0,I J 0,I J 0] 34) _ (by kernel_rfl) (by kernel_rfl) (by intro i o hi;cases hi) rfl rfl rfl (by intro a w;simp[go_sem]) (by intro d v c a w h;cases d<;>exact h) ?_
 simp only[un,uc,ur,ua]
 repeat (
  refine Loose.zS (fun k hk=> ?_)
  go_simp
  first
   | (refine hk _ ?_;clear hk k)
   | (apply Exists.intro
      refine⟨fun _=> ?_,hk _ ?_⟩
      (go_at_call 84;exact Loose.calls (lI _))
      clear hk k))
 refine Loose.yhM ?_;intro bl w3 He rV hX;obtain⟨⟨mE,mF,bi⟩,fb⟩:=yc5 hX;have pM:bl<w3.heap.size:=(Z.1 hX).1;obtain⟨W4,rJ⟩:=eY (((w3.setCell ⟨bl,0,B⟩ (I J ra)).setCell ⟨bl,1,B⟩ (I J rf)).setCell ⟨bl,2,B⟩ (I J rr))
 have pI:Lw w2 W4:=by rw[rJ];exact xI He _ rV _ _ _
 have B4:T (W4.cell? ⟨bl,0,B⟩=V (I J ra)/\W4.cell? ⟨bl,1,B⟩=V (I J rf)/\W4.cell? ⟨bl,2,B⟩=V (I J rr)):=by
  rw[T,rJ];simp[go_sem,mE,mF,bi]
 have P4:T _:=P2.out.grow pI;have rR:T (Lw w W4):=zT Ht.out pI;have R4:T (W4.heap[w.heap.size+1]?=V (M #[I J 0,I J 0,I J 0] 34 (0,0))):=(pI.block _ tq).trans R2.out;have gH:w.heap.size+1<W4.heap.size:=Q tq pI.size;have A4:T _:=qc pI A2.out;have L4:T (qs W4 g (og+j*5) ⟨⟨mp,ms,mf,mr⟩,ld⟩):=gW.out.below pI gW.out.lb;clear He rV hX pI P2 Ht R2 A2 gW tq lI g0 g1 g2 g3 g4 g5 g6 g7
 go_upto_region 9 with fail
 rw[<-rJ];clear rJ mE mF bi fb pM;obtain⟨y0,y1,y2⟩:=B4.out;obtain⟨z0,z1,z2⟩:=A4.out;have c0:=P4.out.co.c0;have l4:=L4.out.2.2.2.2;simp only at l4;subst Sc
 go_upto_region 11 with fail
 clear y0 y1 y2 z0 z1 z2 c0 l4;obtain⟨t8,DI,x8,pR⟩:=P4.out.ck;rw[CX.out]at pR;have HF:T _:=pR.begun q k u;have d1:=pR.c1;have d2:=pR.c2;have d3:=pR.c3;have d4:=pR.c4;have fb:=pR.fb;simp only[Pg.Wk.off]at d1 d2 d3 d4;obtain⟨z0,z1,z2⟩:=A4.out;have Bj:=H _ _ z0;simp only at Bj;clear pR
 go_wp2_with fail
 go_region
 have HA:=vF (root:=root) _ HF.out.1.drew
 go_wp2_with fail
 refine HA.mono ?_;rintro e w9 ⟨rfl,mI,dW⟩;have uP:T (Ch8 b 1 (fun j=>j=b) w w9):=(Ch8.yhJ rR.out hl).trans (HF.out.2.drew.trans dW (fun _ _ h=>h)) (fun _ _ h=>h);have R9:=((HF.out.2.drew.trans dW (fun _ _ h=>h)).but.block _ gH tZ).trans R4.out;obtain⟨⟨x0,x1,x2⟩,xf⟩:=yc5 R9;have dw:T _:=yfu tZ (yI _) ⟨mI,uP.out⟩ (I J 0) (I J 0) (I J 0);clear mI dW HA z0 z1 z2 d1 d2 d3 d4 fb R9
 go_wp2
 refine O (v:=y #[kp #[I J 0,I J 0,I J 0],R Y,I J 0]) ?_ rfl ⟨rfl,HX.out.ykL dw.out.1 lK.out dw.out.2 (fun k hk e=>HX.out.co.nb (e▸hk)),dw.out.2.but⟩;simp[results,Tryz.results56,go_sem,x0,x1,x2]
theorem ycG (q k:Int) (u:Bool) (hc:Pg.zK q k=0) (ho:C.K.on=Y) {j:Nat} (hn:Pg.kFnd C.L q=V j) (bK:(Pg.kAt C.L q).wants k u=Y) (w:A) (h:ji w b vb C):
 ue kO 56 #[D (V ⟨b,0,B⟩),I J root,kp #[I J q,I J k,R u]] w fun e w'=>e=z ((Pg.kAt C.L q).ans q k u).val/\Lw w w':=by
 obtain⟨W,hW⟩:=eY ((w.alloc (M #[I J q,I J k,R u] 41)).alloc (M #[I J 0,I J 0,I J 0] 34))
 have rH:Lw w W:=by rw[hW];exact zA (zA (zR w) _) _
 have A3:T (W.cell? ⟨w.heap.size,0,B⟩=V (I J q)/\W.cell? ⟨w.heap.size,1,B⟩=V (I J k)/\W.cell? ⟨w.heap.size,2,B⟩=V (R u)):=by rw[T,hW];simp[go_sem]
 have R3:T (W.heap[w.heap.size+1]?=V (M #[I J 0,I J 0,I J 0] 34 (0,0))):=by
  rw[T,hW];exact(by simp:(w.alloc (M #[I J q,I J k,R u] 41)).heap.size=w.heap.size+1)▸ki _ _
 have hl:=h.lb;have HW:T _:=h.grow rH;have pg:T _:=rH;have fO:=zJ q k u W
 have Ho:b≠w.heap.size:=by omega
 have Cn:w.heap.size≠b:=by omega
 have tZ:¬w.heap.size+1=b:=by omega
 have uC:w.heap.size+1<W.heap.size:=by rw[hW];simp
 have HX:T _:=h;have CX:T _:=h.ok.idle ho;have lK:T _:=Pg.Wk.yjc (root:=root) (k:=k) (u:=u) (Pg.yh8 hc);have HQ:T _:=Pg.yim hc;rw[hc]at fO
 have mg:Pg.yjz C.L q=(j:Int):=by simp only[Pg.yjz,hn]
 have Pm:Pg.kAt C.L q=C.L.getD j .zz:=by simp only[Pg.kAt,hn]
 obtain⟨hj,_,_⟩:=Pg.yjq hn;have Hg:=h.co.kept.le
 have i0:(0:Int)<=(j:Int):=by omega
 have i1:(j:Int)<(C.L.length:Int):=by omega
 have i2:¬(j:Int)<0:=by omega
 obtain⟨ad,cap,rfl⟩:=h.co.row.form;obtain⟨g,og,rfl,_,_⟩:=zt h.co.row j hj;obtain⟨l,oO⟩:=eY (C.L.getD j .zz);rw[<-oO]at Pm;rw[Pm]at bK ⊢;have lI:=fun w=>qn l.m.p l.m.s l.m.f l.m.r q k u w;obtain⟨⟨mp,ms,mf,mr⟩,ld⟩:=l;simp only at lI;have Pf:T _:=oO;clear Pm oO;simp only[Pg.Ln.ans,Pg.Tl.val]
 have nU:(Pg.aEnd mr k u !=0)=P\/((Pg.aEnd mr k u !=0)=Y/\(k !=1)=P)\/((Pg.aEnd mr k u !=0)=Y/\(k !=1)=Y/\ld=P):=by
  simp only[Pg.Ln.wants]at bK;unfold Pg.aEnd;cases hm:Pg.may mr k u
  ·exact .inl (by simp)
  ·rw[hm]at bK
   by_cases hk:k=1
   ·subst hk
    cases ld
    ·simp at bK
    ·exact .inr (.inr ⟨by simp,by simp,rfl⟩)
   ·exact .inr (.inl ⟨by simp,by simp[hk]⟩)
 clear bK;generalize Pg.aEnd mr k u=ra at*;generalize Pg.yie mp mf mr q k u=rf at*;generalize Pg.yh1 mr k u=rr at*;clear h rH
 go_enter Tryz.func56,Tryz.ntmps56
 go_wp2_with fail
 rw[<-hW];refine fO.mono ?_;rintro e w1 ⟨rfl,Ha⟩;have P1:T _:=HW.out.grow Ha;have ry:T (Lw w w1):=zT pg.out Ha;have R1:T (w1.heap[w.heap.size+1]?=V (M #[I J 0,I J 0,I J 0] 34 (0,0))):=(Ha.block _ uC).trans R3.out;have sO:w.heap.size+1<w1.heap.size:=Q uC Ha.size;have A1:T _:=qc Ha A3.out;clear Ha fO HW pg A3 hW R3;obtain⟨z0,z1,z2⟩:=A1.out;obtain⟨t8,DI,x8,pR⟩:=P1.out.ck;have c1:=pR.c1;rw[ho]at c1;have il:=jQ q HQ.out w1 P1.out.co;rw[mg]at il;clear pR mg ho hc
 go_wp2_with fail
 refine il.mono ?_;rintro e w2 ⟨rfl,Hd⟩;have P2:T _:=P1.out.grow Hd;have Ht:T (Lw w w2):=zT ry.out Hd;have R2:T (w2.heap[w.heap.size+1]?=V (M #[I J 0,I J 0,I J 0] 34 (0,0))):=(Hd.block _ sO).trans R1.out;have tq:w.heap.size+1<w2.heap.size:=Q sO Hd.size;have A2:T _:=qc Hd A1.out;clear Hd il P1 ry R1 A1 sO z0 z1 z2 c1
 have gW:T (qs w2 g (og+j*5) ⟨⟨mp,ms,mf,mr⟩,ld⟩):=by
  obtain⟨g',o',e,_,hm⟩:=zt P2.out.co.row j hj;cases e;rw[T,Pf.out];exact hm
 obtain⟨l0,l1,l2,l3,l4⟩:=gW.out;simp only at l0 l1 l2 l3 l4;obtain⟨z0,z1,z2⟩:=A2.out;have g0:=N P2.out.co.c0;have g1:=N l0;have g2:=N l1;have g3:=N l2;have g4:=N l3;have g5:=N z0;have g6:=N z1;have g7:=N z2;clear l0 l1 l2 l3 l4 z0 z1 z2
 go_wp2_with fail
 refine Loose.yhW 10 [] 11 (M #[I J 0,I J 0,I J 0] 34) _ (by kernel_rfl) (by kernel_rfl) (by intro i o hi;cases hi) rfl rfl rfl (by intro a w;simp[go_sem]) (by intro d v c a w h;cases d<;>exact h) ?_
 simp only[un,uc,ur,ua]
 repeat (
  refine Loose.zS (fun k hk=> ?_)
  go_simp
  first
   | (refine hk _ ?_;clear hk k)
   | (apply Exists.intro
      refine⟨fun _=> ?_,hk _ ?_⟩
      (go_at_call 84;exact Loose.calls (lI _))
      clear hk k))
 refine Loose.yhM ?_;intro bl w3 He rV hX;obtain⟨⟨mE,mF,bi⟩,fb⟩:=yc5 hX;have pM:bl<w3.heap.size:=(Z.1 hX).1;obtain⟨W4,rJ⟩:=eY (((w3.setCell ⟨bl,0,B⟩ (I J ra)).setCell ⟨bl,1,B⟩ (I J rf)).setCell ⟨bl,2,B⟩ (I J rr))
 have pI:Lw w2 W4:=by rw[rJ];exact xI He _ rV _ _ _
 have B4:T (W4.cell? ⟨bl,0,B⟩=V (I J ra)/\W4.cell? ⟨bl,1,B⟩=V (I J rf)/\W4.cell? ⟨bl,2,B⟩=V (I J rr)):=by
  rw[T,rJ];simp[go_sem,mE,mF,bi]
 have P4:T _:=P2.out.grow pI;have rR:T (Lw w W4):=zT Ht.out pI;have R4:T (W4.heap[w.heap.size+1]?=V (M #[I J 0,I J 0,I J 0] 34 (0,0))):=(pI.block _ tq).trans R2.out;have gH:w.heap.size+1<W4.heap.size:=Q tq pI.size;have A4:T _:=qc pI A2.out;have L4:T (qs W4 g (og+j*5) ⟨⟨mp,ms,mf,mr⟩,ld⟩):=gW.out.below pI gW.out.lb;clear He rV hX pI P2 Ht R2 A2 gW tq lI g0 g1 g2 g3 g4 g5 g6 g7
 go_upto_region 9 with fail
 rw[<-rJ];clear rJ mE mF bi fb pM;obtain⟨y0,y1,y2⟩:=B4.out;obtain⟨z0,z1,z2⟩:=A4.out;have c0:=P4.out.co.c0;have l4:=L4.out.2.2.2.2;simp only at l4;obtain⟨⟨x0,x1,x2⟩,xf⟩:=yc5 R4.out;rcases nU with h1|⟨h1,h2⟩|⟨h1,h2,h3⟩
 ·go_wp2
  refine O (v:=y #[kp #[I J ra,I J rf,I J rr],R P,I J 0]) ?_ rfl ⟨rfl,xI rR.out _ (yI _) _ _ _⟩;simp[results,Tryz.results56,go_sem,x0,x1,x2]
 ·go_wp2
  refine O (v:=y #[kp #[I J ra,I J rf,I J rr],R P,I J 0]) ?_ rfl ⟨rfl,xI rR.out _ (yI _) _ _ _⟩;simp[results,Tryz.results56,go_sem,x0,x1,x2]
 ·subst h3
  go_wp2
  refine O (v:=y #[kp #[I J ra,I J rf,I J rr],R P,I J 0]) ?_ rfl ⟨rfl,xI rR.out _ (yI _) _ _ _⟩;simp[results,Tryz.results56,go_sem,x0,x1,x2]
theorem ycE (q k:Int) (u:Bool) (w:A) (h:ji w b vb C):
 ue kO 56 #[D (V ⟨b,0,B⟩),I J root,kp #[I J q,I J k,R u]] w fun e w'=>e=z (C.bgT q k u).val/\ji w' b vb (C.bgN root q k u)/\But (fun j=>j=b) w w':=by
 unfold Pg.Cr.bgT Pg.Cr.bgN
 by_cases hc:Pg.zK q k=0
 ·rw[iN (by simp[hc])]
  cases ho:C.K.on
  ·rw[iN (by simp)]
   unfold Pg.Cr.hit
   cases hn:Pg.kFnd C.L q with
   | none=>
     rw[iN (by simp),iP ⟨hc,rfl,by simp⟩];exact ybN q k u hc ho hn w h
   | some j=>
     cases bK:(Pg.kAt C.L q).wants k u
     ·rw[iP (by simp),iN (by simp)]
      exact(ycG q k u hc ho hn bK w h).mono fun e w' ⟨he,hb⟩=>⟨he,h.grow hb,But.yhJ hb⟩
     ·rw[iN (by simp),iP ⟨hc,rfl,by simp⟩]
      exact ybh q k u hc ho hn bK w h
  ·rw[iP rfl,iN (by simp)]
   exact(ybM q k u hc ho w h).mono fun e w' ⟨he,hb⟩=>⟨he,h.grow hb,But.yhJ hb⟩
 ·rw[iP (by simpa using hc),iN (by simp[hc])]
  exact(ycF q k u hc w h).mono fun e w' ⟨he,hb⟩=>⟨he,h.grow hb,But.yhJ hb⟩
end
end
end Go.Proofs.YtdphiompijbelaaGreat
