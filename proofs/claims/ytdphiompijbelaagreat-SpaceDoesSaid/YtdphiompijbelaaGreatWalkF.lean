import Derived.Test.YtdphiompijbelaaGreatEntryRef
import Derived.Test.YtdphiompijbelaaGreatSafeFace
set_option linter.all false
set_option maxRecDepth 100000
open Int renaming tmod_eq_emod_of_nonneg->kJ,eq_ofNat_of_zero_le->kC,toNat_natCast->kF
open Go.Obj renaming cells->y
open Go.Ending renaming returned->x
open List renaming length_singleton->H,length_append->kI,take_succ_cons->kN,drop_succ_cons->kY,take_zero->kZ,drop_zero->kU
open Go renaming bodyPost_ret->Z,World->M,Value->A,cell_later->z,cell_regrown->kS,Calls->kX
open Go.RowKit renaming Hid->Q
open Go.World renaming cell?_setCell_other->R,cell?_of_block->Y,block_lt_of_cell?->T,frozen?_of_block->O,frozen?_setCell->K,cell?_setCell_same->kP,ownsRow->kT
open Bool renaming false->C,true->U
open Go.IntKind renaming i64->P,u64->kV
open Option renaming none->J,some->N
open Go.Value renaming bool->I,int->B,slice->V,tuple->D,bool->kR,agg->kQ,int->kO,pointer->kK
set_option maxHeartbeats 8000000
namespace Go.Proofs.YtdphiompijbelaaGreat
open Go.RowKit Go.Sort
section
attribute [local go_sem] Loose.gent
theorem yff (W:Int) (h0:0<=W) (h1:W<18446744073709551616) (k:Nat) (hk:k<64) (b:Nat) (w:M) (hc:w.cell? ⟨b,0,J⟩=N (B kV W)):
 kX Tryz.prog 151 #[B kV (k:Int),kK (N ⟨b,0,J⟩)] w fun e w'=>e=x (I (Pg.bit W k))/\w'=w:=by
 have hq:0<=W/2^k:=Int.ediv_nonneg h0 (Int.pow_nonneg (by decide))
 have HQ:Q (((W/2^k).tmod 2==1)=Pg.bit W k):=by
  show((W/2^k).tmod 2==1)=decide (W/2^k%2=1)
  rw[kJ hq,Bool.eq_iff_iff];simp
 clear hq
 go_enter Tryz.func151,Tryz.ntmps151
 go_wp2_with fail
 go_ret
 exact⟨xi HQ.out,rfl⟩
theorem ybs (W:Int) (h0:0<=W) (h1:W<18446744073709551616) (k:Int) (n:Nat) (hn:k.toNat=n) (k0:0<=k) (k1:k<64) (b:Nat) (w:M) (hc:w.cell? ⟨b,0,J⟩=N (B kV W)):
 kX Tryz.prog 151 #[B kV k,kK (N ⟨b,0,J⟩)] w fun e w'=>e=x (I (Pg.bit W n))/\w'=w:=by
 obtain⟨m,rfl⟩:=kC k0;rw[kF]at hn;subst hn;exact yff W h0 h1 _ (by omega) b w hc
theorem qr (W lv:Int) (h0:0<=W) (h1:W<18446744073709551616) (w:M):
 kX Tryz.prog 105 #[B kV W,B P lv] w fun e w'=>e=x (Pg.decV W lv)/\Below w.heap.size w w':=by
 by_cases hl:lv<0\/3<lv
 ·have HC:Q (Pg.ygz W lv=1):=by simp[Q,Pg.ygz,hl]
  have HV:Q _:=Pg.yhr HC.out (by simp[Pg.ygD,HC.out]);rcases hl with h|h
  all_goals
   go_enter Tryz.func105,Tryz.ntmps105
   go_wp2_with fail
   refine Z (v:=D #[kQ #[I C,I C,B P 0,I C,I C,B P 0],B P 1]) ?_ rfl ⟨by rw[HV.out],?_⟩
   ·simp[results,Tryz.results105,go_sem]
   ·exact zA (zA (zR _) _) _
 ·have l0:0<=lv:=by omega
  have l3:lv<=3:=by omega
  have HL:Q (¬(lv<0\/3<lv)):=hl;clear hl
  go_enter Tryz.func105,Tryz.ntmps105
  go_wp2_with fail
  go_loop [7] (fun i=>∃k:Nat,k<=64/\i=B kV k/\Q (∀j,j<k->Pg.ygJ W lv j=C)) (fun i=>(64-intOf i).toNat)
  case atStart=>exact⟨0,by omega,rfl,fun j hj=>absurd hj (by omega)⟩
  case round=>
   obtain⟨k,hk,rfl,HB⟩:=hrel
   by_cases hlt:k<64
   ·have HN:Q (Pg.ygJ W lv k=C->Q (∀j,j<k+1->Pg.ygJ W lv j=C)):=by
     intro hb j hj
     by_cases e:j=k
     ·rw[e];exact hb
     ·exact HB.out j (by omega)
    have HV:Q (Pg.ygJ W lv k=U->Pg.decV W lv=D #[kQ #[I C,I C,B P 0,I C,I C,B P 0],B P 7]):=by
     intro hb;have:=Pg.bits_of_good h0 hlt hb;have hl:=HL.out
     have hc:Pg.ygz W lv=7:=by simp[Pg.ygz,hl,this]
     exact Pg.yhr hc (by simp[Pg.ygD,hc])
    clear HB;rcases Pg.kint k with ⟨d3,dk⟩|⟨d3,d5,d12,dk⟩|⟨d3,d5,d7,dk⟩|⟨d3,d5,d7,d12,dk⟩|⟨d3,d5,d7,d12,d31,dk⟩|⟨d3,d5,d7,d12,d31,dk⟩
    all_goals
     cases hbk:Pg.bit W k
     all_goals
      go_wp2_with (first
       | (go_at_call 151;refine(ybs W h0 h1 _ k ?_ ?_ ?_ _ _ ?_).mono ?_;(exact kF _);(omega);(omega);(go_simp);rintro e w' ⟨rfl,rfl⟩)
       | (go_at_call 151;refine(ybs W h0 h1 _ 0 ?_ ?_ ?_ _ _ ?_).mono ?_;(exact rfl);(omega);(omega);(go_simp);rintro e w' ⟨rfl,rfl⟩))
      all_goals first
       | (go_round
          case rel=>
           refine⟨k+1,by omega,?_,HN.out ?_⟩
           ·first|go_num|(congr 1;omega)
           ·first|exact Pg.bitBad_off hbk|exact Pg.yhT dk ‹Pg.bit W 0=U› (.inl ‹_›)|exact Pg.yhT dk ‹Pg.bit W 0=U› (.inr (of_decide_eq_false ‹(lv==0)=C›))
          case measure=>simp[intOf]<;>omega)
       | (have hbad:Pg.ygJ W lv k=U:=by
           first|exact Pg.bitBad_unknown hbk dk|exact Pg.bitBad_zero hbk ‹Pg.bit W 0=C› |exact Pg.bitBad_seven hbk ‹(k:Int)=7› (of_decide_eq_true ‹(lv==0)=U›)
          refine Z (v:=D #[kQ #[I C,I C,B P 0,I C,I C,B P 0],B P 7]) ?_ rfl ⟨by rw[HV.out hbad],?_⟩
          ·simp[results,Tryz.results105,go_sem]
          ·exact zA (zA (zR _) _) _)
   ·have hk64:k=64:=by omega
    subst hk64;have hG:=Pg.good_of_bits h0 h1 HB.out;have HG:Q _:=hG;clear HB hlt hk hG
    by_cases hz:W=0
    ·have HC:Q (Pg.ygz W lv=0):=by
      have hl:=HL.out;simp[Q,Pg.ygz,hl,hz,Pg.wBad]
     have HV:Q _:=Pg.yhr HC.out (by simp[Pg.ygD,hz])
     have hz':(W==0)=U:=by simpa using hz
     clear hz
     go_wp2_with fail
     refine Z (v:=D #[kQ #[I C,I C,B P 0,I C,I C,B P 0],B P 0]) ?_ rfl ⟨by rw[HV.out],?_⟩
     ·simp[results,Tryz.results105,go_sem]
     ·exact zA (zA (zR _) _) _
    ·have hz':(W==0)=C:=by simpa using hz
     have HC:Q (Pg.ygz W lv=Pg.ygu U (Pg.ygP W lv) (W/2%8) (Pg.ygN W) (Pg.ygC W) (W/4096) lv):=by
      have hl:=HL.out;simp[Q,Pg.ygz,hl,HG.out,hz]
     have HZ:Q (W≠0):=hz;clear hz
     obtain⟨L,hL,hdl⟩:∃L,Q (Pg.ygP W lv=L)/\((lv==0)=U/\U=L\/(lv==0)=C/\Pg.bit W 7=L):=by
      by_cases hl0:lv=0
      ·exact⟨U,by simp[Q,hl0,Pg.ygP],.inl ⟨by simpa using hl0,rfl⟩⟩
      ·refine⟨_,rfl,.inr ⟨by simpa using hl0,?_⟩⟩
       simp only[Pg.ygP,hl0,decide_false,Bool.false_or];rfl
     have HC2:Q (Pg.ygz W lv=Pg.ygu U L (W/2%8) (Pg.ygN W) (Pg.ygC W) (W/4096) lv):=by
      have:=HC.out;rw[hL.out]at this;exact this
     have HV0:Q (Pg.ygu U L (W/2%8) (Pg.ygN W) (Pg.ygC W) (W/4096) lv=0->Pg.decV W lv=D #[kQ #[I U,I L,B P (W/2%8),I (Pg.ygN W),I (Pg.ygC W),B P (W/4096)],B P 0]):=by
      intro hz;have:=Pg.decV_good (HC2.out.trans hz) HZ.out;rw[hL.out]at this;exact this
     have HV1:Q (Pg.ygu U L (W/2%8) (Pg.ygN W) (Pg.ygC W) (W/4096) lv≠0->Pg.decV W lv=D #[kQ #[I C,I C,B P 0,I C,I C,B P 0],B P (Pg.ygu U L (W/2%8) (Pg.ygN W) (Pg.ygC W) (W/4096) lv)]):=by
      intro hz;exact Pg.yhr HC2.out (by simp[Pg.ygD,HC2.out,hz])
     clear HC HC2 hL HG;have b5:Pg.bit W 5=Pg.ygN W:=rfl;have b6:Pg.bit W 6=Pg.ygC W:=rfl
     go_wp2_with fail
     have c0:∀d os,(grow (redrawn ((w.alloc (Obj.cells #[kO IntKind.u64 W] 64)).alloc (Obj.cells #[kR C,kR C,kO IntKind.i64 0,kR C,kR C,kO IntKind.i64 0] 70)) d) os).cell? ⟨w.heap.size,0,J⟩=N (B kV W):=
      kS (by simp[go_sem])
     rcases hdl with ⟨q0,rfl⟩|⟨q0,q1⟩
     all_goals
      refine Loose.ygR 18 9 (y #[I C,I C,B P 0,I C,I C,B P 0] 70) _ (by kernel_rfl) (by kernel_rfl) rfl rfl rfl (by intro a w;simp[go_sem]) ?_;simp only[kN,kZ,kY,kU]
      repeat (
       refine Loose.zS (fun k hk=> ?_)
       go_simp
       first
        | (refine hk _ ?_;clear hk k)
        | (apply Exists.intro
           refine⟨fun _=> ?_,hk _ ?_⟩
           (first
             | (go_at_call 151;refine Loose.ygB (ybs W h0 h1 _ 7 ?_ ?_ ?_ _ _ ?_);(exact rfl);(omega);(omega);(go_simp))
             | (go_at_call 151;refine Loose.ygB (ybs W h0 h1 _ 5 ?_ ?_ ?_ _ _ ?_);(exact rfl);(omega);(omega);(go_simp))
             | (go_at_call 151;refine Loose.ygB (ybs W h0 h1 _ 6 ?_ ?_ ?_ _ _ ?_);(exact rfl);(omega);(omega);(go_simp)))
           clear hk k))
      refine Loose.ygs ?_;intro b w' hb' hbl hX
      have cb:w'.cell? ⟨b,0,J⟩=N (I C)/\w'.cell? ⟨b,1,J⟩=N (I C)/\w'.cell? ⟨b,2,J⟩=N (B P 0)/\w'.cell? ⟨b,3,J⟩=N (I C)/\w'.cell? ⟨b,4,J⟩=N (I C)/\w'.cell? ⟨b,5,J⟩=N (B P 0):=by
       simp[World.cell?,hX]
      have fb:∀i,w'.frozen? ⟨b,i,J⟩=C:=fun i=>by simp[World.frozen?,hX]
      have hB:Below w.heap.size w w':=zT (zA (zA (zR _) _) _) hb'
      have hbl':w.heap.size+2<=b:=by simpa using hbl
      have hcr:w'.cell? ⟨w.heap.size+1,0,J⟩=N (I C)/\w'.cell? ⟨w.heap.size+1,1,J⟩=N (I C)/\w'.cell? ⟨w.heap.size+1,2,J⟩=N (B P 0)/\w'.cell? ⟨w.heap.size+1,3,J⟩=N (I C)/\w'.cell? ⟨w.heap.size+1,4,J⟩=N (I C)/\w'.cell? ⟨w.heap.size+1,5,J⟩=N (B P 0):=
       ⟨z hb' (by simp[go_sem]),z hb' (by simp[go_sem]),z hb' (by simp[go_sem]),z hb' (by simp[go_sem]),z hb' (by simp[go_sem]),z hb' (by simp[go_sem])⟩
      have hfr:∀i,w'.frozen? ⟨w.heap.size+1,i,J⟩=C:=fun i=>by
       rw[hb'.frozen (by simp)];simp[go_sem]
      clear hX hbl hb' c0
      go_wp2_with fail
      first
       | (have st:=vJ (v0:=I U) (v1:=I L) (v2:=B P (W/2%8)) (v3:=I (Pg.ygN W)) (v4:=I (Pg.ygC W)) (v5:=B P (W/4096)) hB (by omega) cb)
       | (have st:=vJ (v0:=I U) (v1:=I U) (v2:=B P (W/2%8)) (v3:=I (Pg.ygN W)) (v4:=I (Pg.ygC W)) (v5:=B P (W/4096)) hB (by omega) cb)
      refine(zJ _ _ _ _ _ _ _ _).mono ?_;rintro e w3 ⟨rfl,hb3⟩;obtain⟨hB2,cb2,ho2,hf2⟩:=st
      have hcr2:w3.cell? ⟨w.heap.size+1,0,J⟩=N (I C)/\w3.cell? ⟨w.heap.size+1,1,J⟩=N (I C)/\w3.cell? ⟨w.heap.size+1,2,J⟩=N (B P 0)/\w3.cell? ⟨w.heap.size+1,3,J⟩=N (I C)/\w3.cell? ⟨w.heap.size+1,4,J⟩=N (I C)/\w3.cell? ⟨w.heap.size+1,5,J⟩=N (B P 0):=
       zQ hb3 ⟨ho2 _ _ _ (by omega) hcr.1,ho2 _ _ _ (by omega) hcr.2.1,ho2 _ _ _ (by omega) hcr.2.2.1,ho2 _ _ _ (by omega) hcr.2.2.2.1,ho2 _ _ _ (by omega) hcr.2.2.2.2.1,ho2 _ _ _ (by omega) hcr.2.2.2.2.2⟩
      have hlt:=T _ _ (ho2 _ _ _ (by omega) hcr.1)
      have hfr2:∀i,w3.frozen? ⟨w.heap.size+1,i,J⟩=C:=fun i=>by rw[hb3.frozen (p:=⟨w.heap.size+1,i,J⟩) hlt,hf2];exact hfr i
      have cb3:=zQ hb3 cb2;have hB3:=zT hB2 hb3;clear hb3 hB2 cb2 ho2 hf2 hcr hfr hB cb fb hlt;generalize hcv:Pg.ygu U _ (W/2%8) (Pg.ygN W) (Pg.ygC W) (W/4096) lv=c at*;clear hcv
      by_cases hz:c=0
      ·have hn:(c !=0)=C:=by simp[hz]
       have HV:=HV0.out hz;have HV':Q _:=HV;have HZ0:Q (c=0):=hz;clear HV hz
       go_wp2_with fail
       refine Z ?_ rfl ⟨by rw[HV'.out],?_⟩
       ·simp[results,Tryz.results105,go_sem,hcr2]
       ·exact(((((hB3.setCell (by simp) _).setCell (by simp) _).setCell (by simp) _).setCell (by simp) _).setCell (by simp) _).setCell (by simp) _
      ·have hn:(c !=0)=U:=by simp[hz]
       have HV:=HV1.out hz;have HV':Q _:=HV;clear HV hz
       go_wp2_with fail
       refine Z ?_ rfl ⟨by rw[HV'.out],?_⟩
       ·simp[results,Tryz.results105,go_sem,hcr2]
       ·exact(((((hB3.setCell (by simp) _).setCell (by simp) _).setCell (by simp) _).setCell (by simp) _).setCell (by simp) _).setCell (by simp) _
theorem jc (t l:Bool) (r:Int) (u d:Bool) (f lv q:Int) (w:M):
 kX Tryz.prog 72 #[kQ #[I t,I l,B P r,I u,I d,B P f],B P lv,B P q] w fun e w'=>e=x (Pg.mapV t l r u d f lv q)/\Below w.heap.size w w':=by
 have hno:Pg.lOk t l r u d f lv q=C/\((Pg.ygu t l r u d f lv !=0)=U\/((Pg.ygu t l r u d f lv !=0)=C/\l=C)\/((Pg.ygu t l r u d f lv !=0)=C/\l=U/\q<0)\/((Pg.ygu t l r u d f lv !=0)=C/\l=U/\0<=q/\4096<=q))\/
  (Pg.lOk t l r u d f lv q=U/\(Pg.ygu t l r u d f lv !=0)=C/\l=U/\0<=q/\q<4096/\0<=lv/\lv<=2):=by
  by_cases h1:Pg.ygu t l r u d f lv=0
  ·cases l
   ·left;refine⟨by simp[Pg.lOk],.inr (.inl ⟨by simp[h1],rfl⟩)⟩
   ·by_cases h2:0<=q/\q<4096
    ·right
     obtain⟨⟨a,b⟩,hc⟩:=Pg.ygI h1;refine⟨by simp[Pg.lOk,h1,Pg.below,h2],by simp[h1],rfl,h2.1,h2.2,a,?_⟩;rcases hc with ⟨_,h,_⟩|⟨_,_,_,_,_,⟨_,h,_⟩|⟨h,_⟩⟩
     ·cases h
     ·exact h
     ·cases h
    ·left
     refine⟨by simp[Pg.lOk,Pg.below];intro _;omega,?_⟩
     by_cases h3:q<0
     ·exact .inr (.inr (.inl ⟨by simp[h1],rfl,h3⟩))
     ·exact .inr (.inr (.inr ⟨by simp[h1],rfl,by omega,by omega⟩))
  ·left;exact⟨by simp[Pg.lOk,h1],.inl (by simp[h1])⟩
 rcases hno with ⟨hk,hc⟩|⟨hk,h1,rfl,q0,q1,l0,l2⟩
 ·have HV:Q _:=Pg.yhR hk
  clear hk;rcases hc with h1|⟨h1,rfl⟩|⟨h1,rfl,h2⟩|⟨h1,rfl,h2,h3⟩
  all_goals
   go_enter Tryz.func72,Tryz.ntmps72
   go_wp2_with fail
   refine(zJ _ _ _ _ _ _ _ _).mono ?_;rintro e w1 ⟨rfl,hb1⟩;obtain⟨hc1,hf1⟩:=xE hb1
   go_wp2_with fail
   refine Z ?_ rfl ⟨by rw[HV.out],?_⟩
   ·simp[results,Tryz.results72,go_sem,hc1]
   ·exact((((zT (zA (zA (zR _) _) _) hb1).setCell (by simp) _).setCell (by simp) _).setCell (by simp) _).setCell (by simp) _
 ·have HV:Q _:=Pg.yie hk
  clear hk;have hs:=Pg.ygV lv
  have hs1:1<=Pg.span lv:=by rcases Pg.ygF lv with h|h|h|h<;>omega
  have hne:¬Pg.span lv=0:=by omega
  have hne2:(Pg.span lv==0)=C:=by simpa using hne
  have hm:=Int.emod_nonneg q (by omega:Pg.span lv≠0);have hm2:=Int.emod_lt_of_pos q (by omega:0<Pg.span lv);have ht:q.tmod (Pg.span lv)=q%Pg.span lv:=kJ q0;have hwr:IntKind.i64.wrap (q-q%Pg.span lv)=q-q%Pg.span lv:=qc (by omega) (by omega)
  go_enter Tryz.func72,Tryz.ntmps72
  go_wp2_with fail
  refine(zJ _ _ _ _ _ _ _ _).mono ?_;rintro e w1 ⟨rfl,hb1⟩;have ce:=zQ (v0:=I t) (v1:=I U) (v2:=B P r) (v3:=I u) (v4:=I d) (v5:=B P f) (b:=w.heap.size) hb1 (by simp[go_sem]);have cr:=xc (v0:=B P 0) (v1:=B P 0) (v2:=B P 0) (v3:=B P 0) (b:=w.heap.size+1) hb1 (by simp[go_sem])
  have fr:∀i,w1.frozen? ⟨w.heap.size+1,i,J⟩=C:=fun i=>by
   rw[hb1.frozen (p:=⟨w.heap.size+1,i,J⟩) (by simp)];simp[go_sem]
  have hB:=zT (zA (zA (zR _) _) _) hb1;clear hb1
  go_wp2_with fail
  have ke:=fun d os=>zQ (below_regrown w1 d os) ce;refine Loose.yg5 12 (by kernel_rfl) (by kernel_rfl) ?_;simp only[kN,kZ,kY,kU]
  repeat (
   refine Loose.zS (fun k hk=> ?_)
   go_simp
   first
    | (refine hk _ ?_;clear hk k)
    | (apply Exists.intro
       refine⟨fun _=> ?_,hk _ ?_⟩
       (go_at_call 123;exact Loose.ygB (zn _ _))
       clear hk k))
  refine Loose.ygs ?_;intro w' hb';have hlt:=T _ _ cr.1
  replace cr:=xc hb' cr
  have fr':∀i,w'.frozen? ⟨w.heap.size+1,i,J⟩=C:=fun i=>by
   rw[hb'.frozen (p:=⟨w.heap.size+1,i,J⟩) hlt];exact fr i
  replace hB:=zT hB hb'
  clear hb' fr ke ce
  go_wp2_with fail
  refine Z ?_ rfl ⟨by rw[HV.out],?_⟩
  ·simp[results,Tryz.results72,go_sem,cr]
  ·exact(((hB.setCell (by simp) _).setCell (by simp) _).setCell (by simp) _).setCell (by simp) _
def jA (w:M) (b:Nat) (v0:A) (e:Pg.En) (lv:Int):Prop:=
 w.cell? ⟨b,0,J⟩=N v0/\w.cell? ⟨b,1,J⟩=N (I e.t)/\w.cell? ⟨b,2,J⟩=N (I e.l)/\w.cell? ⟨b,3,J⟩=N (B P e.r)/\w.cell? ⟨b,4,J⟩=N (I e.u)/\w.cell? ⟨b,5,J⟩=N (I e.d)/\w.cell? ⟨b,6,J⟩=N (B P e.f)/\w.cell? ⟨b,7,J⟩=N (B P lv)
theorem jA.of_block {w w':M} {b:Nat} {v0:A} {e:Pg.En} {lv:Int} (hk:w'.heap[b]?=w.heap[b]?) (h:jA w b v0 e lv):jA w' b v0 e lv:=
 ⟨(Y hk).trans h.1,(Y hk).trans h.2.1,(Y hk).trans h.2.2.1,(Y hk).trans h.2.2.2.1,(Y hk).trans h.2.2.2.2.1,(Y hk).trans h.2.2.2.2.2.1,(Y hk).trans h.2.2.2.2.2.2.1,(Y hk).trans h.2.2.2.2.2.2.2⟩
theorem jA.lb {w:M} {b:Nat} {v0:A} {e:Pg.En} {lv:Int} (h:jA w b v0 e lv):b<w.heap.size:=T _ _ h.1
structure ji (w0:M) (X:List Pg.Sp) (lv:Int) (vb:A) (wr:M):Prop where
 bel:Below w0.heap.size w0 wr
 r:jA wr w0.heap.size (V J 0 0) Pg.En.zero 0
 rf:∀o,wr.frozen? ⟨w0.heap.size,o,J⟩=C
 c:jA wr (w0.heap.size+1) vb Pg.En.zero lv
 cf:∀o,wr.frozen? ⟨w0.heap.size+1,o,J⟩=C
 own:wr.ownsRow (w0.heap.size+1+1) 3 1 vb X.length (zr (tabs X))
namespace ji
variable {w0 wr w':M} {X:List Pg.Sp} {lv:Int} {vb:A}
theorem grow (h:ji w0 X lv vb wr) (hb:Below wr.heap.size wr w'):ji w0 X lv vb w':=
 ⟨h.bel.trans (hb.mono h.bel.size),h.r.of_block (hb.block _ h.r.lb),fun o=>(hb.frozen (p:=⟨w0.heap.size,o,J⟩) h.r.lb).trans (h.rf o),h.c.of_block (hb.block _ h.c.lb),fun o=>(hb.frozen (p:=⟨w0.heap.size+1,o,J⟩) h.c.lb).trans (h.cf o),zj h.own hb⟩
end ji
theorem jA.set0 {w:M} {b:Nat} {v0:A} {e:Pg.En} {lv:Int} (h:jA w b v0 e lv) (v:A):jA (w.setCell ⟨b,0,J⟩ v) b v e lv:=
 ⟨kP _ _ _ h.1,(R _ _ _ _ (by simp)).trans h.2.1,(R _ _ _ _ (by simp)).trans h.2.2.1,(R _ _ _ _ (by simp)).trans h.2.2.2.1,(R _ _ _ _ (by simp)).trans h.2.2.2.2.1,(R _ _ _ _ (by simp)).trans h.2.2.2.2.2.1,(R _ _ _ _ (by simp)).trans h.2.2.2.2.2.2.1,(R _ _ _ _ (by simp)).trans h.2.2.2.2.2.2.2⟩
theorem jA.set7 {w:M} {b:Nat} {v0:A} {e:Pg.En} {lv:Int} (h:jA w b v0 e lv) (l:Int):jA (w.setCell ⟨b,7,J⟩ (B P l)) b v0 e l:=
 ⟨(R _ _ _ _ (by simp)).trans h.1,(R _ _ _ _ (by simp)).trans h.2.1,(R _ _ _ _ (by simp)).trans h.2.2.1,(R _ _ _ _ (by simp)).trans h.2.2.2.1,(R _ _ _ _ (by simp)).trans h.2.2.2.2.1,(R _ _ _ _ (by simp)).trans h.2.2.2.2.2.1,(R _ _ _ _ (by simp)).trans h.2.2.2.2.2.2.1,kP _ _ _ h.2.2.2.2.2.2.2⟩
theorem ji.lower {w0 wr:M} {X:List Pg.Sp} {lv:Int} {vb:A} (h:ji w0 X lv vb wr) (l:Int):ji w0 X l vb (wr.setCell ⟨w0.heap.size+1,7,J⟩ (B P l)):=by
 have hk:∀k,k≠w0.heap.size+1->(wr.setCell ⟨w0.heap.size+1,7,J⟩ (B P l)).heap[k]?=wr.heap[k]?:=fun k hk=>Below.heap_setCell _ _ _ _ hk;refine⟨h.bel.setCell (by simp) _,h.r.of_block (hk _ (by omega)),fun o=>by rw[K];exact h.rf o,h.c.set7 l,fun o=>by rw[K];exact h.cf o,za h.own fun k hk'=>hk k (fun e=> ?_)⟩;have:=(h.own.lt k hk').1;omega
theorem ji.push {w0 W w6:M} {X:List Pg.Sp} {lv:Int} {vb:A} {g cap:Nat} {t:Int} (h:ji w0 X lv vb W) (G:yfA (w0.heap.size+1) vb W w6 g) (ho:w6.ownsRow (w0.heap.size+1+1) 3 1 (V (N ⟨g,0,J⟩) (X.length+1) cap) (X.length+1) (zr (tabs X)++[B P t])) (s:Pg.Sp) (hs:s.table=t):
 ji w0 (X++[s]) lv (V (N ⟨g,0,J⟩) (X.length+1) cap) (w6.setCell ⟨w0.heap.size+1,0,J⟩ (V (N ⟨g,0,J⟩) (X.length+1) cap)):=by
 have hk:∀k,k≠w0.heap.size+1->(w6.setCell ⟨w0.heap.size+1,0,J⟩ (V (N ⟨g,0,J⟩) (X.length+1) cap)).heap[k]?=w6.heap[k]?:=fun k hk=>Below.heap_setCell _ _ _ _ hk;have hr:=h.r.lb;have hc:=h.c.lb
 have b0:w6.heap[w0.heap.size]?=W.heap[w0.heap.size]?:=G.but.block _ hr fun e=>by have:=G.far _ e;omega
 have b1:w6.heap[w0.heap.size+1]?=W.heap[w0.heap.size+1]?:=G.but.block _ hc fun e=>by have:=G.far _ e;omega
 have hB:Below w0.heap.size W w6:=G.but.below h.bel.size fun k hk=>by have:=G.far k hk;omega
 refine⟨(h.bel.trans hB).setCell (by simp) _,(h.r.of_block b0).of_block (hk _ (by omega)),fun o=> ?_,(h.c.of_block b1).set0 _,fun o=> ?_,?_⟩
 ·rw[K,O b0];exact h.rf o
 ·rw[K,O b1];exact h.cf o
 ·rw[ybF,hs,kI,H]
  refine za ho fun k hk'=>hk k (fun e=> ?_)
  have e1:g=k:=by simpa[Value.ownBlock]using hk'
  have:=G.gc;omega
def vV (X:List Pg.Sp) (v:A):A:=kQ #[v,I (ygv X).t,I (ygv X).l,B P (ygv X).r,I (ygv X).u,I (ygv X).d,B P (ygv X).f,B P (ygw X)]
structure ydk (w:M) (X:List Pg.Sp) (c:Int) (e:Ending) (w':M):Prop where
 end':∃ad cap,e=x (D #[vV X (V ad X.length cap),B P c])/\zh w' ad (tabs X)
 bel:Below w.heap.size w w'
 new:∀g n c d,e=x (D #[vV X (V (N ⟨g,0,J⟩) n c),d])->w.heap.size<=g
theorem yct {F:Nat->Prop} {w w1:M} (h:But F w w1) (r:Nat) (hr:w.heap.size<=r\/F r) (x0 x1 x2 x3 x4 x5 x6 x7:A):
 But F w ((((((((w1.setCell ⟨r,0,J⟩ x0).setCell ⟨r,1,J⟩ x1).setCell ⟨r,2,J⟩ x2).setCell ⟨r,3,J⟩ x3).setCell ⟨r,4,J⟩ x4).setCell ⟨r,5,J⟩ x5).setCell ⟨r,6,J⟩ x6).setCell ⟨r,7,J⟩ x7):=
 (((((((h.setCell (a:=⟨r,0,J⟩) hr x0).setCell (a:=⟨r,1,J⟩) hr x1).setCell (a:=⟨r,2,J⟩) hr x2).setCell (a:=⟨r,3,J⟩) hr x3).setCell (a:=⟨r,4,J⟩) hr x4).setCell (a:=⟨r,5,J⟩) hr x5).setCell (a:=⟨r,6,J⟩) hr x6).setCell (a:=⟨r,7,J⟩) hr x7
theorem jv {b g0 g1:Nat} {vm:A} {S:Pg.Fs} (t p:Int) (w:M) (h:zg w b g0 g1 vm S):
 kX Tryz.prog 71 #[kK (N ⟨b,0,J⟩),B P t,B P p] w fun e w'=>ydk w (zt S t p) (qq S t p) e w':=by
 cases hp:Pg.below p 4096
 ·have e1:zt S t p=[]:=by simp[zt,hp]
  have e2:qq S t p=1:=by simp[qq,hp]
  rw[e1,e2]
  have hq:decide (p<0)=U\/(decide (p<0)=C/\4096<=p):=by
   rcases Pg.below_not.1 hp with h|h
   ·exact .inl (by simpa using h)
   ·exact .inr ⟨by simp;omega,h⟩
  clear h e1 e2 hp;rcases hq with hq|⟨hq,hq2⟩
  all_goals
   go_enter Tryz.func71,Tryz.ntmps71
   go_wp2_with fail
   refine Z (v:=D #[vV [] (V J 0 0),B P 1]) ?_ rfl ⟨⟨J,0,rfl,fun j hj=>absurd hj (by simp[tabs])⟩,?_,fun _ _ _ _ h=>by simp[vV]at h⟩
   ·simp[results,Tryz.results71,go_sem,vV,ygw,ygv,Pg.En.zero]
   ·exact zA (zR w) _
 ·obtain⟨p0,p1⟩:=Pg.zB.1 hp
  have HM:Q _:=h;have HP:Q _:=hp
  have e2:qq S t p=(Pg.thr S (Pg.onW p) 3 t 0).2:=by simp[qq,hp]
  have e1:zt S t p=if (Pg.thr S (Pg.onW p) 3 t 0).2=0 then(Pg.thr S (Pg.onW p) 3 t 0).1 else []:=by simp[zt,hp]
  rw[e1,e2]
  have d0:decide (p<0)=C:=by simpa using p0
  have d1:¬(4096:Int)<=p:=by omega
  have HW:Q (ji w [] 3 (V J 0 0) ((w.alloc (y #[V J 0 0,I C,I C,B P 0,I C,I C,B P 0,B P 0] 142)).alloc (y #[V J 0 0,I C,I C,B P 0,I C,I C,B P 0,B P 3] 142))):=by
   refine⟨zA (zA (zR w) _) _,?_,fun o=>by simp[go_sem],?_,fun o=>by simp[go_sem],World.ownsRow_nil _ _ _ _⟩
   ·refine⟨?_,?_,?_,?_,?_,?_,?_,?_⟩<;>simp[go_sem,Pg.En.zero]
   ·refine⟨?_,?_,?_,?_,?_,?_,?_,?_⟩<;>simp[go_sem,Pg.En.zero]
  clear h e1 e2 hp;obtain⟨q0,hq,hz0,hz1,hz2⟩:=info_parts qu;generalize hth:Pg.thr S (Pg.onW p) 3 t 0=th;have HTH:Q _:=hth;clear hth;obtain⟨Xf,HXF⟩:∃Xf,Q (Xf=if th.2=0 then th.1 else []):=⟨_,rfl⟩;obtain⟨cf,HCF⟩:∃cf,Q (cf=th.2):=⟨_,rfl⟩;rw[<-HXF.out,<-HCF.out]
  go_enter Tryz.func71,Tryz.ntmps71
  go_wp2_with fail
  go_loopw [9] (fun i wr=>∃(lv:Nat) (t':Int) (a:Nat) (X:List Pg.Sp) (vb:A),i=B P t'/\lv<4/\X.length+lv=3/\Q (ji w X lv vb wr/\th=(X++(Pg.thr S (Pg.onW p) lv t' a).1,(Pg.thr S (Pg.onW p) lv t' a).2))) (fun _ wr=>match wr.cell? ⟨w.heap.size+1,7,J⟩with|some v=>(intOf v).toNat|none=>0)
  case atStart=>exact⟨3,t,0,[],V J 0 0,rfl,by omega,rfl,HW.out,by rw[HTH.out];rfl⟩
  case round=>
   obtain⟨lv,t',a,X,vb,rfl,hlv,hXl,HR⟩:=hrel;clear HW;have hthw:=Pg.yhC S p lv t' a;have HM2:Q _:=HM.out.keep (F:=fun k=>w.heap.size<=k) (w':=wr) ⟨HR.out.1.bel.os,HR.out.1.bel.tape,HR.out.1.bel.output,HR.out.1.bel.size,fun k hk _=>HR.out.1.bel.block k hk⟩ (fun k hk=>by have:=HM.out.raw.lt hk;omega);have HT:=zy t' wr HM2.out;have hlr:=HR.out.1.r.lb;have hlc:=HR.out.1.c.lb;have hrf:=HR.out.1.rf;have hcf:=HR.out.1.cf;obtain⟨r0,r1,r2,r3,r4,r5,r6,r7⟩:=HR.out.1.r;obtain⟨k0,k1,k2,k3,k4,k5,k6,k7⟩:=HR.out.1.c;simp only[Pg.En.zero]at r1 r2 r3 r4 r5 r6 k1 k2 k3 k4 k5 k6;cases hh:S.has t'
   ·have hrc:Pg.ygy S t' (Pg.ix p lv) lv=12:=by simp[Pg.ygy,hh]
    rw[hrc,if_pos (by decide)]at hthw
    have HE:Q (Xf=[]/\cf=12):=by
     have h1:=HR.out.2;rw[hthw]at h1;rw[Q,HXF.out,HCF.out,h1];simp
    rw[hh]at HT;clear hthw hrc hh
    go_wp2_with (go_at_call 103;refine HT.mono ?_;rintro e w1 ⟨rfl,hw⟩;subst w1)
    refine Z (v:=D #[vV [] (V J 0 0),B P 12]) ?_ rfl ?_
    ·simp[results,Tryz.results71,go_sem,vV,ygw,ygv,Pg.En.zero,r0,r1,r2,r3,r4,r5,r6,r7]
    ·rw[HE.out.1,HE.out.2]
     have hbt:=yct (But.refl (fun k=>k=w.heap.size) wr) w.heap.size (.inr rfl) (V J 0 0) (I C) (I C) (B P 0) (I C) (I C) (B P 0) (B P 0);exact⟨⟨J,0,rfl,fun j hj=>absurd hj (by simp[tabs])⟩,HR.out.1.bel.trans (hbt.below HR.out.1.bel.size fun k hk=>by omega),fun _ _ _ _ h=>by simp[vV]at h⟩
   ·obtain⟨t0,t1,_⟩:=HM2.out.ok.ygG hh
    obtain⟨tn,rfl⟩:=kC t0;have hix:=Pg.yhs p lv;have hsm:=HM2.out.ok.small;have m0:=HM2.out.raw.c0;have mw:=HM2.out.raw.cw tn (Pg.ix p lv) (by omega) hix;have u0:=HM2.out.ok.low tn (Pg.ix p lv);have u1:=HM2.out.ok.high tn (Pg.ix p lv)
    have hrc:Pg.ygy S (tn:Int) (Pg.ix p lv) lv=Pg.ygz (S.word tn (Pg.ix p lv)) lv:=by simp[Pg.ygy,hh]
    have hre:Pg.rEn S (tn:Int) (Pg.ix p lv) lv=Pg.En.of (S.word tn (Pg.ix p lv)) lv:=by simp[Pg.rEn,hh]
    have HIx:=zG p (lv:Int);rw[Pg.ygA HP.out hlv]at HIx;have HEO:=qr (S.word tn (Pg.ix p lv)) (lv:Int) u0 u1;rw[Pg.yhd,<-hre,<-hrc]at HEO;rw[hh]at HT;generalize S.word tn (Pg.ix p lv)=W at*;clear hre hrc hh u0 u1 t0;have HTW:Q _:=hthw;have HSP:Q (∀a,Pg.spt S (tn:Int) (Pg.ix p lv) lv a=⟨(tn:Int),Pg.ix p lv,lv,a+Pg.ix p lv,Pg.rEn S (tn:Int) (Pg.ix p lv) lv⟩):=fun a=>rfl;have HON:Q _:= @Pg.yhz S (tn:Int) (Pg.ix p lv) lv;clear hthw;generalize Pg.ygy S (tn:Int) (Pg.ix p lv) lv=rc at*;generalize Pg.rEn S (tn:Int) (Pg.ix p lv) lv=E at*;generalize hixx:Pg.ix p lv=ix at*;have HIXX:Q _:=hixx;clear hixx;obtain⟨et,el,er,eu,ed,ef⟩:=E;simp only[Pg.En.val]at HEO
    have i0:(0:Int)<=(tn:Int):=by omega
    have i1:(tn:Int)<(S.n:Int):=by omega
    have i2:(0:Int)<=(ix:Int):=by omega
    have i3:(ix:Int)<8:=by omega
    have M0:=kS m0;have MW:=kS mw;have K7:=kS k7
    go_wp2_with (go_at_call 103;refine HT.mono ?_;rintro e w1 ⟨rfl,hw⟩;subst w1)
    have hbl:=HM2.out.raw.lb;have hgl:=HM2.out.raw.l0
    have xn0:wr.heap.size≠b:=by omega
    have xm0:b≠wr.heap.size:=by omega
    have xn1:wr.heap.size≠g0:=by omega
    have xm1:g0≠wr.heap.size:=by omega
    have xn2:wr.heap.size≠w.heap.size+1:=by omega
    have xm2:w.heap.size+1≠wr.heap.size:=by omega
    go_region_held3 (fun w'=>w'.cell? ⟨b,0,J⟩=N (V (N ⟨g0,0,J⟩) S.n S.n)/\w'.cell? ⟨g0,tn*8+ix,J⟩=N (B kV W)/\w'.cell? ⟨w.heap.size+1,7,J⟩=N (B P (lv:Int))) (go_keep) (first
     | (go_at_call 104;refine(HIx _).mono ?_;rintro e w2 ⟨rfl,hb2⟩;have HB2:Q _:=hb2;have z0:w2.cell? ⟨b,0,J⟩=N (V (N ⟨g0,0,J⟩) S.n S.n):=(hb2.cell (p:=⟨b,0,J⟩) (by first|omega|(simp;omega))).trans (by first|exact m0|(simp[go_sem,m0,hbl];done));have zl0:=T _ _ z0;simp only at zl0;have z1:w2.cell? ⟨g0,tn*8+ix,J⟩=N (B kV W):=(hb2.cell (p:=⟨g0,tn*8+ix,J⟩) (by first|omega|(simp;omega))).trans (by first|exact mw|(simp[go_sem,mw,hgl];done));have zl1:=T _ _ z1;simp only at zl1;have z2:w2.cell? ⟨w.heap.size+1,7,J⟩=N (B P (lv:Int)):=(hb2.cell (p:=⟨w.heap.size+1,7,J⟩) (by first|omega|(simp;omega))).trans (by first|exact k7|(simp[go_sem,k7,hlc];done));have zl2:=T _ _ z2;simp only at zl2;(try have s2:wr.heap.size<w2.heap.size:=(by have:=hb2.size;simp at this;omega));have zn0:w2.heap.size≠b:=(by omega);have zm0:b≠w2.heap.size:=(by omega);have zn1:w2.heap.size≠g0:=(by omega);have zm1:g0≠w2.heap.size:=(by omega);have zn2:w2.heap.size≠w.heap.size+1:=(by omega);have zm2:w.heap.size+1≠w2.heap.size:=(by omega);obtain⟨hcw2,hfw2⟩:=xE hb2;clear hb2)
     | (go_at_call 105;refine(HEO _).mono ?_;rintro e w3 ⟨rfl,hb3⟩;have HB3:Q _:=hb3;have y0:w3.cell? ⟨b,0,J⟩=N (V (N ⟨g0,0,J⟩) S.n S.n):=(hb3.cell (p:=⟨b,0,J⟩) (by first|omega|(simp;omega))).trans (by first|exact z0|(simp[go_sem,z0,zl0];done));have yl0:=T _ _ y0;simp only at yl0;have y1:w3.cell? ⟨g0,tn*8+ix,J⟩=N (B kV W):=(hb3.cell (p:=⟨g0,tn*8+ix,J⟩) (by first|omega|(simp;omega))).trans (by first|exact z1|(simp[go_sem,z1,zl1];done));have yl1:=T _ _ y1;simp only at yl1;have y2:w3.cell? ⟨w.heap.size+1,7,J⟩=N (B P (lv:Int)):=(hb3.cell (p:=⟨w.heap.size+1,7,J⟩) (by first|omega|(simp;omega))).trans (by first|exact z2|(simp[go_sem,z2,zl2];done));have yl2:=T _ _ y2;simp only at yl2;have yn0:w3.heap.size≠b:=(by omega);have ym0:b≠w3.heap.size:=(by omega);have yn1:w3.heap.size≠g0:=(by omega);have ym1:g0≠w3.heap.size:=(by omega);have yn2:w3.heap.size≠w.heap.size+1:=(by omega);have ym2:w.heap.size+1≠w3.heap.size:=(by omega);obtain⟨hcw3,hfw3⟩:=xE hb3;clear hb3))
    focus
     have hW5:Below wr.heap.size wr (w3.alloc (y #[I et,I el,B P er,I eu,I ed,B P ef] 70))/\wr.heap.size<=w3.heap.size/\((w3.alloc (y #[I et,I el,B P er,I eu,I ed,B P ef] 70)).cell? ⟨w3.heap.size,0,J⟩=N (I et)/\(w3.alloc (y #[I et,I el,B P er,I eu,I ed,B P ef] 70)).cell? ⟨w3.heap.size,1,J⟩=N (I el)/\(w3.alloc (y #[I et,I el,B P er,I eu,I ed,B P ef] 70)).cell? ⟨w3.heap.size,2,J⟩=N (B P er)/\(w3.alloc (y #[I et,I el,B P er,I eu,I ed,B P ef] 70)).cell? ⟨w3.heap.size,3,J⟩=N (I eu)/\(w3.alloc (y #[I et,I el,B P er,I eu,I ed,B P ef] 70)).cell? ⟨w3.heap.size,4,J⟩=N (I ed)/\(w3.alloc (y #[I et,I el,B P er,I eu,I ed,B P ef] 70)).cell? ⟨w3.heap.size,5,J⟩=N (B P ef)):=by
      have hB3:=zT (zT (zR wr).drew HB2.out) HB3.out;exact⟨zA hB3 _,hB3.size,by simp[go_sem]⟩
     generalize w3.alloc (y #[I et,I el,B P er,I eu,I ed,B P ef] 70)=W5 at*;generalize w3.heap.size=Eb at*;obtain⟨EB0,hEb,hE6⟩:=hW5;have EB:Q _:=EB0;have E6:Q _:=hE6;clear EB0 hE6 hcw2 hfw2 hcw3 hfw3 z0 z1 z2 zl0 zl1 zl2 y0 y1 y2 yl0 yl1 yl2 zn0 zn1 zn2 zm0 zm1 zm2 yn0 yn1 yn2 ym0 ym1 ym2 HB2 HB3
    rotate_left
    focus
     have hW5:Below wr.heap.size wr (((((((w3.setCell ⟨w2.heap.size,0,J⟩ (I et)).setCell ⟨w2.heap.size,1,J⟩ (I el)).setCell ⟨w2.heap.size,2,J⟩ (B P er)).setCell ⟨w2.heap.size,3,J⟩ (I eu)).setCell ⟨w2.heap.size,4,J⟩ (I ed)).setCell ⟨w2.heap.size,5,J⟩ (B P ef)))/\wr.heap.size<=w2.heap.size/\((((((((w3.setCell ⟨w2.heap.size,0,J⟩ (I et)).setCell ⟨w2.heap.size,1,J⟩ (I el)).setCell ⟨w2.heap.size,2,J⟩ (B P er)).setCell ⟨w2.heap.size,3,J⟩ (I eu)).setCell ⟨w2.heap.size,4,J⟩ (I ed)).setCell ⟨w2.heap.size,5,J⟩ (B P ef))).cell? ⟨w2.heap.size,0,J⟩=N (I et)/\(((((((w3.setCell ⟨w2.heap.size,0,J⟩ (I et)).setCell ⟨w2.heap.size,1,J⟩ (I el)).setCell ⟨w2.heap.size,2,J⟩ (B P er)).setCell ⟨w2.heap.size,3,J⟩ (I eu)).setCell ⟨w2.heap.size,4,J⟩ (I ed)).setCell ⟨w2.heap.size,5,J⟩ (B P ef))).cell? ⟨w2.heap.size,1,J⟩=N (I el)/\(((((((w3.setCell ⟨w2.heap.size,0,J⟩ (I et)).setCell ⟨w2.heap.size,1,J⟩ (I el)).setCell ⟨w2.heap.size,2,J⟩ (B P er)).setCell ⟨w2.heap.size,3,J⟩ (I eu)).setCell ⟨w2.heap.size,4,J⟩ (I ed)).setCell ⟨w2.heap.size,5,J⟩ (B P ef))).cell? ⟨w2.heap.size,2,J⟩=N (B P er)/\(((((((w3.setCell ⟨w2.heap.size,0,J⟩ (I et)).setCell ⟨w2.heap.size,1,J⟩ (I el)).setCell ⟨w2.heap.size,2,J⟩ (B P er)).setCell ⟨w2.heap.size,3,J⟩ (I eu)).setCell ⟨w2.heap.size,4,J⟩ (I ed)).setCell ⟨w2.heap.size,5,J⟩ (B P ef))).cell? ⟨w2.heap.size,3,J⟩=N (I eu)/\(((((((w3.setCell ⟨w2.heap.size,0,J⟩ (I et)).setCell ⟨w2.heap.size,1,J⟩ (I el)).setCell ⟨w2.heap.size,2,J⟩ (B P er)).setCell ⟨w2.heap.size,3,J⟩ (I eu)).setCell ⟨w2.heap.size,4,J⟩ (I ed)).setCell ⟨w2.heap.size,5,J⟩ (B P ef))).cell? ⟨w2.heap.size,4,J⟩=N (I ed)/\(((((((w3.setCell ⟨w2.heap.size,0,J⟩ (I et)).setCell ⟨w2.heap.size,1,J⟩ (I el)).setCell ⟨w2.heap.size,2,J⟩ (B P er)).setCell ⟨w2.heap.size,3,J⟩ (I eu)).setCell ⟨w2.heap.size,4,J⟩ (I ed)).setCell ⟨w2.heap.size,5,J⟩ (B P ef))).cell? ⟨w2.heap.size,5,J⟩=N (B P ef)):=by
      have hB2:=zT (zR wr).drew HB2.out;have hB3:=zT (zA hB2 _) HB3.out
      have h6:w3.cell? ⟨w2.heap.size,0,J⟩=N (I C)/\w3.cell? ⟨w2.heap.size,1,J⟩=N (I C)/\w3.cell? ⟨w2.heap.size,2,J⟩=N (B P 0)/\w3.cell? ⟨w2.heap.size,3,J⟩=N (I C)/\w3.cell? ⟨w2.heap.size,4,J⟩=N (I C)/\w3.cell? ⟨w2.heap.size,5,J⟩=N (B P 0):=by
       refine⟨?_,?_,?_,?_,?_,?_⟩<;>(rw[hcw3 _ _ (by simp)];simp[go_sem])
      have hst:=vJ (v0:=I et) (v1:=I el) (v2:=B P er) (v3:=I eu) (v4:=I ed) (v5:=B P ef) hB3 hB2.size h6;exact⟨hst.1,hB2.size,hst.2.1⟩
     generalize ((((((w3.setCell ⟨w2.heap.size,0,J⟩ (I et)).setCell ⟨w2.heap.size,1,J⟩ (I el)).setCell ⟨w2.heap.size,2,J⟩ (B P er)).setCell ⟨w2.heap.size,3,J⟩ (I eu)).setCell ⟨w2.heap.size,4,J⟩ (I ed)).setCell ⟨w2.heap.size,5,J⟩ (B P ef))=W5 at*;generalize w2.heap.size=Eb at*;obtain⟨EB0,hEb,hE6⟩:=hW5;have EB:Q _:=EB0;have E6:Q _:=hE6;clear EB0 hE6 hcw2 hfw2 hcw3 hfw3 z0 z1 z2 zl0 zl1 zl2 y0 y1 y2 yl0 yl1 yl2 zn0 zn1 zn2 zm0 zm1 zm2 yn0 yn1 yn2 ym0 ym1 ym2 HB2 HB3
    rotate_left
    focus
     obtain⟨Eb,hEbE⟩:∃Eb,Eb=wr.heap.size:=⟨_,rfl⟩;rw[<-hEbE]
     have hW5:Below wr.heap.size wr (((((((w3.setCell ⟨Eb,0,J⟩ (I et)).setCell ⟨Eb,1,J⟩ (I el)).setCell ⟨Eb,2,J⟩ (B P er)).setCell ⟨Eb,3,J⟩ (I eu)).setCell ⟨Eb,4,J⟩ (I ed)).setCell ⟨Eb,5,J⟩ (B P ef)))/\wr.heap.size<=Eb/\((((((((w3.setCell ⟨Eb,0,J⟩ (I et)).setCell ⟨Eb,1,J⟩ (I el)).setCell ⟨Eb,2,J⟩ (B P er)).setCell ⟨Eb,3,J⟩ (I eu)).setCell ⟨Eb,4,J⟩ (I ed)).setCell ⟨Eb,5,J⟩ (B P ef))).cell? ⟨Eb,0,J⟩=N (I et)/\(((((((w3.setCell ⟨Eb,0,J⟩ (I et)).setCell ⟨Eb,1,J⟩ (I el)).setCell ⟨Eb,2,J⟩ (B P er)).setCell ⟨Eb,3,J⟩ (I eu)).setCell ⟨Eb,4,J⟩ (I ed)).setCell ⟨Eb,5,J⟩ (B P ef))).cell? ⟨Eb,1,J⟩=N (I el)/\(((((((w3.setCell ⟨Eb,0,J⟩ (I et)).setCell ⟨Eb,1,J⟩ (I el)).setCell ⟨Eb,2,J⟩ (B P er)).setCell ⟨Eb,3,J⟩ (I eu)).setCell ⟨Eb,4,J⟩ (I ed)).setCell ⟨Eb,5,J⟩ (B P ef))).cell? ⟨Eb,2,J⟩=N (B P er)/\(((((((w3.setCell ⟨Eb,0,J⟩ (I et)).setCell ⟨Eb,1,J⟩ (I el)).setCell ⟨Eb,2,J⟩ (B P er)).setCell ⟨Eb,3,J⟩ (I eu)).setCell ⟨Eb,4,J⟩ (I ed)).setCell ⟨Eb,5,J⟩ (B P ef))).cell? ⟨Eb,3,J⟩=N (I eu)/\(((((((w3.setCell ⟨Eb,0,J⟩ (I et)).setCell ⟨Eb,1,J⟩ (I el)).setCell ⟨Eb,2,J⟩ (B P er)).setCell ⟨Eb,3,J⟩ (I eu)).setCell ⟨Eb,4,J⟩ (I ed)).setCell ⟨Eb,5,J⟩ (B P ef))).cell? ⟨Eb,4,J⟩=N (I ed)/\(((((((w3.setCell ⟨Eb,0,J⟩ (I et)).setCell ⟨Eb,1,J⟩ (I el)).setCell ⟨Eb,2,J⟩ (B P er)).setCell ⟨Eb,3,J⟩ (I eu)).setCell ⟨Eb,4,J⟩ (I ed)).setCell ⟨Eb,5,J⟩ (B P ef))).cell? ⟨Eb,5,J⟩=N (B P ef)):=by
      subst hEbE;have hB2:=zT (zA (zR wr) _).drew HB2.out;have hB3:=zT hB2 HB3.out
      have h6:w3.cell? ⟨wr.heap.size,0,J⟩=N (I C)/\w3.cell? ⟨wr.heap.size,1,J⟩=N (I C)/\w3.cell? ⟨wr.heap.size,2,J⟩=N (B P 0)/\w3.cell? ⟨wr.heap.size,3,J⟩=N (I C)/\w3.cell? ⟨wr.heap.size,4,J⟩=N (I C)/\w3.cell? ⟨wr.heap.size,5,J⟩=N (B P 0):=by
       refine⟨?_,?_,?_,?_,?_,?_⟩<;>(rw[hcw3 _ _ s2,hcw2 _ _ (by simp)];simp[go_sem])
      have hst:=vJ (v0:=I et) (v1:=I el) (v2:=B P er) (v3:=I eu) (v4:=I ed) (v5:=B P ef) hB3 (Nat.le_refl _) h6;exact⟨hst.1,Nat.le_refl _,hst.2.1⟩
     generalize ((((((w3.setCell ⟨Eb,0,J⟩ (I et)).setCell ⟨Eb,1,J⟩ (I el)).setCell ⟨Eb,2,J⟩ (B P er)).setCell ⟨Eb,3,J⟩ (I eu)).setCell ⟨Eb,4,J⟩ (I ed)).setCell ⟨Eb,5,J⟩ (B P ef))=W5 at*;obtain⟨EB0,hEb,hE6⟩:=hW5;have EB:Q _:=EB0;have E6:Q _:=hE6;clear EB0 hE6 hEbE hcw2 hfw2 hcw3 hfw3 z0 z1 z2 zl0 zl1 zl2 y0 y1 y2 yl0 yl1 yl2 zn0 zn1 zn2 zm0 zm1 zm2 yn0 yn1 yn2 ym0 ym1 ym2 HB2 HB3
    rotate_left
    all_goals
     have hlEb:=T _ _ E6.out.1;simp only at hlEb;have W5A:Q (ji w X lv vb W5):=HR.out.1.grow EB.out;have hvb:Q (∀k,vb.ownBlock=N k->k<wr.heap.size):=fun k hk=>(kT.lt HR.out.1.own k hk).2;clear r0 r1 r2 r3 r4 r5 r6 r7 k0 k1 k2 k3 k4 k5 k6 k7 m0 mw M0 MW K7 hrf hcf HT HIx HEO;have hrf:=W5A.out.rf;have hcf:=W5A.out.cf;obtain⟨r0,r1,r2,r3,r4,r5,r6,r7⟩:=W5A.out.r;obtain⟨k0,k1,k2,k3,k4,k5,k6,k7⟩:=W5A.out.c;simp only[Pg.En.zero]at r1 r2 r3 r4 r5 r6 k1 k2 k3 k4 k5 k6;have hlr5:=W5A.out.r.lb;have hlc5:=W5A.out.c.lb
     have nE1:Eb≠w.heap.size:=by omega
     have nE2:Eb≠w.heap.size+1:=by omega
     by_cases hrc:rc=0
     ·subst hrc
      have hown:W5.ownsRow (w.heap.size+1+1) 3 1 vb X.length (zr (tabs X)):=W5A.out.own
      go_wp2_with (first
       | (at_builtin;refine wpList_append_lies _ rfl _ _ 45 rfl (w.heap.size+1+1) 3 q0 (B P 0) 1 8 Tryz.underlying45 hq hz0 hz1 hz2 rfl (by decide) _ _ _ rfl (hown.alloc _) ⟨W5.heap.size,0,J⟩ 1 1 [B P (tn:Int)] rfl rfl ?c1 ?c2 (by decide) ?c3 ?c4 ?c5 (W5.heap.size+1) (by simp) ?_))
      case c1=>
       intro j u hj
       match j,hj with
       | 0,hj=>simp at hj;subst hj;simp[Addr.add,go_sem]
      case c2=>intro u hu;simp at hu;subst hu;rfl
      case c3=>unfold maxLen;omega
      case c4=>omega
      case c5=>simp;omega
      intro g cap w6 hown6 hgrow6 hat6 hlt6;have G6:Q _:=yfn hown hgrow6 hat6 hlc5 hlt6
      have hblkE:w6.heap[Eb]?=W5.heap[Eb]?:=G6.out.but.block Eb hlEb fun e=>by have:=hvb.out Eb e;omega
      obtain⟨x0,x1,x2,x3,x4,x5⟩:=E6.out
      replace x0:=(Y hblkE).trans x0
      replace x1:=(Y hblkE).trans x1
      replace x2:=(Y hblkE).trans x2
      replace x3:=(Y hblkE).trans x3
      replace x4:=(Y hblkE).trans x4
      replace x5:=(Y hblkE).trans x5
      have b0:w6.heap[w.heap.size]?=W5.heap[w.heap.size]?:=G6.out.but.block _ hlr5 fun e=>by have:=G6.out.far _ e;omega
      have b1:w6.heap[w.heap.size+1]?=W5.heap[w.heap.size+1]?:=G6.out.but.block _ hlc5 fun e=>by have:=G6.out.far _ e;omega
      have A7:Q (ji w (X++[⟨(tn:Int),ix,lv,a+ix,⟨et,el,er,eu,ed,ef⟩⟩]) lv (V (N ⟨g,0,J⟩) (X.length+1) cap) (w6.setCell ⟨w.heap.size+1,0,J⟩ (V (N ⟨g,0,J⟩) (X.length+1) cap))):=W5A.out.push G6.out hown6 _ rfl;clear r0 r1 r2 r3 r4 r5 r6 r7 k0 k1 k2 k3 k4 k5 k6 k7 hrf hcf;obtain⟨r0,r1,r2,r3,r4,r5,r6,r7⟩:=W5A.out.r.of_block b0;obtain⟨k0,k1,k2,k3,k4,k5,k6,k7⟩:=W5A.out.c.of_block b1;simp only[Pg.En.zero]at r1 r2 r3 r4 r5 r6 k1 k2 k3 k4 k5 k6;have hrf:∀o,w6.frozen? ⟨w.heap.size,o,J⟩=C:=fun o=>(O b0).trans (W5A.out.rf o);have hcf:∀o,w6.frozen? ⟨w.heap.size+1,o,J⟩=C:=fun o=>(O b1).trans (W5A.out.cf o)
      have hl6:w.heap.size+1<w6.heap.size:=by have:=G6.out.but.size;omega
      have hlE6:Eb<w6.heap.size:=by have:=G6.out.but.size;omega
      clear hown6 hgrow6 hat6 hlt6 b0 b1 hblkE hown
      have hend:et=C\/(et=U/\el=U)\/(et=U/\el=C):=by cases et<;>cases el<;>simp
      rcases hend with rfl|⟨rfl,rfl⟩|⟨rfl,rfl⟩
      focus
       have HX2:Q (Xf=X++[⟨(tn:Int),ix,lv,a+ix,⟨C,el,er,eu,ed,ef⟩⟩]/\cf=0):=by
        have h1:=HR.out.2;rw[HTW.out,if_neg (by simp),if_pos (by simp[Pg.En.on]),HSP.out]at h1;rw[Q,HXF.out,HCF.out,h1];simp
       obtain⟨sp,hsp⟩:∃sp:Pg.Sp,sp=⟨(tn:Int),ix,lv,a+ix,⟨C,el,er,eu,ed,ef⟩⟩:=⟨_,rfl⟩
       have HSE:Q (sp.e=⟨C,el,er,eu,ed,ef⟩/\sp.level=lv):=by rw[hsp];exact⟨rfl,rfl⟩
       rw[<-hsp]at A7 HX2;clear hsp
      rotate_left
      focus
       have HX2:Q (Xf=X++[⟨(tn:Int),ix,lv,a+ix,⟨U,U,er,eu,ed,ef⟩⟩]/\cf=0):=by
        have h1:=HR.out.2;rw[HTW.out,if_neg (by simp),if_pos (by simp[Pg.En.on]),HSP.out]at h1;rw[Q,HXF.out,HCF.out,h1];simp
       obtain⟨sp,hsp⟩:∃sp:Pg.Sp,sp=⟨(tn:Int),ix,lv,a+ix,⟨U,U,er,eu,ed,ef⟩⟩:=⟨_,rfl⟩
       have HSE:Q (sp.e=⟨U,U,er,eu,ed,ef⟩/\sp.level=lv):=by rw[hsp];exact⟨rfl,rfl⟩
       rw[<-hsp]at A7 HX2;clear hsp
      rotate_left
      focus
       obtain⟨m,hm⟩:=HON.out rfl
       have hlm:(lv:Int)-1=(m:Int):=by omega
       have hlm1:(1:Int)<=(lv:Int):=by omega
       go_wp2_with fail
       have A8:=A7.out.lower (m:Int);refine⟨⟨m,ef,(a+ix)*8,X++[⟨(tn:Int),ix,lv,a+ix,⟨U,C,er,eu,ed,ef⟩⟩],V (N ⟨g,0,J⟩) (X.length+1) cap,rfl,by omega,by rw[kI,H];omega,A8,?_⟩,?_⟩
       ·have h1:=HR.out.2
        rw[HTW.out,if_neg (by simp),if_neg (by simp[Pg.En.on]),HSP.out,hm]at h1;rw[h1,hm];simp[Pg.sub]
       ·have q1:=A8.c.2.2.2.2.2.2.2
        have q2:=HR.out.1.c.2.2.2.2.2.2.2;rw[q1,q2];simp[intOf];omega
      all_goals
       go_wp2_with fail
       have HV:Q (vV (X++[sp]) (V (N ⟨g,0,J⟩) (X.length+1) cap)=kQ #[V (N ⟨g,0,J⟩) (X.length+1) cap,I sp.e.t,I sp.e.l,B P sp.e.r,I sp.e.u,I sp.e.d,B P sp.e.f,B P (sp.level:Int)]):=by rw[Q,vV,jI,jJ]
       rw[HSE.out.1,HSE.out.2]at HV;refine Z (v:=D #[vV (X++[sp]) (V (N ⟨g,0,J⟩) (X.length+1) cap),B P 0]) ?_ rfl ?_
       ·rw[HV.out]
        simp[results,Tryz.results71,go_sem,r0,r1,r2,r3,r4,r5,r6,r7]
       ·rw[HX2.out.1,HX2.out.2]
        have fin:∀Wf,But (fun k=>k=w.heap.size+1\/k=w.heap.size) (w6.setCell ⟨w.heap.size+1,0,J⟩ (V (N ⟨g,0,J⟩) (X.length+1) cap)) Wf->ydk w (X++[sp]) 0 (x (D #[vV (X++[sp]) (V (N ⟨g,0,J⟩) (X.length+1) cap),B P 0])) Wf:=fun Wf hbt=>by
         refine⟨⟨N ⟨g,0,J⟩,cap,by rw[kI,H],?_⟩,A7.out.bel.trans (hbt.below A7.out.bel.size fun k hk=>by omega),fun g' _ _ _ h=> ?_⟩
         rotate_left
         ·have e:g=g':=by simp[vV]at h;exact h.1.1
          have:=(kT.lt A7.out.own g rfl).1;omega
         refine qb (base:=w.heap.size+1+1) (n:=X.length+1) (cap:=cap) ?_;rw[xM]
         exact zb A7.out.own hbt fun k hk e=>by have:=(kT.lt A7.out.own k hk).1;omega
        refine fin _ ?_
        iterate 8 refine But.setCell ?_ (.inr (.inr rfl)) _
        iterate 6 refine But.setCell ?_ (.inr (.inl rfl)) _
        exact But.refl _ _
     ·have hcb:(rc !=0)=U:=by simp[hrc]
      have HX2:Q (Xf=[]/\cf=rc):=by
       have h1:=HR.out.2;rw[HTW.out,if_pos hrc]at h1;rw[Q,HXF.out,HCF.out,h1];simp[hrc]
      clear hrc
      go_wp2_with fail
      refine Z (v:=D #[vV [] (V J 0 0),B P rc]) ?_ rfl ?_
      ·simp[results,Tryz.results71,go_sem,vV,ygw,ygv,Pg.En.zero,r0,r1,r2,r3,r4,r5,r6,r7]
      ·rw[HX2.out.1,HX2.out.2]
       have hbt:=yct (But.refl (fun k=>k=w.heap.size) W5) w.heap.size (.inr rfl) (V J 0 0) (I C) (I C) (B P 0) (I C) (I C) (B P 0) (B P 0);exact⟨⟨J,0,rfl,fun j hj=>absurd hj (by simp[tabs])⟩,W5A.out.bel.trans (hbt.below W5A.out.bel.size fun k hk=>by omega),fun _ _ _ _ h=>by simp[vV]at h⟩
end
end Go.Proofs.YtdphiompijbelaaGreat
