import Derived.Test.YtdphiompijbelaaGreatEntryRef
import Derived.Test.YtdphiompijbelaaGreatTabCp
set_option linter.all false
set_option maxRecDepth 100000
open Int renaming tmod_eq_emod_of_nonneg->x,eq_ofNat_of_zero_le->z,toNat_natCast->kh
open Go.Obj renaming cells->A
open Go.Ending renaming returned->D
open List renaming length_singleton->M,length_append->H,take_succ_cons->ki,drop_succ_cons->kp,take_zero->uv,drop_zero->ud
open Go renaming World->O
open Go.World renaming cell?_setCell_other->R,cell?_of_block->Y,block_lt_of_cell?->T,frozen?_of_block->Z,frozen?_setCell->U,cell?_setCell_same->y,ownsRow->ks
open Bool renaming false->C,true->Q
open Go.IntKind renaming i64->P,u64->un
open Option renaming none->J,some->N
open Go.Value renaming bool->I,int->B,slice->V,tuple->K,bool->kO,agg->ur,int->uc,pointer->ua
set_option maxHeartbeats 8000000
namespace Go.Proofs.YtdphiompijbelaaGreat
open Go.RowKit Go.Sort
attribute [local go_sem] Loose.gent
theorem ygg (W:Int) (h0:0<=W) (h1:W<18446744073709551616) (k:Nat) (hk:k<64) (b:Nat) (w:O) (hc:w.cell? ⟨b,0,J⟩=N (B un W)):
 Calls Tryz.prog 151 #[B un (k:Int),ua (N ⟨b,0,J⟩)] w fun e w'=>e=D (I (Pg.bit W k))/\w'=w:=by
 have hq:0<=W/2^k:=Int.ediv_nonneg h0 (Int.pow_nonneg (by decide))
 have HQ:Hid (((W/2^k).tmod 2==1)=Pg.bit W k):=by
  show((W/2^k).tmod 2==1)=decide (W/2^k%2=1)
  rw[x hq,Bool.eq_iff_iff];simp
 clear hq
 go_enter Tryz.func151,Tryz.ntmps151
 go_wp2_with fail
 go_ret
 exact⟨xB HQ.out,rfl⟩
theorem ycc (W:Int) (h0:0<=W) (h1:W<18446744073709551616) (k:Int) (n:Nat) (hn:k.toNat=n) (k0:0<=k) (k1:k<64) (b:Nat) (w:O) (hc:w.cell? ⟨b,0,J⟩=N (B un W)):
 Calls Tryz.prog 151 #[B un k,ua (N ⟨b,0,J⟩)] w fun e w'=>e=D (I (Pg.bit W n))/\w'=w:=by
 obtain⟨m,rfl⟩:=z k0;rw[kh]at hn;subst hn;exact ygg W h0 h1 _ (by omega) b w hc
theorem jy (W lv:Int) (h0:0<=W) (h1:W<18446744073709551616) (w:O):
 Calls Tryz.prog 105 #[B un W,B P lv] w fun e w'=>e=D (Pg.decV W lv)/\Below w.heap.size w w':=by
 by_cases hl:lv<0\/3<lv
 ·have HC:Hid (Pg.yhA W lv=1):=by simp[Hid,Pg.yhA,hl]
  have HV:Hid _:=Pg.yjk HC.out (by simp[Pg.yhF,HC.out]);rcases hl with h|h
  all_goals
   go_enter Tryz.func105,Tryz.ntmps105
   go_wp2_with fail
   refine bodyPost_ret (v:=K #[ur #[I C,I C,B P 0,I C,I C,B P 0],B P 1]) ?_ rfl ⟨by rw[HV.out],?_⟩
   ·simp[results,Tryz.results105,go_sem]
   ·exact zA (zA (zR _) _) _
 ·have l0:0<=lv:=by omega
  have l3:lv<=3:=by omega
  have HL:Hid (¬(lv<0\/3<lv)):=hl;clear hl
  go_enter Tryz.func105,Tryz.ntmps105
  go_wp2_with fail
  go_loop [7] (fun i=>∃k:Nat,k<=64/\i=B un k/\Hid (∀j,j<k->Pg.yhT W lv j=C)) (fun i=>(64-intOf i).toNat)
  case atStart=>exact⟨0,by omega,rfl,fun j hj=>absurd hj (by omega)⟩
  case round=>
   obtain⟨k,hk,rfl,HB⟩:=hrel
   by_cases Hf:k<64
   ·have HN:Hid (Pg.yhT W lv k=C->Hid (∀j,j<k+1->Pg.yhT W lv j=C)):=by
     intro hb j hj
     by_cases e:j=k
     ·rw[e];exact hb
     ·exact HB.out j (by omega)
    have HV:Hid (Pg.yhT W lv k=Q->Pg.decV W lv=K #[ur #[I C,I C,B P 0,I C,I C,B P 0],B P 7]):=by
     intro hb;have:=Pg.bits_of_good h0 Hf hb;have hl:=HL.out
     have hc:Pg.yhA W lv=7:=by simp[Pg.yhA,hl,this]
     exact Pg.yjk hc (by simp[Pg.yhF,hc])
    clear HB;rcases Pg.kint k with ⟨d3,dk⟩|⟨d3,d5,MM,dk⟩|⟨d3,d5,d7,dk⟩|⟨d3,d5,d7,MM,dk⟩|⟨d3,d5,d7,MM,IM,dk⟩|⟨d3,d5,d7,MM,IM,dk⟩
    all_goals
     cases gz:Pg.bit W k
     all_goals
      go_wp2_with (first
       | (go_at_call 151;refine(ycc W h0 h1 _ k ?_ ?_ ?_ _ _ ?_).mono ?_;(exact kh _);(omega);(omega);(go_simp);rintro e w' ⟨rfl,rfl⟩)
       | (go_at_call 151;refine(ycc W h0 h1 _ 0 ?_ ?_ ?_ _ _ ?_).mono ?_;(exact rfl);(omega);(omega);(go_simp);rintro e w' ⟨rfl,rfl⟩))
      all_goals first
       | (go_round
          case rel=>
           refine⟨k+1,by omega,?_,HN.out ?_⟩
           ·first|go_num|(congr 1;omega)
           ·first|exact Pg.bitBad_off gz|exact Pg.yj8 dk ‹Pg.bit W 0=Q› (.inl ‹_›)|exact Pg.yj8 dk ‹Pg.bit W 0=Q› (.inr (of_decide_eq_false ‹(lv==0)=C›))
          case measure=>simp[intOf]<;>omega)
       | (have sD:Pg.yhT W lv k=Q:=by
           first|exact Pg.bitBad_unknown gz dk|exact Pg.bitBad_zero gz ‹Pg.bit W 0=C› |exact Pg.bitBad_seven gz ‹(k:Int)=7› (of_decide_eq_true ‹(lv==0)=Q›)
          refine bodyPost_ret (v:=K #[ur #[I C,I C,B P 0,I C,I C,B P 0],B P 7]) ?_ rfl ⟨by rw[HV.out sD],?_⟩
          ·simp[results,Tryz.results105,go_sem]
          ·exact zA (zA (zR _) _) _)
   ·have Lf:k=64:=by omega
    subst Lf;have hG:=Pg.good_of_bits h0 h1 HB.out;have HG:Hid _:=hG;clear HB Hf hk hG
    by_cases hz:W=0
    ·have HC:Hid (Pg.yhA W lv=0):=by
      have hl:=HL.out;simp[Hid,Pg.yhA,hl,hz,Pg.wBad]
     have HV:Hid _:=Pg.yjk HC.out (by simp[Pg.yhF,hz])
     have Sk:(W==0)=Q:=by simpa using hz
     clear hz
     go_wp2_with fail
     refine bodyPost_ret (v:=K #[ur #[I C,I C,B P 0,I C,I C,B P 0],B P 0]) ?_ rfl ⟨by rw[HV.out],?_⟩
     ·simp[results,Tryz.results105,go_sem]
     ·exact zA (zA (zR _) _) _
    ·have Sk:(W==0)=C:=by simpa using hz
     have HC:Hid (Pg.yhA W lv=Pg.yht Q (Pg.yia W lv) (W/2%8) (Pg.yh2 W) (Pg.yhJ W) (W/4096) lv):=by
      have hl:=HL.out;simp[Hid,Pg.yhA,hl,HG.out,hz]
     have HZ:Hid (W≠0):=hz;clear hz
     obtain⟨L,hL,bO⟩:∃L,Hid (Pg.yia W lv=L)/\((lv==0)=Q/\Q=L\/(lv==0)=C/\Pg.bit W 7=L):=by
      by_cases cK:lv=0
      ·exact⟨Q,by simp[Hid,cK,Pg.yia],.inl ⟨by simpa using cK,rfl⟩⟩
      ·refine⟨_,rfl,.inr ⟨by simpa using cK,?_⟩⟩
       simp only[Pg.yia,cK,decide_false,Bool.false_or];rfl
     have lD:Hid (Pg.yhA W lv=Pg.yht Q L (W/2%8) (Pg.yh2 W) (Pg.yhJ W) (W/4096) lv):=by
      have:=HC.out;rw[hL.out]at this;exact this
     have Iq:Hid (Pg.yht Q L (W/2%8) (Pg.yh2 W) (Pg.yhJ W) (W/4096) lv=0->Pg.decV W lv=K #[ur #[I Q,I L,B P (W/2%8),I (Pg.yh2 W),I (Pg.yhJ W),B P (W/4096)],B P 0]):=by
      intro hz;have:=Pg.decV_good (lD.out.trans hz) HZ.out;rw[hL.out]at this;exact this
     have Ir:Hid (Pg.yht Q L (W/2%8) (Pg.yh2 W) (Pg.yhJ W) (W/4096) lv≠0->Pg.decV W lv=K #[ur #[I C,I C,B P 0,I C,I C,B P 0],B P (Pg.yht Q L (W/2%8) (Pg.yh2 W) (Pg.yhJ W) (W/4096) lv)]):=by
      intro hz;exact Pg.yjk lD.out (by simp[Pg.yhF,lD.out,hz])
     clear HC lD hL HG;have b5:Pg.bit W 5=Pg.yh2 W:=rfl;have b6:Pg.bit W 6=Pg.yhJ W:=rfl
     go_wp2_with fail
     have c0:∀d os,(grow (redrawn ((w.alloc (Obj.cells #[uc IntKind.u64 W] 64)).alloc (Obj.cells #[kO C,kO C,uc IntKind.i64 0,kO C,kO C,uc IntKind.i64 0] 70)) d) os).cell? ⟨w.heap.size,0,J⟩=N (B un W):=
      cell_regrown (by simp[go_sem])
     rcases bO with ⟨q0,rfl⟩|⟨q0,q1⟩
     all_goals
      refine Loose.yip 18 9 (A #[I C,I C,B P 0,I C,I C,B P 0] 70) _ (by kernel_rfl) (by kernel_rfl) rfl rfl rfl (by intro a w;simp[go_sem]) ?_;simp only[ki,uv,kp,ud]
      repeat (
       refine Loose.zS (fun k hk=> ?_)
       go_simp
       first
        | (refine hk _ ?_;clear hk k)
        | (apply Exists.intro
           refine⟨fun _=> ?_,hk _ ?_⟩
           (first
             | (go_at_call 151;refine Loose.yii (ycc W h0 h1 _ 7 ?_ ?_ ?_ _ _ ?_);(exact rfl);(omega);(omega);(go_simp))
             | (go_at_call 151;refine Loose.yii (ycc W h0 h1 _ 5 ?_ ?_ ?_ _ _ ?_);(exact rfl);(omega);(omega);(go_simp))
             | (go_at_call 151;refine Loose.yii (ycc W h0 h1 _ 6 ?_ ?_ ?_ _ _ ?_);(exact rfl);(omega);(omega);(go_simp)))
           clear hk k))
      refine Loose.yhs ?_;intro b w' hb' rR hX
      have cb:w'.cell? ⟨b,0,J⟩=N (I C)/\w'.cell? ⟨b,1,J⟩=N (I C)/\w'.cell? ⟨b,2,J⟩=N (B P 0)/\w'.cell? ⟨b,3,J⟩=N (I C)/\w'.cell? ⟨b,4,J⟩=N (I C)/\w'.cell? ⟨b,5,J⟩=N (B P 0):=by
       simp[World.cell?,hX]
      have fb:∀i,w'.frozen? ⟨b,i,J⟩=C:=fun i=>by simp[World.frozen?,hX]
      have hB:Below w.heap.size w w':=zT (zA (zA (zR _) _) _) hb'
      have Az:w.heap.size+2<=b:=by simpa using rR
      have Rv:w'.cell? ⟨w.heap.size+1,0,J⟩=N (I C)/\w'.cell? ⟨w.heap.size+1,1,J⟩=N (I C)/\w'.cell? ⟨w.heap.size+1,2,J⟩=N (B P 0)/\w'.cell? ⟨w.heap.size+1,3,J⟩=N (I C)/\w'.cell? ⟨w.heap.size+1,4,J⟩=N (I C)/\w'.cell? ⟨w.heap.size+1,5,J⟩=N (B P 0):=
       ⟨cell_later hb' (by simp[go_sem]),cell_later hb' (by simp[go_sem]),cell_later hb' (by simp[go_sem]),cell_later hb' (by simp[go_sem]),cell_later hb' (by simp[go_sem]),cell_later hb' (by simp[go_sem])⟩
      have PS:∀i,w'.frozen? ⟨w.heap.size+1,i,J⟩=C:=fun i=>by
       rw[hb'.frozen (by simp)];simp[go_sem]
      clear hX rR hb' c0
      go_wp2_with fail
      first
       | (have st:=yad (v0:=I Q) (v1:=I L) (v2:=B P (W/2%8)) (v3:=I (Pg.yh2 W)) (v4:=I (Pg.yhJ W)) (v5:=B P (W/4096)) hB (by omega) cb)
       | (have st:=yad (v0:=I Q) (v1:=I Q) (v2:=B P (W/2%8)) (v3:=I (Pg.yh2 W)) (v4:=I (Pg.yhJ W)) (v5:=B P (W/4096)) hB (by omega) cb)
      refine(zZ _ _ _ _ _ _ _ _).mono ?_;rintro e w3 ⟨rfl,He⟩;obtain⟨tH,gQ,kX,oh⟩:=st
      have Fg:w3.cell? ⟨w.heap.size+1,0,J⟩=N (I C)/\w3.cell? ⟨w.heap.size+1,1,J⟩=N (I C)/\w3.cell? ⟨w.heap.size+1,2,J⟩=N (B P 0)/\w3.cell? ⟨w.heap.size+1,3,J⟩=N (I C)/\w3.cell? ⟨w.heap.size+1,4,J⟩=N (I C)/\w3.cell? ⟨w.heap.size+1,5,J⟩=N (B P 0):=
       xE He ⟨kX _ _ _ (by omega) Rv.1,kX _ _ _ (by omega) Rv.2.1,kX _ _ _ (by omega) Rv.2.2.1,kX _ _ _ (by omega) Rv.2.2.2.1,kX _ _ _ (by omega) Rv.2.2.2.2.1,kX _ _ _ (by omega) Rv.2.2.2.2.2⟩
      have Hf:=T _ _ (kX _ _ _ (by omega) Rv.1)
      have AY:∀i,w3.frozen? ⟨w.heap.size+1,i,J⟩=C:=fun i=>by rw[He.frozen (p:=⟨w.heap.size+1,i,J⟩) Hf,oh];exact PS i
      have lI:=xE He gQ;have dB:=zT tH He;clear He tH gQ kX oh Rv PS hB cb fb Hf;generalize AL:Pg.yht Q _ (W/2%8) (Pg.yh2 W) (Pg.yhJ W) (W/4096) lv=c at*;clear AL
      by_cases hz:c=0
      ·have hn:(c !=0)=C:=by simp[hz]
       have HV:=Iq.out hz;have MC:Hid _:=HV;have HZ0:Hid (c=0):=hz;clear HV hz
       go_wp2_with fail
       refine bodyPost_ret ?_ rfl ⟨by rw[MC.out],?_⟩
       ·simp[results,Tryz.results105,go_sem,Fg]
       ·exact(((((dB.setCell (by simp) _).setCell (by simp) _).setCell (by simp) _).setCell (by simp) _).setCell (by simp) _).setCell (by simp) _
      ·have hn:(c !=0)=Q:=by simp[hz]
       have HV:=Ir.out hz;have MC:Hid _:=HV;clear HV hz
       go_wp2_with fail
       refine bodyPost_ret ?_ rfl ⟨by rw[MC.out],?_⟩
       ·simp[results,Tryz.results105,go_sem,Fg]
       ·exact(((((dB.setCell (by simp) _).setCell (by simp) _).setCell (by simp) _).setCell (by simp) _).setCell (by simp) _).setCell (by simp) _
theorem vQ (t l:Bool) (r:Int) (u d:Bool) (f lv q:Int) (w:O):
 Calls Tryz.prog 72 #[ur #[I t,I l,B P r,I u,I d,B P f],B P lv,B P q] w fun e w'=>e=D (Pg.mapV t l r u d f lv q)/\Below w.heap.size w w':=by
 have mW:Pg.lOk t l r u d f lv q=C/\((Pg.yht t l r u d f lv !=0)=Q\/((Pg.yht t l r u d f lv !=0)=C/\l=C)\/((Pg.yht t l r u d f lv !=0)=C/\l=Q/\q<0)\/((Pg.yht t l r u d f lv !=0)=C/\l=Q/\0<=q/\4096<=q))\/
  (Pg.lOk t l r u d f lv q=Q/\(Pg.yht t l r u d f lv !=0)=C/\l=Q/\0<=q/\q<4096/\0<=lv/\lv<=2):=by
  by_cases h1:Pg.yht t l r u d f lv=0
  ·cases l
   ·left;refine⟨by simp[Pg.lOk],.inr (.inl ⟨by simp[h1],rfl⟩)⟩
   ·by_cases h2:0<=q/\q<4096
    ·right
     obtain⟨⟨a,b⟩,hc⟩:=Pg.yhG h1;refine⟨by simp[Pg.lOk,h1,Pg.below,h2],by simp[h1],rfl,h2.1,h2.2,a,?_⟩;rcases hc with ⟨_,h,_⟩|⟨_,_,_,_,_,⟨_,h,_⟩|⟨h,_⟩⟩
     ·cases h
     ·exact h
     ·cases h
    ·left
     refine⟨by simp[Pg.lOk,Pg.below];intro _;omega,?_⟩
     by_cases h3:q<0
     ·exact .inr (.inr (.inl ⟨by simp[h1],rfl,h3⟩))
     ·exact .inr (.inr (.inr ⟨by simp[h1],rfl,by omega,by omega⟩))
  ·left;exact⟨by simp[Pg.lOk,h1],.inl (by simp[h1])⟩
 rcases mW with ⟨hk,hc⟩|⟨hk,h1,rfl,q0,q1,l0,l2⟩
 ·have HV:Hid _:=Pg.yj4 hk
  clear hk;rcases hc with h1|⟨h1,rfl⟩|⟨h1,rfl,h2⟩|⟨h1,rfl,h2,h3⟩
  all_goals
   go_enter Tryz.func72,Tryz.ntmps72
   go_wp2_with fail
   refine(zZ _ _ _ _ _ _ _ _).mono ?_;rintro e w1 ⟨rfl,Ha⟩;obtain⟨rO,pY⟩:=xW Ha
   go_wp2_with fail
   refine bodyPost_ret ?_ rfl ⟨by rw[HV.out],?_⟩
   ·simp[results,Tryz.results72,go_sem,rO]
   ·exact((((zT (zA (zA (zR _) _) _) Ha).setCell (by simp) _).setCell (by simp) _).setCell (by simp) _).setCell (by simp) _
 ·have HV:Hid _:=Pg.ykR hk
  clear hk;have hs:=Pg.yhH lv
  have rQ:1<=Pg.span lv:=by rcases Pg.yhD lv with h|h|h|h<;>omega
  have Ho:¬Pg.span lv=0:=by omega
  have WT:(Pg.span lv==0)=C:=by simpa using Ho
  have hm:=Int.emod_nonneg q (by omega:Pg.span lv≠0);have si:=Int.emod_lt_of_pos q (by omega:0<Pg.span lv);have ht:q.tmod (Pg.span lv)=q%Pg.span lv:=x q0;have Cs:IntKind.i64.wrap (q-q%Pg.span lv)=q-q%Pg.span lv:=zr (by omega) (by omega)
  go_enter Tryz.func72,Tryz.ntmps72
  go_wp2_with fail
  refine(zZ _ _ _ _ _ _ _ _).mono ?_;rintro e w1 ⟨rfl,Ha⟩;have ce:=xE (v0:=I t) (v1:=I Q) (v2:=B P r) (v3:=I u) (v4:=I d) (v5:=B P f) (b:=w.heap.size) Ha (by simp[go_sem]);have cr:=xH (v0:=B P 0) (v1:=B P 0) (v2:=B P 0) (v3:=B P 0) (b:=w.heap.size+1) Ha (by simp[go_sem])
  have fr:∀i,w1.frozen? ⟨w.heap.size+1,i,J⟩=C:=fun i=>by
   rw[Ha.frozen (p:=⟨w.heap.size+1,i,J⟩) (by simp)];simp[go_sem]
  have hB:=zT (zA (zA (zR _) _) _) Ha;clear Ha
  go_wp2_with fail
  have ke:=fun d os=>xE (below_regrown w1 d os) ce;refine Loose.yiL 12 (by kernel_rfl) (by kernel_rfl) ?_;simp only[ki,uv,kp,ud]
  repeat (
   refine Loose.zS (fun k hk=> ?_)
   go_simp
   first
    | (refine hk _ ?_;clear hk k)
    | (apply Exists.intro
       refine⟨fun _=> ?_,hk _ ?_⟩
       (go_at_call 123;exact Loose.yii (zu _ _))
       clear hk k))
  refine Loose.yhs ?_;intro w' hb';have Hf:=T _ _ cr.1
  replace cr:=xH hb' cr
  have fr':∀i,w'.frozen? ⟨w.heap.size+1,i,J⟩=C:=fun i=>by
   rw[hb'.frozen (p:=⟨w.heap.size+1,i,J⟩) Hf];exact fr i
  replace hB:=zT hB hb'
  clear hb' fr ke ce
  go_wp2_with fail
  refine bodyPost_ret ?_ rfl ⟨by rw[HV.out],?_⟩
  ·simp[results,Tryz.results72,go_sem,cr]
  ·exact(((hB.setCell (by simp) _).setCell (by simp) _).setCell (by simp) _).setCell (by simp) _
def jR (w:O) (b:Nat) (v0:Value) (e:Pg.En) (lv:Int):Prop:=
 w.cell? ⟨b,0,J⟩=N v0/\w.cell? ⟨b,1,J⟩=N (I e.t)/\w.cell? ⟨b,2,J⟩=N (I e.l)/\w.cell? ⟨b,3,J⟩=N (B P e.r)/\w.cell? ⟨b,4,J⟩=N (I e.u)/\w.cell? ⟨b,5,J⟩=N (I e.d)/\w.cell? ⟨b,6,J⟩=N (B P e.f)/\w.cell? ⟨b,7,J⟩=N (B P lv)
theorem jR.of_block {w w':O} {b:Nat} {v0:Value} {e:Pg.En} {lv:Int} (hk:w'.heap[b]?=w.heap[b]?) (h:jR w b v0 e lv):jR w' b v0 e lv:=
 ⟨(Y hk).trans h.1,(Y hk).trans h.2.1,(Y hk).trans h.2.2.1,(Y hk).trans h.2.2.2.1,(Y hk).trans h.2.2.2.2.1,(Y hk).trans h.2.2.2.2.2.1,(Y hk).trans h.2.2.2.2.2.2.1,(Y hk).trans h.2.2.2.2.2.2.2⟩
theorem jR.lb {w:O} {b:Nat} {v0:Value} {e:Pg.En} {lv:Int} (h:jR w b v0 e lv):b<w.heap.size:=T _ _ h.1
structure jE (w0:O) (X:List Pg.Sp) (lv:Int) (vb:Value) (wr:O):Prop where
 bel:Below w0.heap.size w0 wr
 r:jR wr w0.heap.size (V J 0 0) Pg.En.zero 0
 rf:∀o,wr.frozen? ⟨w0.heap.size,o,J⟩=C
 c:jR wr (w0.heap.size+1) vb Pg.En.zero lv
 cf:∀o,wr.frozen? ⟨w0.heap.size+1,o,J⟩=C
 own:wr.ownsRow (w0.heap.size+1+1) 3 1 vb X.length (xG (tabs X))
namespace jE
variable {w0 wr w':O} {X:List Pg.Sp} {lv:Int} {vb:Value}
theorem grow (h:jE w0 X lv vb wr) (hb:Below wr.heap.size wr w'):jE w0 X lv vb w':=
 ⟨h.bel.trans (hb.mono h.bel.size),h.r.of_block (hb.block _ h.r.lb),fun o=>(hb.frozen (p:=⟨w0.heap.size,o,J⟩) h.r.lb).trans (h.rf o),h.c.of_block (hb.block _ h.c.lb),fun o=>(hb.frozen (p:=⟨w0.heap.size+1,o,J⟩) h.c.lb).trans (h.cf o),zl h.own hb⟩
end jE
theorem jR.set0 {w:O} {b:Nat} {v0:Value} {e:Pg.En} {lv:Int} (h:jR w b v0 e lv) (v:Value):jR (w.setCell ⟨b,0,J⟩ v) b v e lv:=
 ⟨y _ _ _ h.1,(R _ _ _ _ (by simp)).trans h.2.1,(R _ _ _ _ (by simp)).trans h.2.2.1,(R _ _ _ _ (by simp)).trans h.2.2.2.1,(R _ _ _ _ (by simp)).trans h.2.2.2.2.1,(R _ _ _ _ (by simp)).trans h.2.2.2.2.2.1,(R _ _ _ _ (by simp)).trans h.2.2.2.2.2.2.1,(R _ _ _ _ (by simp)).trans h.2.2.2.2.2.2.2⟩
theorem jR.set7 {w:O} {b:Nat} {v0:Value} {e:Pg.En} {lv:Int} (h:jR w b v0 e lv) (l:Int):jR (w.setCell ⟨b,7,J⟩ (B P l)) b v0 e l:=
 ⟨(R _ _ _ _ (by simp)).trans h.1,(R _ _ _ _ (by simp)).trans h.2.1,(R _ _ _ _ (by simp)).trans h.2.2.1,(R _ _ _ _ (by simp)).trans h.2.2.2.1,(R _ _ _ _ (by simp)).trans h.2.2.2.2.1,(R _ _ _ _ (by simp)).trans h.2.2.2.2.2.1,(R _ _ _ _ (by simp)).trans h.2.2.2.2.2.2.1,y _ _ _ h.2.2.2.2.2.2.2⟩
theorem jE.lower {w0 wr:O} {X:List Pg.Sp} {lv:Int} {vb:Value} (h:jE w0 X lv vb wr) (l:Int):jE w0 X l vb (wr.setCell ⟨w0.heap.size+1,7,J⟩ (B P l)):=by
 have hk:∀k,k≠w0.heap.size+1->(wr.setCell ⟨w0.heap.size+1,7,J⟩ (B P l)).heap[k]?=wr.heap[k]?:=fun k hk=>Below.heap_setCell _ _ _ _ hk;refine⟨h.bel.setCell (by simp) _,h.r.of_block (hk _ (by omega)),fun o=>by rw[U];exact h.rf o,h.c.set7 l,fun o=>by rw[U];exact h.cf o,zb h.own fun k uH=>hk k (fun e=> ?_)⟩;have:=(h.own.lt k uH).1;omega
theorem jE.push {w0 W w6:O} {X:List Pg.Sp} {lv:Int} {vb:Value} {g cap:Nat} {t:Int} (h:jE w0 X lv vb W) (G:ygE (w0.heap.size+1) vb W w6 g) (ho:w6.ownsRow (w0.heap.size+1+1) 3 1 (V (N ⟨g,0,J⟩) (X.length+1) cap) (X.length+1) (xG (tabs X)++[B P t])) (s:Pg.Sp) (hs:s.table=t):
 jE w0 (X++[s]) lv (V (N ⟨g,0,J⟩) (X.length+1) cap) (w6.setCell ⟨w0.heap.size+1,0,J⟩ (V (N ⟨g,0,J⟩) (X.length+1) cap)):=by
 have hk:∀k,k≠w0.heap.size+1->(w6.setCell ⟨w0.heap.size+1,0,J⟩ (V (N ⟨g,0,J⟩) (X.length+1) cap)).heap[k]?=w6.heap[k]?:=fun k hk=>Below.heap_setCell _ _ _ _ hk;have hr:=h.r.lb;have hc:=h.c.lb
 have b0:w6.heap[w0.heap.size]?=W.heap[w0.heap.size]?:=G.but.block _ hr fun e=>by have:=G.far _ e;omega
 have b1:w6.heap[w0.heap.size+1]?=W.heap[w0.heap.size+1]?:=G.but.block _ hc fun e=>by have:=G.far _ e;omega
 have hB:Below w0.heap.size W w6:=G.but.below h.bel.size fun k hk=>by have:=G.far k hk;omega
 refine⟨(h.bel.trans hB).setCell (by simp) _,(h.r.of_block b0).of_block (hk _ (by omega)),fun o=> ?_,(h.c.of_block b1).set0 _,fun o=> ?_,?_⟩
 ·rw[U,Z b0];exact h.rf o
 ·rw[U,Z b1];exact h.cf o
 ·rw[yck,hs,H,M]
  refine zb ho fun k uH=>hk k (fun e=> ?_)
  have e1:g=k:=by simpa[Value.ownBlock]using uH
  have:=G.gc;omega
def yaE (X:List Pg.Sp) (v:Value):Value:=ur #[v,I (yhu X).t,I (yhu X).l,B P (yhu X).r,I (yhu X).u,I (yhu X).d,B P (yhu X).f,B P (yhw X)]
structure yel (w:O) (X:List Pg.Sp) (c:Int) (e:Ending) (w':O):Prop where
 end':∃ad cap,e=D (K #[yaE X (V ad X.length cap),B P c])/\zx w' ad (tabs X)
 bel:Below w.heap.size w w'
 new:∀g n c d,e=D (K #[yaE X (V (N ⟨g,0,J⟩) n c),d])->w.heap.size<=g
theorem ydk {F:Nat->Prop} {w w1:O} (h:But F w w1) (r:Nat) (hr:w.heap.size<=r\/F r) (x0 x1 x2 x3 x4 x5 x6 x7:Value):
 But F w ((((((((w1.setCell ⟨r,0,J⟩ x0).setCell ⟨r,1,J⟩ x1).setCell ⟨r,2,J⟩ x2).setCell ⟨r,3,J⟩ x3).setCell ⟨r,4,J⟩ x4).setCell ⟨r,5,J⟩ x5).setCell ⟨r,6,J⟩ x6).setCell ⟨r,7,J⟩ x7):=
 (((((((h.setCell (a:=⟨r,0,J⟩) hr x0).setCell (a:=⟨r,1,J⟩) hr x1).setCell (a:=⟨r,2,J⟩) hr x2).setCell (a:=⟨r,3,J⟩) hr x3).setCell (a:=⟨r,4,J⟩) hr x4).setCell (a:=⟨r,5,J⟩) hr x5).setCell (a:=⟨r,6,J⟩) hr x6).setCell (a:=⟨r,7,J⟩) hr x7
theorem jO {b g0 g1:Nat} {vm:Value} {S:Pg.Fs} (t p:Int) (w:O) (h:zj w b g0 g1 vm S):
 Calls Tryz.prog 71 #[ua (N ⟨b,0,J⟩),B P t,B P p] w fun e w'=>yel w (zg S t p) (xQ S t p) e w':=by
 cases hp:Pg.below p 4096
 ·have e1:zg S t p=[]:=by simp[zg,hp]
  have e2:xQ S t p=1:=by simp[xQ,hp]
  rw[e1,e2]
  have hq:decide (p<0)=Q\/(decide (p<0)=C/\4096<=p):=by
   rcases Pg.yjq.1 hp with h|h
   ·exact .inl (by simpa using h)
   ·exact .inr ⟨by simp;omega,h⟩
  clear h e1 e2 hp;rcases hq with hq|⟨hq,OZ⟩
  all_goals
   go_enter Tryz.func71,Tryz.ntmps71
   go_wp2_with fail
   refine bodyPost_ret (v:=K #[yaE [] (V J 0 0),B P 1]) ?_ rfl ⟨⟨J,0,rfl,fun j hj=>absurd hj (by simp[tabs])⟩,?_,fun _ _ _ _ h=>by simp[yaE]at h⟩
   ·simp[results,Tryz.results71,go_sem,yaE,yhw,yhu,Pg.En.zero]
   ·exact zA (zR w) _
 ·obtain⟨p0,p1⟩:=Pg.zB.1 hp
  have HM:Hid _:=h;have HP:Hid _:=hp
  have e2:xQ S t p=(Pg.thr S (Pg.onW p) 3 t 0).2:=by simp[xQ,hp]
  have e1:zg S t p=if (Pg.thr S (Pg.onW p) 3 t 0).2=0 then(Pg.thr S (Pg.onW p) 3 t 0).1 else []:=by simp[zg,hp]
  rw[e1,e2]
  have d0:decide (p<0)=C:=by simpa using p0
  have d1:¬(4096:Int)<=p:=by omega
  have HW:Hid (jE w [] 3 (V J 0 0) ((w.alloc (A #[V J 0 0,I C,I C,B P 0,I C,I C,B P 0,B P 0] 142)).alloc (A #[V J 0 0,I C,I C,B P 0,I C,I C,B P 0,B P 3] 142))):=by
   refine⟨zA (zA (zR w) _) _,?_,fun o=>by simp[go_sem],?_,fun o=>by simp[go_sem],World.ownsRow_nil _ _ _ _⟩
   ·refine⟨?_,?_,?_,?_,?_,?_,?_,?_⟩<;>simp[go_sem,Pg.En.zero]
   ·refine⟨?_,?_,?_,?_,?_,?_,?_,?_⟩<;>simp[go_sem,Pg.En.zero]
  clear h e1 e2 hp;obtain⟨q0,hq,rW,rZ,rX⟩:=info_parts ji;generalize aj:Pg.thr S (Pg.onW p) 3 t 0=th;have Ip:Hid _:=aj;clear aj;obtain⟨Xf,De⟩:∃Xf,Hid (Xf=if th.2=0 then th.1 else []):=⟨_,rfl⟩;obtain⟨cf,SB⟩:∃cf,Hid (cf=th.2):=⟨_,rfl⟩;rw[<-De.out,<-SB.out]
  go_enter Tryz.func71,Tryz.ntmps71
  go_wp2_with fail
  go_loopw [9] (fun i wr=>∃(lv:Nat) (t':Int) (a:Nat) (X:List Pg.Sp) (vb:Value),i=B P t'/\lv<4/\X.length+lv=3/\Hid (jE w X lv vb wr/\th=(X++(Pg.thr S (Pg.onW p) lv t' a).1,(Pg.thr S (Pg.onW p) lv t' a).2))) (fun _ wr=>match wr.cell? ⟨w.heap.size+1,7,J⟩with|some v=>(intOf v).toNat|none=>0)
  case atStart=>exact⟨3,t,0,[],V J 0 0,rfl,by omega,rfl,HW.out,by rw[Ip.out];rfl⟩
  case round=>
   obtain⟨lv,t',a,X,vb,rfl,rP,hXl,HR⟩:=hrel;clear HW;have iK:=Pg.yhS S p lv t' a;have bU:Hid _:=HM.out.keep (F:=fun k=>w.heap.size<=k) (w':=wr) ⟨HR.out.1.bel.os,HR.out.1.bel.tape,HR.out.1.bel.output,HR.out.1.bel.size,fun k hk _=>HR.out.1.bel.block k hk⟩ (fun k hk=>by have:=HM.out.raw.lt hk;omega);have HT:=xv t' wr bU.out;have hlr:=HR.out.1.r.lb;have Ce:=HR.out.1.c.lb;have oz:=HR.out.1.rf;have BL:=HR.out.1.cf;obtain⟨r0,r1,r2,r3,r4,r5,r6,r7⟩:=HR.out.1.r;obtain⟨k0,k1,k2,k3,k4,k5,k6,k7⟩:=HR.out.1.c;simp only[Pg.En.zero]at r1 r2 r3 r4 r5 r6 k1 k2 k3 k4 k5 k6;cases hh:S.has t'
   ·have lZ:Pg.yhx S t' (Pg.ix p lv) lv=12:=by simp[Pg.yhx,hh]
    rw[lZ,if_pos (by decide)]at iK
    have HE:Hid (Xf=[]/\cf=12):=by
     have h1:=HR.out.2;rw[iK]at h1;rw[Hid,De.out,SB.out,h1];simp
    rw[hh]at HT;clear iK lZ hh
    go_wp2_with (go_at_call 103;refine HT.mono ?_;rintro e w1 ⟨rfl,hw⟩;subst w1)
    refine bodyPost_ret (v:=K #[yaE [] (V J 0 0),B P 12]) ?_ rfl ?_
    ·simp[results,Tryz.results71,go_sem,yaE,yhw,yhu,Pg.En.zero,r0,r1,r2,r3,r4,r5,r6,r7]
    ·rw[HE.out.1,HE.out.2]
     have gD:=ydk (But.refl (fun k=>k=w.heap.size) wr) w.heap.size (.inr rfl) (V J 0 0) (I C) (I C) (B P 0) (I C) (I C) (B P 0) (B P 0);exact⟨⟨J,0,rfl,fun j hj=>absurd hj (by simp[tabs])⟩,HR.out.1.bel.trans (gD.below HR.out.1.bel.size fun k hk=>by omega),fun _ _ _ _ h=>by simp[yaE]at h⟩
   ·obtain⟨t0,t1,_⟩:=bU.out.ok.yhK hh
    obtain⟨tn,rfl⟩:=z t0;have dI:=Pg.yid p lv;have gL:=bU.out.ok.small;have m0:=bU.out.raw.c0;have mw:=bU.out.raw.cw tn (Pg.ix p lv) (by omega) dI;have u0:=bU.out.ok.low tn (Pg.ix p lv);have u1:=bU.out.ok.high tn (Pg.ix p lv)
    have lZ:Pg.yhx S (tn:Int) (Pg.ix p lv) lv=Pg.yhA (S.word tn (Pg.ix p lv)) lv:=by simp[Pg.yhx,hh]
    have Gj:Pg.rEn S (tn:Int) (Pg.ix p lv) lv=Pg.En.of (S.word tn (Pg.ix p lv)) lv:=by simp[Pg.rEn,hh]
    have fA:=zP p (lv:Int);rw[Pg.yhE HP.out rP]at fA;have kD:=jy (S.word tn (Pg.ix p lv)) (lv:Int) u0 u1;rw[Pg.yi9,<-Gj,<-lZ]at kD;rw[hh]at HT;generalize S.word tn (Pg.ix p lv)=W at*;clear Gj lZ hh u0 u1 t0;have Bp:Hid _:=iK;have Ms:Hid (∀a,Pg.spt S (tn:Int) (Pg.ix p lv) lv a=⟨(tn:Int),Pg.ix p lv,lv,a+Pg.ix p lv,Pg.rEn S (tn:Int) (Pg.ix p lv) lv⟩):=fun a=>rfl;have Ih:Hid _:= @Pg.yhR S (tn:Int) (Pg.ix p lv) lv;clear iK;generalize Pg.yhx S (tn:Int) (Pg.ix p lv) lv=rc at*;generalize Pg.rEn S (tn:Int) (Pg.ix p lv) lv=E at*;generalize bn:Pg.ix p lv=ix at*;have uy:Hid _:=bn;clear bn;obtain⟨et,el,er,eu,ed,ef⟩:=E;simp only[Pg.En.val]at kD
    have i0:(0:Int)<=(tn:Int):=by omega
    have i1:(tn:Int)<(S.n:Int):=by omega
    have i2:(0:Int)<=(ix:Int):=by omega
    have i3:(ix:Int)<8:=by omega
    have M0:=cell_regrown m0;have MW:=cell_regrown mw;have K7:=cell_regrown k7
    go_wp2_with (go_at_call 103;refine HT.mono ?_;rintro e w1 ⟨rfl,hw⟩;subst w1)
    have rR:=bU.out.raw.lb;have hgl:=bU.out.raw.l0
    have xn0:wr.heap.size≠b:=by omega
    have xm0:b≠wr.heap.size:=by omega
    have xn1:wr.heap.size≠g0:=by omega
    have xm1:g0≠wr.heap.size:=by omega
    have xn2:wr.heap.size≠w.heap.size+1:=by omega
    have xm2:w.heap.size+1≠wr.heap.size:=by omega
    go_region_held3 (fun w'=>w'.cell? ⟨b,0,J⟩=N (V (N ⟨g0,0,J⟩) S.n S.n)/\w'.cell? ⟨g0,tn*8+ix,J⟩=N (B un W)/\w'.cell? ⟨w.heap.size+1,7,J⟩=N (B P (lv:Int))) (go_keep) (first
     | (go_at_call 104;refine(fA _).mono ?_;rintro e w2 ⟨rfl,Hd⟩;have Ht:Hid _:=Hd;have z0:w2.cell? ⟨b,0,J⟩=N (V (N ⟨g0,0,J⟩) S.n S.n):=(Hd.cell (p:=⟨b,0,J⟩) (by first|omega|(simp;omega))).trans (by first|exact m0|(simp[go_sem,m0,rR];done));have GX:=T _ _ z0;simp only at GX;have z1:w2.cell? ⟨g0,tn*8+ix,J⟩=N (B un W):=(Hd.cell (p:=⟨g0,tn*8+ix,J⟩) (by first|omega|(simp;omega))).trans (by first|exact mw|(simp[go_sem,mw,hgl];done));have GY:=T _ _ z1;simp only at GY;have z2:w2.cell? ⟨w.heap.size+1,7,J⟩=N (B P (lv:Int)):=(Hd.cell (p:=⟨w.heap.size+1,7,J⟩) (by first|omega|(simp;omega))).trans (by first|exact k7|(simp[go_sem,k7,Ce];done));have GZ:=T _ _ z2;simp only at GZ;(try have s2:wr.heap.size<w2.heap.size:=(by have:=Hd.size;simp at this;omega));have Uf:w2.heap.size≠b:=(by omega);have Uc:b≠w2.heap.size:=(by omega);have Ug:w2.heap.size≠g0:=(by omega);have Ud:g0≠w2.heap.size:=(by omega);have Uh:w2.heap.size≠w.heap.size+1:=(by omega);have Ue:w.heap.size+1≠w2.heap.size:=(by omega);obtain⟨nG,lN⟩:=xW Hd;clear Hd)
     | (go_at_call 105;refine(kD _).mono ?_;rintro e w3 ⟨rfl,He⟩;have rE:Hid _:=He;have y0:w3.cell? ⟨b,0,J⟩=N (V (N ⟨g0,0,J⟩) S.n S.n):=(He.cell (p:=⟨b,0,J⟩) (by first|omega|(simp;omega))).trans (by first|exact z0|(simp[go_sem,z0,GX];done));have Cw:=T _ _ y0;simp only at Cw;have y1:w3.cell? ⟨g0,tn*8+ix,J⟩=N (B un W):=(He.cell (p:=⟨g0,tn*8+ix,J⟩) (by first|omega|(simp;omega))).trans (by first|exact z1|(simp[go_sem,z1,GY];done));have Cx:=T _ _ y1;simp only at Cx;have y2:w3.cell? ⟨w.heap.size+1,7,J⟩=N (B P (lv:Int)):=(He.cell (p:=⟨w.heap.size+1,7,J⟩) (by first|omega|(simp;omega))).trans (by first|exact z2|(simp[go_sem,z2,GZ];done));have Su:=T _ _ y2;simp only at Su;have K9:w3.heap.size≠b:=(by omega);have KZ:b≠w3.heap.size:=(by omega);have Ua:w3.heap.size≠g0:=(by omega);have K3:g0≠w3.heap.size:=(by omega);have Ub:w3.heap.size≠w.heap.size+1:=(by omega);have K8:w.heap.size+1≠w3.heap.size:=(by omega);obtain⟨eO,TU⟩:=xW He;clear He))
    focus
     have nz:Below wr.heap.size wr (w3.alloc (A #[I et,I el,B P er,I eu,I ed,B P ef] 70))/\wr.heap.size<=w3.heap.size/\((w3.alloc (A #[I et,I el,B P er,I eu,I ed,B P ef] 70)).cell? ⟨w3.heap.size,0,J⟩=N (I et)/\(w3.alloc (A #[I et,I el,B P er,I eu,I ed,B P ef] 70)).cell? ⟨w3.heap.size,1,J⟩=N (I el)/\(w3.alloc (A #[I et,I el,B P er,I eu,I ed,B P ef] 70)).cell? ⟨w3.heap.size,2,J⟩=N (B P er)/\(w3.alloc (A #[I et,I el,B P er,I eu,I ed,B P ef] 70)).cell? ⟨w3.heap.size,3,J⟩=N (I eu)/\(w3.alloc (A #[I et,I el,B P er,I eu,I ed,B P ef] 70)).cell? ⟨w3.heap.size,4,J⟩=N (I ed)/\(w3.alloc (A #[I et,I el,B P er,I eu,I ed,B P ef] 70)).cell? ⟨w3.heap.size,5,J⟩=N (B P ef)):=by
      have dB:=zT (zT (zR wr).drew Ht.out) rE.out;exact⟨zA dB _,dB.size,by simp[go_sem]⟩
     generalize w3.alloc (A #[I et,I el,B P er,I eu,I ed,B P ef] 70)=W5 at*;generalize w3.heap.size=Eb at*;obtain⟨kC,Dw,kF⟩:=nz;have EB:Hid _:=kC;have E6:Hid _:=kF;clear kC kF nG lN eO TU z0 z1 z2 GX GY GZ y0 y1 y2 Cw Cx Su Uf Ug Uh Uc Ud Ue K9 Ua Ub KZ K3 K8 Ht rE
    rotate_left
    focus
     have nz:Below wr.heap.size wr (((((((w3.setCell ⟨w2.heap.size,0,J⟩ (I et)).setCell ⟨w2.heap.size,1,J⟩ (I el)).setCell ⟨w2.heap.size,2,J⟩ (B P er)).setCell ⟨w2.heap.size,3,J⟩ (I eu)).setCell ⟨w2.heap.size,4,J⟩ (I ed)).setCell ⟨w2.heap.size,5,J⟩ (B P ef)))/\wr.heap.size<=w2.heap.size/\((((((((w3.setCell ⟨w2.heap.size,0,J⟩ (I et)).setCell ⟨w2.heap.size,1,J⟩ (I el)).setCell ⟨w2.heap.size,2,J⟩ (B P er)).setCell ⟨w2.heap.size,3,J⟩ (I eu)).setCell ⟨w2.heap.size,4,J⟩ (I ed)).setCell ⟨w2.heap.size,5,J⟩ (B P ef))).cell? ⟨w2.heap.size,0,J⟩=N (I et)/\(((((((w3.setCell ⟨w2.heap.size,0,J⟩ (I et)).setCell ⟨w2.heap.size,1,J⟩ (I el)).setCell ⟨w2.heap.size,2,J⟩ (B P er)).setCell ⟨w2.heap.size,3,J⟩ (I eu)).setCell ⟨w2.heap.size,4,J⟩ (I ed)).setCell ⟨w2.heap.size,5,J⟩ (B P ef))).cell? ⟨w2.heap.size,1,J⟩=N (I el)/\(((((((w3.setCell ⟨w2.heap.size,0,J⟩ (I et)).setCell ⟨w2.heap.size,1,J⟩ (I el)).setCell ⟨w2.heap.size,2,J⟩ (B P er)).setCell ⟨w2.heap.size,3,J⟩ (I eu)).setCell ⟨w2.heap.size,4,J⟩ (I ed)).setCell ⟨w2.heap.size,5,J⟩ (B P ef))).cell? ⟨w2.heap.size,2,J⟩=N (B P er)/\(((((((w3.setCell ⟨w2.heap.size,0,J⟩ (I et)).setCell ⟨w2.heap.size,1,J⟩ (I el)).setCell ⟨w2.heap.size,2,J⟩ (B P er)).setCell ⟨w2.heap.size,3,J⟩ (I eu)).setCell ⟨w2.heap.size,4,J⟩ (I ed)).setCell ⟨w2.heap.size,5,J⟩ (B P ef))).cell? ⟨w2.heap.size,3,J⟩=N (I eu)/\(((((((w3.setCell ⟨w2.heap.size,0,J⟩ (I et)).setCell ⟨w2.heap.size,1,J⟩ (I el)).setCell ⟨w2.heap.size,2,J⟩ (B P er)).setCell ⟨w2.heap.size,3,J⟩ (I eu)).setCell ⟨w2.heap.size,4,J⟩ (I ed)).setCell ⟨w2.heap.size,5,J⟩ (B P ef))).cell? ⟨w2.heap.size,4,J⟩=N (I ed)/\(((((((w3.setCell ⟨w2.heap.size,0,J⟩ (I et)).setCell ⟨w2.heap.size,1,J⟩ (I el)).setCell ⟨w2.heap.size,2,J⟩ (B P er)).setCell ⟨w2.heap.size,3,J⟩ (I eu)).setCell ⟨w2.heap.size,4,J⟩ (I ed)).setCell ⟨w2.heap.size,5,J⟩ (B P ef))).cell? ⟨w2.heap.size,5,J⟩=N (B P ef)):=by
      have tH:=zT (zR wr).drew Ht.out;have dB:=zT (zA tH _) rE.out
      have h6:w3.cell? ⟨w2.heap.size,0,J⟩=N (I C)/\w3.cell? ⟨w2.heap.size,1,J⟩=N (I C)/\w3.cell? ⟨w2.heap.size,2,J⟩=N (B P 0)/\w3.cell? ⟨w2.heap.size,3,J⟩=N (I C)/\w3.cell? ⟨w2.heap.size,4,J⟩=N (I C)/\w3.cell? ⟨w2.heap.size,5,J⟩=N (B P 0):=by
       refine⟨?_,?_,?_,?_,?_,?_⟩<;>(rw[eO _ _ (by simp)];simp[go_sem])
      have sM:=yad (v0:=I et) (v1:=I el) (v2:=B P er) (v3:=I eu) (v4:=I ed) (v5:=B P ef) dB tH.size h6;exact⟨sM.1,tH.size,sM.2.1⟩
     generalize ((((((w3.setCell ⟨w2.heap.size,0,J⟩ (I et)).setCell ⟨w2.heap.size,1,J⟩ (I el)).setCell ⟨w2.heap.size,2,J⟩ (B P er)).setCell ⟨w2.heap.size,3,J⟩ (I eu)).setCell ⟨w2.heap.size,4,J⟩ (I ed)).setCell ⟨w2.heap.size,5,J⟩ (B P ef))=W5 at*;generalize w2.heap.size=Eb at*;obtain⟨kC,Dw,kF⟩:=nz;have EB:Hid _:=kC;have E6:Hid _:=kF;clear kC kF nG lN eO TU z0 z1 z2 GX GY GZ y0 y1 y2 Cw Cx Su Uf Ug Uh Uc Ud Ue K9 Ua Ub KZ K3 K8 Ht rE
    rotate_left
    focus
     obtain⟨Eb,lK⟩:∃Eb,Eb=wr.heap.size:=⟨_,rfl⟩;rw[<-lK]
     have nz:Below wr.heap.size wr (((((((w3.setCell ⟨Eb,0,J⟩ (I et)).setCell ⟨Eb,1,J⟩ (I el)).setCell ⟨Eb,2,J⟩ (B P er)).setCell ⟨Eb,3,J⟩ (I eu)).setCell ⟨Eb,4,J⟩ (I ed)).setCell ⟨Eb,5,J⟩ (B P ef)))/\wr.heap.size<=Eb/\((((((((w3.setCell ⟨Eb,0,J⟩ (I et)).setCell ⟨Eb,1,J⟩ (I el)).setCell ⟨Eb,2,J⟩ (B P er)).setCell ⟨Eb,3,J⟩ (I eu)).setCell ⟨Eb,4,J⟩ (I ed)).setCell ⟨Eb,5,J⟩ (B P ef))).cell? ⟨Eb,0,J⟩=N (I et)/\(((((((w3.setCell ⟨Eb,0,J⟩ (I et)).setCell ⟨Eb,1,J⟩ (I el)).setCell ⟨Eb,2,J⟩ (B P er)).setCell ⟨Eb,3,J⟩ (I eu)).setCell ⟨Eb,4,J⟩ (I ed)).setCell ⟨Eb,5,J⟩ (B P ef))).cell? ⟨Eb,1,J⟩=N (I el)/\(((((((w3.setCell ⟨Eb,0,J⟩ (I et)).setCell ⟨Eb,1,J⟩ (I el)).setCell ⟨Eb,2,J⟩ (B P er)).setCell ⟨Eb,3,J⟩ (I eu)).setCell ⟨Eb,4,J⟩ (I ed)).setCell ⟨Eb,5,J⟩ (B P ef))).cell? ⟨Eb,2,J⟩=N (B P er)/\(((((((w3.setCell ⟨Eb,0,J⟩ (I et)).setCell ⟨Eb,1,J⟩ (I el)).setCell ⟨Eb,2,J⟩ (B P er)).setCell ⟨Eb,3,J⟩ (I eu)).setCell ⟨Eb,4,J⟩ (I ed)).setCell ⟨Eb,5,J⟩ (B P ef))).cell? ⟨Eb,3,J⟩=N (I eu)/\(((((((w3.setCell ⟨Eb,0,J⟩ (I et)).setCell ⟨Eb,1,J⟩ (I el)).setCell ⟨Eb,2,J⟩ (B P er)).setCell ⟨Eb,3,J⟩ (I eu)).setCell ⟨Eb,4,J⟩ (I ed)).setCell ⟨Eb,5,J⟩ (B P ef))).cell? ⟨Eb,4,J⟩=N (I ed)/\(((((((w3.setCell ⟨Eb,0,J⟩ (I et)).setCell ⟨Eb,1,J⟩ (I el)).setCell ⟨Eb,2,J⟩ (B P er)).setCell ⟨Eb,3,J⟩ (I eu)).setCell ⟨Eb,4,J⟩ (I ed)).setCell ⟨Eb,5,J⟩ (B P ef))).cell? ⟨Eb,5,J⟩=N (B P ef)):=by
      subst lK;have tH:=zT (zA (zR wr) _).drew Ht.out;have dB:=zT tH rE.out
      have h6:w3.cell? ⟨wr.heap.size,0,J⟩=N (I C)/\w3.cell? ⟨wr.heap.size,1,J⟩=N (I C)/\w3.cell? ⟨wr.heap.size,2,J⟩=N (B P 0)/\w3.cell? ⟨wr.heap.size,3,J⟩=N (I C)/\w3.cell? ⟨wr.heap.size,4,J⟩=N (I C)/\w3.cell? ⟨wr.heap.size,5,J⟩=N (B P 0):=by
       refine⟨?_,?_,?_,?_,?_,?_⟩<;>(rw[eO _ _ s2,nG _ _ (by simp)];simp[go_sem])
      have sM:=yad (v0:=I et) (v1:=I el) (v2:=B P er) (v3:=I eu) (v4:=I ed) (v5:=B P ef) dB (Nat.le_refl _) h6;exact⟨sM.1,Nat.le_refl _,sM.2.1⟩
     generalize ((((((w3.setCell ⟨Eb,0,J⟩ (I et)).setCell ⟨Eb,1,J⟩ (I el)).setCell ⟨Eb,2,J⟩ (B P er)).setCell ⟨Eb,3,J⟩ (I eu)).setCell ⟨Eb,4,J⟩ (I ed)).setCell ⟨Eb,5,J⟩ (B P ef))=W5 at*;obtain⟨kC,Dw,kF⟩:=nz;have EB:Hid _:=kC;have E6:Hid _:=kF;clear kC kF lK nG lN eO TU z0 z1 z2 GX GY GZ y0 y1 y2 Cw Cx Su Uf Ug Uh Uc Ud Ue K9 Ua Ub KZ K3 K8 Ht rE
    rotate_left
    all_goals
     have FJ:=T _ _ E6.out.1;simp only at FJ;have kE:Hid (jE w X lv vb W5):=HR.out.1.grow EB.out;have hvb:Hid (∀k,vb.ownBlock=N k->k<wr.heap.size):=fun k hk=>(ks.lt HR.out.1.own k hk).2;clear r0 r1 r2 r3 r4 r5 r6 r7 k0 k1 k2 k3 k4 k5 k6 k7 m0 mw M0 MW K7 oz BL HT fA kD;have oz:=kE.out.rf;have BL:=kE.out.cf;obtain⟨r0,r1,r2,r3,r4,r5,r6,r7⟩:=kE.out.r;obtain⟨k0,k1,k2,k3,k4,k5,k6,k7⟩:=kE.out.c;simp only[Pg.En.zero]at r1 r2 r3 r4 r5 r6 k1 k2 k3 k4 k5 k6;have Lr:=kE.out.r.lb;have FK:=kE.out.c.lb
     have nE1:Eb≠w.heap.size:=by omega
     have nE2:Eb≠w.heap.size+1:=by omega
     by_cases lZ:rc=0
     ·subst lZ
      have Hr:W5.ownsRow (w.heap.size+1+1) 3 1 vb X.length (xG (tabs X)):=kE.out.own
      go_wp2_with (first
       | (at_builtin;refine wpList_append_lies _ rfl _ _ 45 rfl (w.heap.size+1+1) 3 q0 (B P 0) 1 8 Tryz.underlying45 hq rW rZ rX rfl (by decide) _ _ _ rfl (Hr.alloc _) ⟨W5.heap.size,0,J⟩ 1 1 [B P (tn:Int)] rfl rfl ?c1 ?c2 (by decide) ?c3 ?c4 ?c5 (W5.heap.size+1) (by simp) ?_))
      case c1=>
       intro j u hj
       match j,hj with
       | 0,hj=>simp at hj;subst hj;simp[Addr.add,go_sem]
      case c2=>intro u hu;simp at hu;subst hu;rfl
      case c3=>unfold maxLen;omega
      case c4=>omega
      case c5=>simp;omega
      intro g cap w6 rV ry pq dh;have G6:Hid _:=ygs Hr ry pq FK dh
      have gV:w6.heap[Eb]?=W5.heap[Eb]?:=G6.out.but.block Eb FJ fun e=>by have:=hvb.out Eb e;omega
      obtain⟨x0,x1,x2,x3,x4,x5⟩:=E6.out
      replace x0:=(Y gV).trans x0
      replace x1:=(Y gV).trans x1
      replace x2:=(Y gV).trans x2
      replace x3:=(Y gV).trans x3
      replace x4:=(Y gV).trans x4
      replace x5:=(Y gV).trans x5
      have b0:w6.heap[w.heap.size]?=W5.heap[w.heap.size]?:=G6.out.but.block _ Lr fun e=>by have:=G6.out.far _ e;omega
      have b1:w6.heap[w.heap.size+1]?=W5.heap[w.heap.size+1]?:=G6.out.but.block _ FK fun e=>by have:=G6.out.far _ e;omega
      have A7:Hid (jE w (X++[⟨(tn:Int),ix,lv,a+ix,⟨et,el,er,eu,ed,ef⟩⟩]) lv (V (N ⟨g,0,J⟩) (X.length+1) cap) (w6.setCell ⟨w.heap.size+1,0,J⟩ (V (N ⟨g,0,J⟩) (X.length+1) cap))):=kE.out.push G6.out rV _ rfl;clear r0 r1 r2 r3 r4 r5 r6 r7 k0 k1 k2 k3 k4 k5 k6 k7 oz BL;obtain⟨r0,r1,r2,r3,r4,r5,r6,r7⟩:=kE.out.r.of_block b0;obtain⟨k0,k1,k2,k3,k4,k5,k6,k7⟩:=kE.out.c.of_block b1;simp only[Pg.En.zero]at r1 r2 r3 r4 r5 r6 k1 k2 k3 k4 k5 k6;have oz:∀o,w6.frozen? ⟨w.heap.size,o,J⟩=C:=fun o=>(Z b0).trans (kE.out.rf o);have BL:∀o,w6.frozen? ⟨w.heap.size+1,o,J⟩=C:=fun o=>(Z b1).trans (kE.out.cf o)
      have Ox:w.heap.size+1<w6.heap.size:=by have:=G6.out.but.size;omega
      have Wy:Eb<w6.heap.size:=by have:=G6.out.but.size;omega
      clear rV ry pq dh b0 b1 gV Hr
      have NT:et=C\/(et=Q/\el=Q)\/(et=Q/\el=C):=by cases et<;>cases el<;>simp
      rcases NT with rfl|⟨rfl,rfl⟩|⟨rfl,rfl⟩
      focus
       have Rk:Hid (Xf=X++[⟨(tn:Int),ix,lv,a+ix,⟨C,el,er,eu,ed,ef⟩⟩]/\cf=0):=by
        have h1:=HR.out.2;rw[Bp.out,if_neg (by simp),if_pos (by simp[Pg.En.on]),Ms.out]at h1;rw[Hid,De.out,SB.out,h1];simp
       obtain⟨sp,gF⟩:∃sp:Pg.Sp,sp=⟨(tn:Int),ix,lv,a+ix,⟨C,el,er,eu,ed,ef⟩⟩:=⟨_,rfl⟩
       have Tm:Hid (sp.e=⟨C,el,er,eu,ed,ef⟩/\sp.level=lv):=by rw[gF];exact⟨rfl,rfl⟩
       rw[<-gF]at A7 Rk;clear gF
      rotate_left
      focus
       have Rk:Hid (Xf=X++[⟨(tn:Int),ix,lv,a+ix,⟨Q,Q,er,eu,ed,ef⟩⟩]/\cf=0):=by
        have h1:=HR.out.2;rw[Bp.out,if_neg (by simp),if_pos (by simp[Pg.En.on]),Ms.out]at h1;rw[Hid,De.out,SB.out,h1];simp
       obtain⟨sp,gF⟩:∃sp:Pg.Sp,sp=⟨(tn:Int),ix,lv,a+ix,⟨Q,Q,er,eu,ed,ef⟩⟩:=⟨_,rfl⟩
       have Tm:Hid (sp.e=⟨Q,Q,er,eu,ed,ef⟩/\sp.level=lv):=by rw[gF];exact⟨rfl,rfl⟩
       rw[<-gF]at A7 Rk;clear gF
      rotate_left
      focus
       obtain⟨m,hm⟩:=Ih.out rfl
       have kV:(lv:Int)-1=(m:Int):=by omega
       have iq:(1:Int)<=(lv:Int):=by omega
       go_wp2_with fail
       have A8:=A7.out.lower (m:Int);refine⟨⟨m,ef,(a+ix)*8,X++[⟨(tn:Int),ix,lv,a+ix,⟨Q,C,er,eu,ed,ef⟩⟩],V (N ⟨g,0,J⟩) (X.length+1) cap,rfl,by omega,by rw[H,M];omega,A8,?_⟩,?_⟩
       ·have h1:=HR.out.2
        rw[Bp.out,if_neg (by simp),if_neg (by simp[Pg.En.on]),Ms.out,hm]at h1;rw[h1,hm];simp[Pg.sub]
       ·have q1:=A8.c.2.2.2.2.2.2.2
        have q2:=HR.out.1.c.2.2.2.2.2.2.2;rw[q1,q2];simp[intOf];omega
      all_goals
       go_wp2_with fail
       have HV:Hid (yaE (X++[sp]) (V (N ⟨g,0,J⟩) (X.length+1) cap)=ur #[V (N ⟨g,0,J⟩) (X.length+1) cap,I sp.e.t,I sp.e.l,B P sp.e.r,I sp.e.u,I sp.e.d,B P sp.e.f,B P (sp.level:Int)]):=by rw[Hid,yaE,jj,jk]
       rw[Tm.out.1,Tm.out.2]at HV;refine bodyPost_ret (v:=K #[yaE (X++[sp]) (V (N ⟨g,0,J⟩) (X.length+1) cap),B P 0]) ?_ rfl ?_
       ·rw[HV.out]
        simp[results,Tryz.results71,go_sem,r0,r1,r2,r3,r4,r5,r6,r7]
       ·rw[Rk.out.1,Rk.out.2]
        have fin:∀Wf,But (fun k=>k=w.heap.size+1\/k=w.heap.size) (w6.setCell ⟨w.heap.size+1,0,J⟩ (V (N ⟨g,0,J⟩) (X.length+1) cap)) Wf->yel w (X++[sp]) 0 (D (K #[yaE (X++[sp]) (V (N ⟨g,0,J⟩) (X.length+1) cap),B P 0])) Wf:=fun Wf gD=>by
         refine⟨⟨N ⟨g,0,J⟩,cap,by rw[H,M],?_⟩,A7.out.bel.trans (gD.below A7.out.bel.size fun k hk=>by omega),fun g' _ _ _ h=> ?_⟩
         rotate_left
         ·have e:g=g':=by simp[yaE]at h;exact h.1.1
          have:=(ks.lt A7.out.own g rfl).1;omega
         refine qG (base:=w.heap.size+1+1) (n:=X.length+1) (cap:=cap) ?_;rw[xC]
         exact zc A7.out.own gD fun k hk e=>by have:=(ks.lt A7.out.own k hk).1;omega
        refine fin _ ?_
        iterate 8 refine But.setCell ?_ (.inr (.inr rfl)) _
        iterate 6 refine But.setCell ?_ (.inr (.inl rfl)) _
        exact But.refl _ _
     ·have gW:(rc !=0)=Q:=by simp[lZ]
      have Rk:Hid (Xf=[]/\cf=rc):=by
       have h1:=HR.out.2;rw[Bp.out,if_pos lZ]at h1;rw[Hid,De.out,SB.out,h1];simp[lZ]
      clear lZ
      go_wp2_with fail
      refine bodyPost_ret (v:=K #[yaE [] (V J 0 0),B P rc]) ?_ rfl ?_
      ·simp[results,Tryz.results71,go_sem,yaE,yhw,yhu,Pg.En.zero,r0,r1,r2,r3,r4,r5,r6,r7]
      ·rw[Rk.out.1,Rk.out.2]
       have gD:=ydk (But.refl (fun k=>k=w.heap.size) W5) w.heap.size (.inr rfl) (V J 0 0) (I C) (I C) (B P 0) (I C) (I C) (B P 0) (B P 0);exact⟨⟨J,0,rfl,fun j hj=>absurd hj (by simp[tabs])⟩,kE.out.bel.trans (gD.below kE.out.bel.size fun k hk=>by omega),fun _ _ _ _ h=>by simp[yaE]at h⟩
end Go.Proofs.YtdphiompijbelaaGreat
