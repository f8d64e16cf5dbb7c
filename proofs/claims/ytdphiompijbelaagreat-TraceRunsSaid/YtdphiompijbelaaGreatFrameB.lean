import Derived.Test.YtdphiompijbelaaGreatPlainKB
import Derived.Defers
import Derived.Recover
import Derived.Test.YtdphiompijbelaaGreatRows
import Derived.ProofKit
import Derived.OpenShut
import Derived.Lib.SmallJoins
import Derived.Deep.Slices
import Derived.Laws.LoneSync
set_option linter.all false
set_option maxRecDepth 100000
open Go.Obj renaming cells->Z
open Go.Ending renaming returned->Q
open Go renaming World->V
open Nat renaming le_refl->F,le_of_lt->E
open Go.World renaming cell?_setCell_other->Y,block_lt_of_cell?->K,cell?_setCell_same->A,cells?_some->G
open Go.Proofs.Tryz renaming prog->C
open Bool renaming false->S,true->T,true_eq_false->L,eq_iff_iff->z
open Go.IntKind renaming i64->P,u64->M
open Option renaming none->J,some->N
open Go.Value renaming bool->I,int->B,pointer->U,agg->O,tuple->X,okWide->kI,cells->kJ
set_option maxHeartbeats 1000000
namespace Go.Proofs.YtdphiompijbelaaGreat
open Go.RowKit Go.Sort
def give (c:Int):Ending:=if c=0 then Q (X #[])else .panicked [{v:= .iface 273 (O #[B P c]),recovered:=S}]
theorem zV:give 0=Q (X #[]):=rfl
theorem zI {c:Int} (h:c≠0):give c= .panicked [{v:= .iface 273 (O #[B P c]),recovered:=S}]:=if_neg h
theorem vA (c:Int) (w:V):
 Calls C 224 #[I S,B P c] w fun e w'=>e=Q (X #[])/\w'=w:=by
 go_enter Tryz.func224,Tryz.ntmps224
 go_wp2
 go_end0
 exact⟨rfl,rfl⟩
theorem jY (c:Int) (w:V):
 Calls C 224 #[I T,B P c] w fun e w'=>e= .panicked [{v:= .iface 273 (O #[B P c]),recovered:=S}]/\w'=w:=by
 go_enter Tryz.func224,Tryz.ntmps224
 go_wp2
 exact⟨rfl,rfl,rfl⟩
theorem ze (so:Bool) (c:Int) (w:V):
 Calls C 224 #[I so,B P c] w fun e w'=>e=(bif so then .panicked [{v:= .iface 273 (O #[B P c]),recovered:=S}]else Q (X #[]))/\w'=w:=by
 cases so
 ·exact vA c w
 ·exact jY c w
theorem yaB (p:Addr) (v:Value):#[Value.pointer (N p)]++((Array.replicate 16 undef).setIfInBounds 3 v).setIfInBounds 0 v=#[U (N p),v,undef,undef,v,undef,undef,undef,undef,undef,undef,undef,undef,undef,undef,undef,undef]:=rfl
theorem ydj (p:Addr) (w:V):
 CallsD C 222 #[U (N p)] .returning w fun e u' w'=>e=Q (X #[])/\u'= .returning/\w'=w:=by
 refine callsD_of_wpS Tryz.func222 rfl fun c₀ cs hu=> ?_
 apply wpS_seq
 apply wpS_region
 simp[wpOpsS,go_sem,recoverD,hu,Tryz.ntmps222,Exit.thenS];refine wpS_of_wp ?_;rw[yaB]
 go_wp2
 cases c₀
 simp_all[bodyPostS,results,Tryz.results222]
theorem yff (p:Addr) (c:Int) (w:V) (hc:w.cell? p=N (B P 0)) (hz:w.frozen? p=S):
 CallsD C 222 #[U (N p)] (.panicking [{v:= .iface 273 (O #[B P c]),recovered:=S}]) w fun e u' w'=>
  e=Q (X #[])/\u'= .panicking [{v:= .iface 273 (O #[B P c]),recovered:=T}]/\w'.cell? p=N (B P c)/\Below p.block w w':=by
 have hta:∀(v:Value) (w:V),(Instr.typeAssert (.iface 273 v) 20 273 T).run C w= .ok (X #[v,I T]) w:=fun _ _=>by kernel_rfl
 have hlt:p.block<w.heap.size:=K _ _ hc;have hz2:∀o,(w.alloc o).frozen? p=S:=fun o=>((zA (zR w) o).frozen hlt).trans hz;have hc2:∀o,(w.alloc o).cell? p=N (B P 0):=fun o=>((zA (zR w) o).cell hlt).trans hc;refine callsD_of_wpS Tryz.func222 rfl fun c₀ cs hu=> ?_
 apply wpS_seq
 apply wpS_region
 simp[wpOpsS,go_sem,recoverD,hu,Tryz.ntmps222,Exit.thenS];refine wpS_of_wp ?_;rw[yaB]
 go_wp2
 refine⟨rfl,_,rfl,X #[],by simp[results,Tryz.results222],rfl,rfl,A _ _ _ (hc2 _),((Below.refl p.block w).alloc (by omega) _).setCell (F _) _⟩
theorem jM (f:FuncId) (caps:Array Value) (c:Int) (R:V->Prop) (w:V)
 (hf:∀w,(callFunc f caps).run C w= .ok (.enter f caps) w) (h:Calls C f caps (w.alloc (Z #[B P 0] 3)) fun e w'=>e=give c/\R w'/\w'.cell? ⟨w.heap.size,0,J⟩=N (B P 0)/\w'.frozen? ⟨w.heap.size,0,J⟩=S):
 Calls C 197 #[.func (.func f) #[] caps] w fun e w'=>e=Q (B P c)/\∃w1,R w1/\Below w.heap.size w1 w':=by
 have hmf:∀(fn:Fn) (first cap:Array Value) (w:V),(Instr.makeFunc fn first cap).run C w= .ok (.func fn first cap) w:=fun _ _ _ _=>rfl
 go_enter_defers Tryz.func197,Tryz.ntmps197
 go_wp2_with fail
 refine h.mono ?_;rintro e w1 ⟨rfl,hR,hc,hz⟩
 by_cases h0:c=0
 ·rw[h0,zV]
  go_wp2_with fail
  refine leaves_cons (f:=222) (args:=#[U (N ⟨w.heap.size,0,J⟩)]) (by simp) (by simp[go_sem]) ?_;refine(ydj ⟨w.heap.size,0,J⟩ _).mono ?_;rintro e u' w'' ⟨rfl,rfl,rfl⟩;simp[Leaves,settle,results,Tryz.results197,go_sem,hc];exact⟨h0.symm,w1,hR,(Below.refl w.heap.size w1).setCell (p:=⟨w.heap.size,0,J⟩) (F _) _⟩
 ·rw[zI h0]
  go_wp2_with fail
  refine leaves_cons (f:=222) (args:=#[U (N ⟨w.heap.size,0,J⟩)]) (by simp) (by simp[go_sem]) ?_;refine(yff ⟨w.heap.size,0,J⟩ c _ hc hz).mono ?_;rintro e u' w'' ⟨rfl,rfl,hc',hb⟩;simp[Leaves,settle,results,Tryz.results197,go_sem,hc'];exact⟨w1,hR,hb⟩
theorem qP (lv:Int) (h:lv<0\/3<lv) (w:V):
 Calls C 223 #[B P lv] w fun e w'=>e= .panicked [{v:= .iface 273 (O #[B P 1]),recovered:=S}]/\w'=w:=by
 rcases h with h|h
 all_goals
  go_enter Tryz.func223,Tryz.ntmps223
  go_wp2_with (go_at_call 224;refine(jY _ _).mono ?_;rintro e w' ⟨rfl,rfl⟩)
  exact⟨rfl,rfl,rfl⟩
theorem zk (lv:Int) (h:0<=lv) (h':lv<=3) (w:V):
 Calls C 223 #[B P lv] w fun e w'=>e=Q (X #[])/\w'=w:=by
 have d1:decide (lv<0)=S:=by simpa using h
 have d2:decide (3<lv)=S:=by simpa using h'
 clear h h'
 go_enter Tryz.func223,Tryz.ntmps223
 go_wp2_with (go_at_call 224;refine(vA _ _).mono ?_;rintro e w' ⟨rfl,rfl⟩)
 go_end0
 exact⟨rfl,rfl⟩
theorem xV (t l:Bool) (r:Int) (u d:Bool) (f lv:Int) (w:V):
 Calls C 187 #[O #[I t,I l,B P r,I u,I d,B P f],B P lv] w fun e w'=>e=Q (O #[B P 0,B P lv,B P f,B P r])/\Below w.heap.size w w':=by
 go_enter Tryz.func187,Tryz.ntmps187
 go_wp2_with fail
 refine bodyPost_ret (v:=O #[B P 0,B P lv,B P f,B P r]) ?_ rfl ⟨rfl,?_⟩
 ·simp[results,Tryz.results187,go_sem]
 ·exact zA (zA (zR _) _) _
theorem yc3 (t l:Bool) (r:Int) (u d:Bool) (f lv:Int) (h:Pg.yhj t l r u d f lv=0) (w:V):
 Calls C 200 #[O #[I t,I l,B P r,I u,I d,B P f],B P lv] w fun e w'=>e=Q (B M (Pg.yiq t l r u d f lv))/\Below w.heap.size w w':=by
 obtain⟨⟨l0,l3⟩,hc⟩:=Pg.yhw h;clear h;rcases hc with ⟨rfl,rfl,rfl,rfl,rfl,rfl⟩|⟨rfl,r0,r1,f0,f1,hc⟩
 ·go_enter Tryz.func200,Tryz.ntmps200
  go_wp2_with fail
  go_ret
  exact⟨rfl,zA (zR _) _⟩
 ·clear hc
  have HO:Hid _:=Pg.word_or r f r0 r1 f0 f1
  cases u<;>cases d<;>cases l
  all_goals
   go_enter Tryz.func200,Tryz.ntmps200
   go_wp2_with fail
  all_goals
   go_ret
   refine⟨zJ ?_,zA (zR _) _⟩;obtain⟨o1,o2,o3,o4,o5,o6,o7,o8⟩:=HO.out;simp only[o1,o2,o3,o4,o5,o6,o7,o8]
   simp_all[Pg.yiq,Pg.b01]<;>omega
theorem yfy (W lv:Int) (h0:0<=W) (h1:W<4294967296) (h2:W%2=1) (w:V):
 Calls C 229 #[B M W,B P lv] w fun e w'=>e=Q (O #[I T,I (Pg.yhY W lv),B P (W/2%8),I (Pg.yhR W),I (Pg.yhy W),B P (W/4096)])/\Below w.heap.size w w':=by
 have h1':W<18446744073709551616:=by omega
 have b0:(bits .and M W 1==0)=S:=by rw[Pg.and1 W h0 h1',h2];rfl
 have b5:(bits .and M W 32 !=0)=Pg.yhR W:=by rw[Pg.and32 W h0 h1',z];simp[Pg.yhR];omega
 have b6:(bits .and M W 64 !=0)=Pg.yhy W:=by rw[Pg.and64 W h0 h1',z];simp[Pg.yhy];omega
 have b1:wrap64 (bits .and M W 14/2)=W/2%8:=by
  rw[Pg.and14 W h0 h1',wrap64];omega
 have bF:wrap64 (bits .and M W 4294963200/4096)=W/4096:=by
  rw[Pg.andF W h0 h1',wrap64];omega
 by_cases h7:W/128%2=1
 ·have b7:(bits .and M W 128 !=0)=T:=by rw[Pg.ykY W h0 h1',h7];rfl
  have HL:Hid (Pg.yhY W lv=T):=by simp[Hid,Pg.yhY,h7]
  clear h7 h2
  go_enter Tryz.func229,Tryz.ntmps229
  go_wp2_with fail
  refine bodyPost_ret (v:=O #[I T,I T,B P (W/2%8),I (Pg.yhR W),I (Pg.yhy W),B P (W/4096)]) ?_ rfl ⟨by rw[HL.out],?_⟩
  ·simp[results,Tryz.results229,go_sem]
  ·exact zA (zR _) _
 ·have b7:(bits .and M W 128 !=0)=S:=by
   have:W/128%2=0:=by omega
   rw[Pg.ykY W h0 h1',this];rfl
  have HL:Hid (Pg.yhY W lv=(lv==0)):=by
   simp only[Hid,Pg.yhY,h7,decide_false,Bool.or_false];rfl
  clear h7 h2
  go_enter Tryz.func229,Tryz.ntmps229
  go_wp2_with fail
  refine bodyPost_ret (v:=O #[I T,I (lv==0),B P (W/2%8),I (Pg.yhR W),I (Pg.yhy W),B P (W/4096)]) ?_ rfl ⟨by rw[HL.out],?_⟩
  ·simp[results,Tryz.results229,go_sem]
  ·exact zA (zR _) _
theorem yjq (lv:Int) (w:V):
 Calls C 229 #[B M 0,B P lv] w fun e w'=>e=Q (O #[I S,I S,B P 0,I S,I S,B P 0])/\Below w.heap.size w w':=by
 have b0:(bits .and M 0 1==0)=T:=by decide
 go_enter Tryz.func229,Tryz.ntmps229
 go_wp2_with fail
 refine bodyPost_ret (v:=O #[I S,I S,B P 0,I S,I S,B P 0]) ?_ rfl ⟨rfl,?_⟩
 ·simp[results,Tryz.results229,go_sem]
 ·exact zA (zR _) _
theorem yak (W lv:Int) (h0:0<=W) (h1:W<18446744073709551616) (w:V):
 Calls C 228 #[B M W,B P lv] w fun e w'=>e=give (if lv<0\/3<lv then 1 else if Pg.wBad W lv=T then 7 else 0)/\w'=w:=by
 by_cases hl:lv<0\/3<lv
 ·rw[if_pos hl]
  go_enter Tryz.func228,Tryz.ntmps228
  go_wp2_with (go_at_call 223;refine(qP _ hl _).mono ?_;rintro e w' ⟨rfl,rfl⟩)
  exact⟨rfl,rfl,rfl⟩
 ·rw[if_neg hl]
  have l0:0<=lv:=by omega
  have l3:lv<=3:=by omega
  clear hl;have hw:=Pg.wBad_eq W lv h0 h1;have HW:Hid _:=hw;clear hw;generalize hg:(if Pg.wBad W lv=T then(7:Int)else 0)=g;have HG:Hid _:=hg;clear hg;cases c1:(bits .andNot M W 4294963439 !=0)
  ·cases c2:(bits .and M W 1==0)
   ·cases c4:(bits .and M W 128 !=0)
    ·go_enter Tryz.func228,Tryz.ntmps228
     go_wp2_with (first
      | (go_at_call 223;refine(zk _ l0 l3 _).mono ?_;rintro e w' ⟨rfl,rfl⟩)
      | (go_at_call 224;refine(ze _ _ _).mono ?_;rintro e w' ⟨rfl,rfl⟩;simp only[cond]))
     go_end0
     exact⟨by rw[<-HG.out,HW.out,c1,c2,c4];rfl,rfl⟩
    ·cases c5:(lv==0)
     ·go_enter Tryz.func228,Tryz.ntmps228
      go_wp2_with (first
       | (go_at_call 223;refine(zk _ l0 l3 _).mono ?_;rintro e w' ⟨rfl,rfl⟩)
       | (go_at_call 224;refine(ze _ _ _).mono ?_;rintro e w' ⟨rfl,rfl⟩;simp only[cond]))
      go_end0
      exact⟨by rw[<-HG.out,HW.out,c1,c2,c4,c5];rfl,rfl⟩
     ·go_enter Tryz.func228,Tryz.ntmps228
      go_wp2_with (first
       | (go_at_call 223;refine(zk _ l0 l3 _).mono ?_;rintro e w' ⟨rfl,rfl⟩)
       | (go_at_call 224;refine(ze _ _ _).mono ?_;rintro e w' ⟨rfl,rfl⟩;simp only[cond]))
      exact⟨rfl,by rw[<-HG.out,HW.out,c1,c2,c4,c5];rfl,rfl⟩
   ·cases c3:(W !=0)
    ·have hz:W=0:=by simpa using c3
     subst hz
     go_enter Tryz.func228,Tryz.ntmps228
     go_wp2_with (first
      | (go_at_call 223;refine(zk _ l0 l3 _).mono ?_;rintro e w' ⟨rfl,rfl⟩)
      | (go_at_call 224;refine(ze _ _ _).mono ?_;rintro e w' ⟨rfl,rfl⟩;simp only[cond]))
     go_end0
     exact⟨by rw[<-HG.out];simp[Pg.wBad,give],rfl⟩
    ·go_enter Tryz.func228,Tryz.ntmps228
     go_wp2_with (first
      | (go_at_call 223;refine(zk _ l0 l3 _).mono ?_;rintro e w' ⟨rfl,rfl⟩)
      | (go_at_call 224;refine(ze _ _ _).mono ?_;rintro e w' ⟨rfl,rfl⟩;simp only[cond]))
     exact⟨rfl,by rw[<-HG.out,HW.out,c1,c2,c3];rfl,rfl⟩
  ·go_enter Tryz.func228,Tryz.ntmps228
   go_wp2_with (first
    | (go_at_call 223;refine(zk _ l0 l3 _).mono ?_;rintro e w' ⟨rfl,rfl⟩)
    | (go_at_call 224;refine(ze _ _ _).mono ?_;rintro e w' ⟨rfl,rfl⟩;simp only[cond]))
   exact⟨rfl,by rw[<-HG.out,HW.out,c1];rfl,rfl⟩
theorem ycQ (t l:Bool) (r:Int) (u d:Bool) (f lv:Int) (l0:0<=lv) (l3:lv<=3) (hr:¬(r<0\/7<r\/f<0\/1048576<=f)) (w:V):
 Calls C 225 #[O #[I t,I l,B P r,I u,I d,B P f],B P lv] w fun e w'=>
  e=give (if lv=3 then 2 else if f%Pg.span lv=0 then 0 else 3)/\Below w.heap.size w w':=by
 by_cases h3:lv=3
 ·subst h3
  clear hr
  go_enter Tryz.func225,Tryz.ntmps225
  go_wp2_with (go_at_call 224;refine(ze _ _ _).mono ?_;rintro e w' ⟨rfl,rfl⟩;simp only[cond])
  exact⟨rfl,rfl,zA (zR _) _⟩
 ·have e3:(lv==3)=S:=by simpa using h3
  have HC:Hid _:=Pg.check_leaf hr l0 (by omega:lv<=2);rw[if_neg h3];clear h3 hr
  by_cases hm:f%Pg.span lv=0
  ·have hk:(Pg.check 0 lv f r !=0)=S:=by rw[HC.out,if_pos hm];rfl
   rw[if_pos hm];clear hm HC
   go_enter Tryz.func225,Tryz.ntmps225
   go_wp2_with (go_at_call 224;refine(ze _ _ _).mono ?_;rintro e w' ⟨rfl,rfl⟩;simp only[cond])
   refine(xV _ _ _ _ _ _ _ _).mono ?_;rintro e w1 ⟨rfl,hb1⟩
   go_wp2_with fail
   refine(zQ _ _ _ _ _).mono ?_;rintro e w2 ⟨rfl,hb2⟩
   go_wp2_with (go_at_call 224;refine(ze _ _ _).mono ?_;rintro e w' ⟨rfl,rfl⟩;simp only[cond])
   go_end0
   exact⟨rfl,zT (zT (zA (zR _) _) hb1) hb2⟩
  ·have hk:(Pg.check 0 lv f r !=0)=T:=by rw[HC.out,if_neg hm];rfl
   rw[if_neg hm];clear hm HC
   go_enter Tryz.func225,Tryz.ntmps225
   go_wp2_with (go_at_call 224;refine(ze _ _ _).mono ?_;rintro e w' ⟨rfl,rfl⟩;simp only[cond])
   refine(xV _ _ _ _ _ _ _ _).mono ?_;rintro e w1 ⟨rfl,hb1⟩
   go_wp2_with fail
   refine(zQ _ _ _ _ _).mono ?_;rintro e w2 ⟨rfl,hb2⟩
   go_wp2_with (go_at_call 224;refine(ze _ _ _).mono ?_;rintro e w' ⟨rfl,rfl⟩;simp only[cond])
   exact⟨rfl,rfl,zT (zT (zA (zR _) _) hb1) hb2⟩
theorem ybY (t l:Bool) (r:Int) (u d:Bool) (f lv:Int) (w:V):
 Calls C 226 #[O #[I t,I l,B P r,I u,I d,B P f],B P lv] w fun e w'=>
  e=give (if lv=0 then 2 else if r≠7\/u=T\/d=T then 7 else 0)/\Below w.heap.size w w':=by
 by_cases h3:lv=0
 ·subst h3
  go_enter Tryz.func226,Tryz.ntmps226
  go_wp2_with (go_at_call 224;refine(ze _ _ _).mono ?_;rintro e w' ⟨rfl,rfl⟩;simp only[cond])
  exact⟨rfl,rfl,zA (zR _) _⟩
 ·have e3:(lv==0)=S:=by simpa using h3
  rw[if_neg h3];clear h3
  by_cases h7:r=7
  ·subst h7
   cases u<;>cases d
   all_goals
    go_enter Tryz.func226,Tryz.ntmps226
    go_wp2_with (first
     | (go_at_call 224;refine(ze _ _ _).mono ?_;rintro e w' ⟨rfl,rfl⟩;simp only[cond]))
    first
     | exact⟨rfl,rfl,zA (zR _) _⟩
     | (go_end0
        exact⟨rfl,zA (zR _) _⟩)
  ·have e7:(r !=7)=T:=by simpa using h7
   rw[if_pos (.inl h7)];clear h7
   go_enter Tryz.func226,Tryz.ntmps226
   go_wp2_with (first
    | (go_at_call 224;refine(ze _ _ _).mono ?_;rintro e w' ⟨rfl,rfl⟩;simp only[cond]))
   exact⟨rfl,rfl,zA (zR _) _⟩
theorem yal (l:Bool) (r:Int) (u d:Bool) (f lv:Int) (l0:0<=lv) (l3:lv<=3) (w:V):
 Calls C 199 #[O #[I S,I l,B P r,I u,I d,B P f],B P lv] w fun e w'=>e=give (Pg.yhj S l r u d f lv)/\Below w.heap.size w w':=by
 have hg:Pg.yhj S l r u d f lv=if l=T\/r≠0\/u=T\/d=T\/f≠0 then 7 else 0:=by
  simp only[Pg.yhj,if_neg (by omega:¬(lv<0\/3<lv)),if_true]
 generalize Pg.yhj S l r u d f lv=g at hg;have HG:Hid _:=hg;clear hg
 go_enter Tryz.func199,Tryz.ntmps199
 go_wp2_with (first
  | (go_at_call 223;refine(zk _ l0 l3 _).mono ?_;rintro e w' ⟨rfl,rfl⟩)
  | (go_at_call 224;refine(ze _ _ _).mono ?_;rintro e w' ⟨rfl,rfl⟩;simp only[cond]))
 all_goals
  first
   | (refine⟨rfl,?_,zA (zR _) _⟩
      rw[HG.out]
      simp_all[give])
   | (refine bodyPost_ret (results_none rfl _ _ _) rfl ⟨?_,zA (zR _) _⟩
      rw[HG.out]
      simp_all[give])
theorem vM (l:Bool) (r:Int) (u d:Bool) (f lv:Int) (l0:0<=lv) (l3:lv<=3) (w:V):
 Calls C 199 #[O #[I T,I l,B P r,I u,I d,B P f],B P lv] w fun e w'=>e=give (Pg.yhj T l r u d f lv)/\Below w.heap.size w w':=by
 have hlv:¬(lv<0\/3<lv):=by omega
 have HS:Hid _:=Pg.check_small f r
 by_cases hr:r<0\/7<r\/f<0\/1048576<=f
 ·have hc:Pg.yhj T l r u d f lv=1:=by simp[Pg.yhj,hlv,hr]
  rw[hc]
  have hk:(Pg.check 0 0 f r !=0)=T:=by rw[HS.out,if_pos hr];rfl
  clear hc hr HS hlv
  go_enter Tryz.func199,Tryz.ntmps199
  go_wp2_with (go_at_call 223;refine(zk _ l0 l3 _).mono ?_;rintro e w' ⟨rfl,rfl⟩)
  refine(xV _ _ _ _ _ _ _ _).mono ?_;rintro e w1 ⟨rfl,hb1⟩
  go_wp2_with fail
  refine(zQ _ _ _ _ _).mono ?_;rintro e w2 ⟨rfl,hb2⟩
  go_wp2_with (go_at_call 224;refine(ze _ _ _).mono ?_;rintro e w' ⟨rfl,rfl⟩;simp only[cond])
  exact⟨rfl,rfl,zT (zT (zA (zR _) _) hb1) hb2⟩
 ·have hk:(Pg.check 0 0 f r !=0)=S:=by rw[HS.out,if_neg hr];rfl
  have HR:Hid _:=hr;cases l
  ·have HC:Hid (Pg.yhj T S r u d f lv=if lv=0 then 2 else if r≠7\/u=T\/d=T then 7 else 0):=by
    simp only[Hid,Pg.yhj,if_neg hlv,if_neg hr,L,Bool.false_eq_true,if_false,false_and,true_and,false_or]
   generalize hg:(if lv=0 then(2:Int)else if r≠7\/u=T\/d=T then 7 else 0)=g at HC;rw[HC.out];have HL:=ybY T S r u d f lv;rw[hg]at HL;clear HC hr HS hlv hg
   go_enter Tryz.func199,Tryz.ntmps199
   go_wp2_with (go_at_call 223;refine(zk _ l0 l3 _).mono ?_;rintro e w' ⟨rfl,rfl⟩)
   refine(xV _ _ _ _ _ _ _ _).mono ?_;rintro e w1 ⟨rfl,hb1⟩;obtain⟨hc1,hf1⟩:=xQ hb1
   go_wp2_with fail
   refine(zQ _ _ _ _ _).mono ?_;rintro e w2 ⟨rfl,hb2⟩;obtain⟨hc2,hf2⟩:=xQ (zT hb1 hb2)
   go_wp2_with (go_at_call 224;refine(ze _ _ _).mono ?_;rintro e w' ⟨rfl,rfl⟩;simp only[cond])
   refine(HL _).mono ?_;rintro e w3 ⟨rfl,hb3⟩
   by_cases h0:g=0
   ·rw[h0,zV]
    go_wp2_with fail
    go_end0
    exact⟨by rw[h0,zV],zT (zT (zT (zA (zR _) _) hb1) hb2) hb3⟩
   ·rw[zI h0]
    go_wp2_with fail
    exact⟨rfl,(zI h0).symm,zT (zT (zT (zA (zR _) _) hb1) hb2) hb3⟩
  ·have HC:Hid (Pg.yhj T T r u d f lv=if lv=3 then 2 else if f%Pg.span lv=0 then 0 else 3):=by
    simp only[Hid,Pg.yhj,if_neg hlv,if_neg hr,L,if_false,if_true,false_and,true_and,or_false]
   generalize hg:(if lv=3 then(2:Int)else if f%Pg.span lv=0 then 0 else 3)=g at HC;rw[HC.out];have HL:=ycQ T T r u d f lv l0 l3 hr;rw[hg]at HL;clear HC hr HS hlv hg
   go_enter Tryz.func199,Tryz.ntmps199
   go_wp2_with (go_at_call 223;refine(zk _ l0 l3 _).mono ?_;rintro e w' ⟨rfl,rfl⟩)
   refine(xV _ _ _ _ _ _ _ _).mono ?_;rintro e w1 ⟨rfl,hb1⟩;obtain⟨hc1,hf1⟩:=xQ hb1
   go_wp2_with fail
   refine(zQ _ _ _ _ _).mono ?_;rintro e w2 ⟨rfl,hb2⟩;obtain⟨hc2,hf2⟩:=xQ (zT hb1 hb2)
   go_wp2_with (go_at_call 224;refine(ze _ _ _).mono ?_;rintro e w' ⟨rfl,rfl⟩;simp only[cond])
   refine(HL _).mono ?_;rintro e w3 ⟨rfl,hb3⟩
   by_cases h0:g=0
   ·rw[h0,zV]
    go_wp2_with fail
    go_end0
    exact⟨by rw[h0,zV],zT (zT (zT (zA (zR _) _) hb1) hb2) hb3⟩
   ·rw[zI h0]
    go_wp2_with fail
    exact⟨rfl,(zI h0).symm,zT (zT (zT (zA (zR _) _) hb1) hb2) hb3⟩
theorem qd (t l:Bool) (r:Int) (u d:Bool) (f lv:Int) (w:V):
 Calls C 199 #[O #[I t,I l,B P r,I u,I d,B P f],B P lv] w fun e w'=>e=give (Pg.yhj t l r u d f lv)/\Below w.heap.size w w':=by
 by_cases hl:lv<0\/3<lv
 ·have hc:Pg.yhj t l r u d f lv=1:=by simp[Pg.yhj,hl]
  rw[hc]
  go_enter Tryz.func199,Tryz.ntmps199
  go_wp2_with (go_at_call 223;refine(qP _ hl _).mono ?_;rintro e w' ⟨rfl,rfl⟩)
  exact⟨rfl,rfl,zA (zR _) _⟩
 ·cases t
  ·exact yal l r u d f lv (by omega) (by omega) w
  ·exact vM l r u d f lv (by omega) (by omega) w
theorem ya4 (t l:Bool) (r:Int) (u d:Bool) (f lv:Int) (a b:Nat) (w:V)
 (ha:w.cell? ⟨a,0,J⟩=N (I t)/\w.cell? ⟨a,1,J⟩=N (I l)/\w.cell? ⟨a,2,J⟩=N (B P r)/\w.cell? ⟨a,3,J⟩=N (I u)/\w.cell? ⟨a,4,J⟩=N (I d)/\w.cell? ⟨a,5,J⟩=N (B P f))
 (hb:w.cell? ⟨b,0,J⟩=N (B P lv)):
 Calls C 213 #[U (N ⟨a,0,J⟩),U (N ⟨b,0,J⟩)] w fun e w'=>e=give (Pg.yhj t l r u d f lv)/\Below w.heap.size w w':=by
 obtain⟨a0,a1,a2,a3,a4,a5⟩:=ha
 go_enter Tryz.func213,Tryz.ntmps213
 go_wp2_with fail
 refine(qd _ _ _ _ _ _ _ _).mono ?_;rintro e w1 ⟨rfl,hb1⟩
 by_cases h0:Pg.yhj t l r u d f lv=0
 ·rw[h0,zV]
  go_wp2_with fail
  go_end0
  exact⟨by rw[h0,zV],hb1⟩
 ·rw[zI h0]
  go_wp2_with fail
  exact⟨rfl,(zI h0).symm,hb1⟩
theorem qX (t l:Bool) (r:Int) (u d:Bool) (f lv:Int) (w:V):
 Calls C 186 #[O #[I t,I l,B P r,I u,I d,B P f],B P lv] w fun e w'=>e=Q (B P (Pg.yhj t l r u d f lv))/\Below w.heap.size w w':=by
 have hmf:∀(fn:Fn) (first cap:Array Value) (w:V),(Instr.makeFunc fn first cap).run C w= .ok (.func fn first cap) w:=fun _ _ _ _=>rfl
 go_enter Tryz.func186,Tryz.ntmps186
 go_wp2_with fail
 refine(jM 213 _ (Pg.yhj t l r u d f lv) (fun w'=>Below w.heap.size w w') _ ?_ ?_).mono ?_
 ·intro w
  simp[go_sem]
 ·refine(ya4 t l r u d f lv w.heap.size (w.heap.size+1) _ ?_ ?_).mono ?_
  ·simp[go_sem]
  ·simp[go_sem]
  ·rintro e w1 ⟨rfl,hb1⟩
   obtain⟨k1,k2⟩:=xQ hb1;refine⟨rfl,?_,?_,?_⟩
   ·exact zT (zA (zA (zA (zR w) _) _) _) hb1
   ·rw[k1 _ _ (by simp)]
    simp[go_sem]
   ·rw[k2 _ _ (by simp)]
    simp[go_sem]
 ·rintro e w2 ⟨rfl,w1,hb1,hb2⟩
  have HB:Hid (Below w.heap.size w w2):=hb1.trans (hb2.mono (by simp;omega));clear hb1 hb2
  go_wp2_with fail
  go_ret
  exact⟨rfl,HB.out⟩
theorem yba (t l:Bool) (r:Int) (u d:Bool) (f lv q:Int) (w:V):
 Calls C 152 #[O #[I t,I l,B P r,I u,I d,B P f],B P lv,B P q] w fun e w'=>e=Q (Pg.mapV t l r u d f lv q)/\Below w.heap.size w w':=by
 by_cases h0:Pg.yhj t l r u d f lv=0
 ·have e0:(Pg.yhj t l r u d f lv !=0)=S:=by simp[h0]
  have H0:Hid _:=h0;cases l
  ·have HV:Hid _:=Pg.yjR (at':=q) (by simp[Pg.lOk,h0]:Pg.lOk t S r u d f lv q=S)
   clear h0
   go_enter Tryz.func152,Tryz.ntmps152
   go_wp2_with fail
   refine(qX _ _ _ _ _ _ _ _).mono ?_;rintro e w1 ⟨rfl,hb1⟩;obtain⟨hc1,hf1⟩:=xQ hb1
   go_wp2_with fail
   refine bodyPost_ret (v:=O #[B P 0,B P 0,B P 0,B P 0]) ?_ rfl ⟨by rw[HV.out],?_⟩
   ·simp[results,Tryz.results152,go_sem,hc1]
   ·exact((((zT (zA (zA (zR _) _) _) hb1).setCell (by simp) _).setCell (by simp) _).setCell (by simp) _).setCell (by simp) _
  ·cases hq:Pg.below q 4096
   ·have HV:Hid _:=Pg.yjR (at':=q) (by simp[Pg.lOk,hq]:Pg.lOk t T r u d f lv q=S)
    clear h0
    go_enter Tryz.func152,Tryz.ntmps152
    go_wp2_with fail
    refine(qX _ _ _ _ _ _ _ _).mono ?_;rintro e w1 ⟨rfl,hb1⟩;obtain⟨hc1,hf1⟩:=xQ hb1
    go_wp2_with (go_at_call 172;refine(xh _ _).mono ?_;rintro e w' ⟨rfl,rfl⟩)
    refine bodyPost_ret (v:=O #[B P 0,B P 0,B P 0,B P 0]) ?_ rfl ⟨by rw[HV.out],?_⟩
    ·simp[results,Tryz.results152,go_sem,hc1]
    ·exact((((zT (zA (zA (zR _) _) _) hb1).setCell (by simp) _).setCell (by simp) _).setCell (by simp) _).setCell (by simp) _
   ·have HV:Hid _:=Pg.ykH (at':=q) (by simp[Pg.lOk,hq,h0]:Pg.lOk t T r u d f lv q=T)
    have hs1:1<=Pg.span lv/\Pg.span lv<=64:=by
     obtain⟨⟨l0,l3⟩,hc⟩:=Pg.yhw h0;have hsp:=Pg.yht lv;have hb:=Pg.yhx lv;rcases hc with ⟨_,h,_⟩|⟨_,_,_,_,_,⟨_,h,_⟩|⟨h,_⟩⟩
     ·cases h
     ·omega
     ·cases h
    obtain⟨s1,s2⟩:=hs1;obtain⟨q0,q1⟩:=Pg.zB.1 hq;clear h0
    go_enter Tryz.func152,Tryz.ntmps152
    go_wp2_with fail
    refine(qX _ _ _ _ _ _ _ _).mono ?_;rintro e w1 ⟨rfl,hb1⟩;obtain⟨hc1,hf1⟩:=xQ hb1
    go_wp2_with (go_at_call 172;refine(xh _ _).mono ?_;rintro e w' ⟨rfl,rfl⟩)
    refine(xV _ _ _ _ _ _ _ _).mono ?_;rintro e w2 ⟨rfl,hb2⟩;have hB:=zT hb1 hb2;have fr:∀o k,(w2.alloc o).frozen? ⟨w.heap.size+1,k,J⟩=S:=fun o k=>((zA hB o).frozen (p:=⟨w.heap.size+1,k,J⟩) (by simp)).trans (by simp[go_sem]);have c0:∀o,(w2.alloc o).cell? ⟨w.heap.size+1,0,J⟩=N (B P 0):=fun o=>((zA hB o).cell (p:=⟨w.heap.size+1,0,J⟩) (by simp)).trans (by simp[go_sem]);have c1:∀o,(w2.alloc o).cell? ⟨w.heap.size+1,1,J⟩=N (B P 0):=fun o=>((zA hB o).cell (p:=⟨w.heap.size+1,1,J⟩) (by simp)).trans (by simp[go_sem]);have c2:∀o,(w2.alloc o).cell? ⟨w.heap.size+1,2,J⟩=N (B P 0):=fun o=>((zA hB o).cell (p:=⟨w.heap.size+1,2,J⟩) (by simp)).trans (by simp[go_sem]);have c3:∀o,(w2.alloc o).cell? ⟨w.heap.size+1,3,J⟩=N (B P 0):=fun o=>((zA hB o).cell (p:=⟨w.heap.size+1,3,J⟩) (by simp)).trans (by simp[go_sem])
    have hwr:wrap64 (q-q%Pg.span lv)=q-q%Pg.span lv:=by
     have:=Int.emod_nonneg q (by omega:Pg.span lv≠0);have:=Int.emod_lt_of_pos q (by omega:0<Pg.span lv);rw[wrap64];omega
    have HB:Hid (Below w.heap.size w w2):=zT (zA (zA (zR w) _) _) hB;clear hB hb1 hb2 hc1 hf1
    go_wp2_with (go_at_call 153;refine(xJ _ _).mono ?_;rintro e w' ⟨rfl,rfl⟩)
    refine bodyPost_ret (v:=O #[B P (q-q%Pg.span lv),B P lv,B P f,B P r]) ?_ rfl ⟨by rw[HV.out],?_⟩
    ·simp[results,Tryz.results152,go_sem,c0,c1,c2,c3]
    ·exact((((zA HB.out _).setCell (by simp) _).setCell (by simp) _).setCell (by simp) _).setCell (by simp) _
 ·have e0:(Pg.yhj t l r u d f lv !=0)=T:=by simp[h0]
  have HV:Hid _:=Pg.yjR (at':=q) (by simp[Pg.lOk,h0]:Pg.lOk t l r u d f lv q=S);clear h0
  go_enter Tryz.func152,Tryz.ntmps152
  go_wp2_with fail
  refine(qX _ _ _ _ _ _ _ _).mono ?_;rintro e w1 ⟨rfl,hb1⟩;obtain⟨hc1,hf1⟩:=xQ hb1
  go_wp2_with fail
  refine bodyPost_ret (v:=O #[B P 0,B P 0,B P 0,B P 0]) ?_ rfl ⟨by rw[HV.out],?_⟩
  ·simp[results,Tryz.results152,go_sem,hc1]
  ·exact((((zT (zA (zA (zR _) _) _) hb1).setCell (by simp) _).setCell (by simp) _).setCell (by simp) _).setCell (by simp) _
theorem yac (t l:Bool) (r:Int) (u d:Bool) (f lv:Int) (a b c:Nat) (w:V)
 (ha:w.cell? ⟨a,0,J⟩=N (I t)/\w.cell? ⟨a,1,J⟩=N (I l)/\w.cell? ⟨a,2,J⟩=N (B P r)/\w.cell? ⟨a,3,J⟩=N (I u)/\w.cell? ⟨a,4,J⟩=N (I d)/\w.cell? ⟨a,5,J⟩=N (B P f))
 (hb:w.cell? ⟨b,0,J⟩=N (B P lv)) (hc:w.cell? ⟨c,0,J⟩=N (B M 0)) (hz:w.frozen? ⟨c,0,J⟩=S):
 Calls C 198 #[U (N ⟨a,0,J⟩),U (N ⟨b,0,J⟩),U (N ⟨c,0,J⟩)] w fun e w'=>
  e=give (Pg.yhj t l r u d f lv)/\Below c w w'/\w'.cell? ⟨c,0,J⟩=N (B M (Pg.enc t l r u d f lv))/\
  ∀k,k≠c->k<w.heap.size->w'.cell? ⟨k,0,J⟩=w.cell? ⟨k,0,J⟩/\w'.frozen? ⟨k,0,J⟩=w.frozen? ⟨k,0,J⟩:=by
 have hlt:c<w.heap.size:=K _ _ hc;have HLT:Hid _:=hlt;obtain⟨a0,a1,a2,a3,a4,a5⟩:=ha;clear hlt
 go_enter Tryz.func198,Tryz.ntmps198
 go_wp2_with fail
 refine(qd _ _ _ _ _ _ _ _).mono ?_;rintro e w1 ⟨rfl,hb1⟩
 by_cases h0:Pg.yhj t l r u d f lv=0
 ·have HE:Hid (Pg.enc t l r u d f lv=Pg.yiq t l r u d f lv):=Pg.yiB h0
  have HW:=yc3 t l r u d f lv h0;rw[h0,zV];have HG:Hid _:=h0;clear h0;have a0':=cell_later hb1 a0;have a1':=cell_later hb1 a1;have a2':=cell_later hb1 a2;have a3':=cell_later hb1 a3;have a4':=cell_later hb1 a4;have a5':=cell_later hb1 a5;have b':=cell_later hb1 hb
  go_wp2_with fail
  refine(HW _).mono ?_;rintro e w2 ⟨rfl,hb2⟩;have hB:=zT hb1 hb2;have c':=cell_later hB hc;have z':=ybP hB hc hz
  go_wp2_with fail
  go_end0
  refine⟨by rw[HG.out,zV],(hB.mono (E HLT.out)).setCell (F c) _,?_,?_⟩
  ·rw[HE.out]
   exact A _ _ _ c'
  ·intro k hk hkl
   have e1:∀v,(w2.setCell ⟨c,0,J⟩ v).frozen? ⟨k,0,J⟩=w2.frozen? ⟨k,0,J⟩:=fun v=>by simp[go_sem]
   have e2:∀v,(w2.setCell ⟨c,0,J⟩ v).cell? ⟨k,0,J⟩=w2.cell? ⟨k,0,J⟩:=fun v=>Y _ _ _ _ (fun e=>hk (by cases e;rfl));exact⟨(e2 _).trans (hB.cell hkl),(e1 _).trans (hB.frozen hkl)⟩
 ·rw[zI h0]
  go_wp2_with fail
  refine⟨rfl,(zI h0).symm,hb1.mono (E HLT.out),?_,?_⟩
  ·rw[Pg.enc,if_neg h0]
   exact cell_later hb1 hc
  ·intro k hk hkl
   exact⟨hb1.cell hkl,hb1.frozen hkl⟩
theorem yaG (t l:Bool) (r:Int) (u d:Bool) (f lv:Int) (w:V):
 Calls C 168 #[O #[I t,I l,B P r,I u,I d,B P f],B P lv] w fun e w'=>e=Q (X #[B M (Pg.enc t l r u d f lv),B P (Pg.yhj t l r u d f lv)])/\Below w.heap.size w w':=by
 have hmf:∀(fn:Fn) (first cap:Array Value) (w:V),(Instr.makeFunc fn first cap).run C w= .ok (.func fn first cap) w:=fun _ _ _ _=>rfl
 go_enter Tryz.func168,Tryz.ntmps168
 go_wp2_with fail
 refine(jM 198 _ (Pg.yhj t l r u d f lv) (fun w'=>Below w.heap.size w w'/\w'.cell? ⟨w.heap.size+1+1,0,J⟩=N (B M (Pg.enc t l r u d f lv))) _ ?_ ?_).mono ?_
 ·intro w
  simp[go_sem]
 ·refine(yac t l r u d f lv w.heap.size (w.heap.size+1) (w.heap.size+1+1) _ ?_ ?_ ?_ ?_).mono ?_
  ·simp[go_sem]
  ·simp[go_sem]
  ·simp[go_sem]
  ·simp[go_sem]
  ·rintro e w1 ⟨rfl,hb1,hc1,hk⟩
   obtain⟨k1,k2⟩:=hk (w.heap.size+1+1+1) (by omega) (by simp);refine⟨rfl,⟨?_,hc1⟩,?_,?_⟩
   ·exact(zA (zA (zA (zA (zR w) _) _) _) _).trans (hb1.mono (by omega))
   ·have:((((w.alloc (Z #[I t,I l,B P r,I u,I d,B P f] 70)).alloc (Z #[B P lv] 3)).alloc (Z #[B M 0] 64)).heap.size)=w.heap.size+1+1+1:=by simp
    rw[this,k1];simp[go_sem]
   ·have:((((w.alloc (Z #[I t,I l,B P r,I u,I d,B P f] 70)).alloc (Z #[B P lv] 3)).alloc (Z #[B M 0] 64)).heap.size)=w.heap.size+1+1+1:=by simp
    rw[this,k2];simp[go_sem]
 ·rintro e w2 ⟨rfl,w1,⟨hb1,hc1⟩,hb2⟩
  have hc2:w2.cell? ⟨w.heap.size+1+1,0,J⟩=N (B M (Pg.enc t l r u d f lv)):=(hb2.cell (p:=⟨w.heap.size+1+1,0,J⟩) (by simp)).trans hc1;have HB:Hid (Below w.heap.size w w2):=hb1.trans (hb2.mono (by simp;omega));clear hb1 hb2 hc1
  go_wp2_with fail
  go_ret2
  exact⟨rfl,HB.out⟩
theorem yde {w:V} {c:Nat} {u0 u1 u2 u3 u4 u5 v0 v1 v2 v3 v4 v5:Value} (h:w.cell? ⟨c,0,J⟩=N u0/\w.cell? ⟨c,1,J⟩=N u1/\w.cell? ⟨c,2,J⟩=N u2/\w.cell? ⟨c,3,J⟩=N u3/\w.cell? ⟨c,4,J⟩=N u4/\w.cell? ⟨c,5,J⟩=N u5):
 (((((((w.setCell ⟨c,0,J⟩ v0).setCell ⟨c,1,J⟩ v1).setCell ⟨c,2,J⟩ v2).setCell ⟨c,3,J⟩ v3).setCell ⟨c,4,J⟩ v4).setCell ⟨c,5,J⟩ v5).cell? ⟨c,0,J⟩=N v0/\((((((w.setCell ⟨c,0,J⟩ v0).setCell ⟨c,1,J⟩ v1).setCell ⟨c,2,J⟩ v2).setCell ⟨c,3,J⟩ v3).setCell ⟨c,4,J⟩ v4).setCell ⟨c,5,J⟩ v5).cell? ⟨c,1,J⟩=N v1/\((((((w.setCell ⟨c,0,J⟩ v0).setCell ⟨c,1,J⟩ v1).setCell ⟨c,2,J⟩ v2).setCell ⟨c,3,J⟩ v3).setCell ⟨c,4,J⟩ v4).setCell ⟨c,5,J⟩ v5).cell? ⟨c,2,J⟩=N v2/\((((((w.setCell ⟨c,0,J⟩ v0).setCell ⟨c,1,J⟩ v1).setCell ⟨c,2,J⟩ v2).setCell ⟨c,3,J⟩ v3).setCell ⟨c,4,J⟩ v4).setCell ⟨c,5,J⟩ v5).cell? ⟨c,3,J⟩=N v3/\((((((w.setCell ⟨c,0,J⟩ v0).setCell ⟨c,1,J⟩ v1).setCell ⟨c,2,J⟩ v2).setCell ⟨c,3,J⟩ v3).setCell ⟨c,4,J⟩ v4).setCell ⟨c,5,J⟩ v5).cell? ⟨c,4,J⟩=N v4/\((((((w.setCell ⟨c,0,J⟩ v0).setCell ⟨c,1,J⟩ v1).setCell ⟨c,2,J⟩ v2).setCell ⟨c,3,J⟩ v3).setCell ⟨c,4,J⟩ v4).setCell ⟨c,5,J⟩ v5).cell? ⟨c,5,J⟩=N v5)/\
 (∀k,k≠c->((((((w.setCell ⟨c,0,J⟩ v0).setCell ⟨c,1,J⟩ v1).setCell ⟨c,2,J⟩ v2).setCell ⟨c,3,J⟩ v3).setCell ⟨c,4,J⟩ v4).setCell ⟨c,5,J⟩ v5).cell? ⟨k,0,J⟩=w.cell? ⟨k,0,J⟩)/\
 (∀k,((((((w.setCell ⟨c,0,J⟩ v0).setCell ⟨c,1,J⟩ v1).setCell ⟨c,2,J⟩ v2).setCell ⟨c,3,J⟩ v3).setCell ⟨c,4,J⟩ v4).setCell ⟨c,5,J⟩ v5).frozen? ⟨k,0,J⟩=w.frozen? ⟨k,0,J⟩):=by
 refine⟨by simp[go_sem,h],fun k hk=> ?_,fun k=>by simp[go_sem]⟩;have hn:∀o,(⟨c,o,J⟩:Addr)≠⟨k,0,J⟩:=fun o e=>hk (by cases e;rfl);rw[Y _ _ _ _ (hn _),Y _ _ _ _ (hn _),Y _ _ _ _ (hn _),Y _ _ _ _ (hn _),Y _ _ _ _ (hn _),Y _ _ _ _ (hn _)]
theorem yaa (W lv:Int) (h0:0<=W) (h1:W<18446744073709551616) (a b c:Nat) (w:V)
 (ha:w.cell? ⟨a,0,J⟩=N (B M W)) (hb:w.cell? ⟨b,0,J⟩=N (B P lv))
 (hc:w.cell? ⟨c,0,J⟩=N (I S)/\w.cell? ⟨c,1,J⟩=N (I S)/\w.cell? ⟨c,2,J⟩=N (B P 0)/\w.cell? ⟨c,3,J⟩=N (I S)/\w.cell? ⟨c,4,J⟩=N (I S)/\w.cell? ⟨c,5,J⟩=N (B P 0))
 (hz:∀o,w.frozen? ⟨c,o,J⟩=S):
 Calls C 227 #[U (N ⟨a,0,J⟩),U (N ⟨b,0,J⟩),U (N ⟨c,0,J⟩)] w fun e w'=>
  e=give (Pg.yhq W lv)/\Below c w w'/\(w'.cell? ⟨c,0,J⟩=N (I (Pg.yhv W lv))/\w'.cell? ⟨c,1,J⟩=N (I (Pg.xL W lv))/\w'.cell? ⟨c,2,J⟩=N (B P (Pg.xR W lv))/\w'.cell? ⟨c,3,J⟩=N (I (Pg.xU W lv))/\w'.cell? ⟨c,4,J⟩=N (I (Pg.xD W lv))/\w'.cell? ⟨c,5,J⟩=N (B P (Pg.xF W lv)))/\
  ∀k,k≠c->k<w.heap.size->w'.cell? ⟨k,0,J⟩=w.cell? ⟨k,0,J⟩/\w'.frozen? ⟨k,0,J⟩=w.frozen? ⟨k,0,J⟩:=by
 have hlt:c<w.heap.size:=K _ _ hc.1;have HLT:Hid _:=hlt;clear hlt;have HM:=yak W lv h0 h1
 by_cases hm:(if lv<0\/3<lv then(1:Int)else if Pg.wBad W lv=T then 7 else 0)=0
 ·rw[hm,zV]at HM
  have hl:¬(lv<0\/3<lv):=by
   intro h;rw[if_pos h]at hm;exact absurd hm (by decide)
  rw[if_neg hl]at hm
  have hw:Pg.wBad W lv=S:=by
   cases h:Pg.wBad W lv
   ·rfl
   ·rw[h]at hm;exact absurd hm (by decide)
  clear hm
  by_cases hz0:W=0
  ·subst hz0
   have hd:Pg.yhq 0 lv=0:=by simp[Pg.yhq,hl,hw]
   have hg:Pg.yhv 0 lv=S:=by simp[Pg.yhv]
   have HF:Hid (Pg.yhj S S 0 S S 0 lv=0):=Pg.yjA (by omega) (by omega)
   have HX:Hid (Pg.yhv 0 lv=S/\Pg.xL 0 lv=S/\Pg.xR 0 lv=0/\Pg.xU 0 lv=S/\Pg.xD 0 lv=S/\Pg.xF 0 lv=0):=by
    show _/\_
    simp[Pg.xL,Pg.xR,Pg.xU,Pg.xD,Pg.xF,hg]
   have HD:Hid (Pg.yhq 0 lv=0):=hd;clear hd hg hl hw
   go_enter Tryz.func227,Tryz.ntmps227
   go_wp2_with fail
   refine(HM _).mono ?_;rintro e w1 ⟨rfl,rfl⟩
   go_wp2_with fail
   refine(yjq _ _).mono ?_;rintro e w2 ⟨rfl,hb2⟩;have b2:∀o,(w2.alloc o).cell? ⟨b,0,J⟩=N (B P lv):=fun o=>cell_later (zA hb2 o) hb;have cc2:=xz hb2 hc
   go_wp2_with fail
   refine(qd _ _ _ _ _ _ _ _).mono ?_;rintro e w3 ⟨rfl,hb3⟩;have hB3:=zT (zA hb2 _) hb3;obtain⟨hc3,hf3⟩:=xQ hb3;obtain⟨c0,c1,c2,c3,c4,c5⟩:=xz hB3 hc;have z3:∀o,w3.frozen? ⟨c,o,J⟩=S:=fun o=>(hB3.frozen (p:=⟨c,o,J⟩) HLT.out).trans (hz o);rw[HF.out,zV]
   go_wp2_with fail
   go_end0
   obtain⟨s1,s2,s3⟩:=yde (v0:=I S) (v1:=I S) (v2:=B P 0) (v3:=I S) (v4:=I S) (v5:=B P 0) ⟨c0,c1,c2,c3,c4,c5⟩;obtain⟨x0,x1,x2,x3,x4,x5⟩:=HX.out;rw[HD.out,x0,x1,x2,x3,x4,x5];refine⟨rfl,((((((hB3.mono (E HLT.out)).setCell (F c) _).setCell (F c) _).setCell (F c) _).setCell (F c) _).setCell (F c) _).setCell (F c) _,s1,?_⟩;intro k hk hkl;exact⟨(s2 k hk).trans (hB3.cell hkl),(s3 k).trans (hB3.frozen hkl)⟩
  ·have hw':W%2=1/\W<4294967296:=by
    simp only[Pg.wBad,decide_eq_false_iff_not]at hw;omega
   have HD:Hid (Pg.yhq W lv=Pg.yhj T (Pg.yhY W lv) (W/2%8) (Pg.yhR W) (Pg.yhy W) (W/4096) lv):=by
    show Pg.yhq W lv=_
    rw[Pg.yhq,if_neg hl,if_neg (by rw[hw];decide),if_neg hz0]
   have HZ:Hid (W≠0):=hz0;have HR:=yfy W lv h0 hw'.2 hw'.1;clear hl hw hw' hz0
   go_enter Tryz.func227,Tryz.ntmps227
   go_wp2_with fail
   refine(HM _).mono ?_;rintro e w1 ⟨rfl,rfl⟩
   go_wp2_with fail
   refine(HR _).mono ?_;rintro e w2 ⟨rfl,hb2⟩;have b2:∀o,(w2.alloc o).cell? ⟨b,0,J⟩=N (B P lv):=fun o=>cell_later (zA hb2 o) hb;have cc2:=xz hb2 hc
   go_wp2_with fail
   refine(qd _ _ _ _ _ _ _ _).mono ?_;rintro e w3 ⟨rfl,hb3⟩;have hB3:=zT (zA hb2 _) hb3;obtain⟨hc3,hf3⟩:=xQ hb3;obtain⟨c0,c1,c2,c3,c4,c5⟩:=xz hB3 hc;have z3:∀o,w3.frozen? ⟨c,o,J⟩=S:=fun o=>(hB3.frozen (p:=⟨c,o,J⟩) HLT.out).trans (hz o);rw[<-HD.out]
   by_cases hd:Pg.yhq W lv=0
   ·have hg:Pg.yhv W lv=T:=by simp[Pg.yhv,hd,HZ.out]
    have HX:Hid (Pg.yhv W lv=T/\Pg.xL W lv=Pg.yhY W lv/\Pg.xR W lv=W/2%8/\Pg.xU W lv=Pg.yhR W/\Pg.xD W lv=Pg.yhy W/\Pg.xF W lv=W/4096):=by
     show _/\_
     simp[Pg.xL,Pg.xR,Pg.xU,Pg.xD,Pg.xF,hg]
    rw[hd,zV];have HD0:Hid _:=hd;clear hd hg
    go_wp2_with fail
    go_end0
    obtain⟨s1,s2,s3⟩:=yde (v0:=I T) (v1:=I (Pg.yhY W lv)) (v2:=B P (W/2%8)) (v3:=I (Pg.yhR W)) (v4:=I (Pg.yhy W)) (v5:=B P (W/4096)) ⟨c0,c1,c2,c3,c4,c5⟩;obtain⟨x0,x1,x2,x3,x4,x5⟩:=HX.out;rw[HD0.out,x0,x1,x2,x3,x4,x5];refine⟨rfl,((((((hB3.mono (E HLT.out)).setCell (F c) _).setCell (F c) _).setCell (F c) _).setCell (F c) _).setCell (F c) _).setCell (F c) _,s1,?_⟩;intro k hk hkl;exact⟨(s2 k hk).trans (hB3.cell hkl),(s3 k).trans (hB3.frozen hkl)⟩
   ·have hg:Pg.yhv W lv=S:=by simp[Pg.yhv,hd]
    rw[zI hd]
    go_wp2_with fail
    refine⟨rfl,(zI hd).symm,hB3.mono (E HLT.out),?_,fun k _ hkl=>⟨hB3.cell hkl,hB3.frozen hkl⟩⟩;simp[Pg.xL,Pg.xR,Pg.xU,Pg.xD,Pg.xF,hg,c0,c1,c2,c3,c4,c5]
 ·have HC:Hid (Pg.yhq W lv=if lv<0\/3<lv then(1:Int)else if Pg.wBad W lv=T then 7 else 0):=by
   show Pg.yhq W lv=_
   unfold Pg.yhq;split
   ·rfl
   ·rename_i hl
    rw[if_neg hl]at hm;split
    ·rfl
    ·rename_i hb
     rw[if_neg hb]at hm;exact absurd rfl hm
  generalize (if lv<0\/3<lv then(1:Int)else if Pg.wBad W lv=T then 7 else 0)=g at hm HM HC
  go_enter Tryz.func227,Tryz.ntmps227
  go_wp2_with fail
  refine(HM _).mono ?_;rintro e w1 ⟨rfl,rfl⟩
  have hg:Pg.yhv W lv=S:=by simp[Pg.yhv,HC.out,hm]
  rw[zI hm]
  go_wp2_with fail
  refine⟨rfl,by rw[HC.out,zI hm],Below.refl _ _,?_,fun k _ _=>⟨rfl,rfl⟩⟩
  simpa[Pg.xL,Pg.xR,Pg.xU,Pg.xD,Pg.xF,hg]using hc
theorem jO (W lv:Int) (h0:0<=W) (h1:W<18446744073709551616) (w:V):
 Calls C 204 #[B M W,B P lv] w fun e w'=>e=Q (Pg.decV W lv)/\Below w.heap.size w w':=by
 have hv:Pg.decV W lv=X #[O #[I (Pg.yhv W lv),I (Pg.xL W lv),B P (Pg.xR W lv),I (Pg.xU W lv),I (Pg.xD W lv),B P (Pg.xF W lv)],B P (Pg.yhq W lv)]:=rfl;have HV:Hid _:=hv;clear hv;have hmf:∀(fn:Fn) (first cap:Array Value) (w:V),(Instr.makeFunc fn first cap).run C w= .ok (.func fn first cap) w:=fun _ _ _ _=>rfl
 go_enter Tryz.func204,Tryz.ntmps204
 go_wp2_with fail
 refine(jM 227 _ (Pg.yhq W lv) (fun w'=>Below (w.heap.size+1+1+1) ((((w.alloc (Z #[B M W] 64)).alloc (Z #[B P lv] 3)).alloc (Z #[I S,I S,B P 0,I S,I S,B P 0] 70)).alloc (Z #[I S,I S,B P 0,I S,I S,B P 0] 70)) w'/\
  (w'.cell? ⟨w.heap.size+1+1+1,0,J⟩=N (I (Pg.yhv W lv))/\w'.cell? ⟨w.heap.size+1+1+1,1,J⟩=N (I (Pg.xL W lv))/\w'.cell? ⟨w.heap.size+1+1+1,2,J⟩=N (B P (Pg.xR W lv))/\w'.cell? ⟨w.heap.size+1+1+1,3,J⟩=N (I (Pg.xU W lv))/\w'.cell? ⟨w.heap.size+1+1+1,4,J⟩=N (I (Pg.xD W lv))/\w'.cell? ⟨w.heap.size+1+1+1,5,J⟩=N (B P (Pg.xF W lv)))) _ ?_ ?_).mono ?_
 ·intro w
  simp[go_sem]
 ·refine(yaa W lv h0 h1 w.heap.size (w.heap.size+1) (w.heap.size+1+1+1) _ ?_ ?_ ?_ ?_).mono ?_
  ·simp[go_sem]
  ·simp[go_sem]
  ·simp[go_sem]
  ·intro o
   simp[go_sem]
  ·rintro e w1 ⟨rfl,hb1,hc1,hk⟩
   obtain⟨k1,k2⟩:=hk (w.heap.size+1+1+1+1) (by omega) (by simp)
   have hs:((((w.alloc (Z #[B M W] 64)).alloc (Z #[B P lv] 3)).alloc (Z #[I S,I S,B P 0,I S,I S,B P 0] 70)).alloc (Z #[I S,I S,B P 0,I S,I S,B P 0] 70)).heap.size=w.heap.size+1+1+1+1:=by simp
   refine⟨rfl,⟨?_,hc1⟩,?_,?_⟩
   ·exact((Below.refl _ _).alloc (by simp) _).trans hb1
   ·rw[hs,k1]
    simp[go_sem]
   ·rw[hs,k2]
    simp[go_sem]
 ·rintro e w2 ⟨rfl,w1,⟨hb1,hc1⟩,hb2⟩
  have hc2:∀o,w2.cell? ⟨w.heap.size+1+1+1,o,J⟩=w1.cell? ⟨w.heap.size+1+1+1,o,J⟩:=fun o=>hb2.cell (p:=⟨w.heap.size+1+1+1,o,J⟩) (by simp);obtain⟨x0,x1,x2,x3,x4,x5⟩:=hc1;have y0:=(hc2 0).trans x0;have y1:=(hc2 1).trans x1;have y2:=(hc2 2).trans x2;have y3:=(hc2 3).trans x3;have y4:=(hc2 4).trans x4;have y5:=(hc2 5).trans x5;clear x0 x1 x2 x3 x4 x5 hc2;have hB2:=hb1.trans (hb2.mono (by simp));have r0:∀o,w2.cell? ⟨w.heap.size+1+1,o,J⟩=_:=fun o=>hB2.cell (p:=⟨w.heap.size+1+1,o,J⟩) (by simp);have f0:∀o,w2.frozen? ⟨w.heap.size+1+1,o,J⟩=_:=fun o=>hB2.frozen (p:=⟨w.heap.size+1+1,o,J⟩) (by simp);have HB:Hid _:=hB2;clear hb1 hb2 hB2
  go_wp2_with fail
  rw[HV.out];refine bodyPost_ret (v:=X #[O #[I (Pg.yhv W lv),I (Pg.xL W lv),B P (Pg.xR W lv),I (Pg.xU W lv),I (Pg.xD W lv),B P (Pg.xF W lv)],B P (Pg.yhq W lv)]) ?_ rfl ⟨rfl,?_⟩
  ·simp[results,Tryz.results204,go_sem,r0]
  ·have hA:=zA (zA (zA (zA (zR w) (Z #[B M W] 64)) (Z #[B P lv] 3)) (Z #[I S,I S,B P 0,I S,I S,B P 0] 70)) (Z #[I S,I S,B P 0,I S,I S,B P 0] 70)
   exact((((((hA.trans (HB.out.mono (by omega))).setCell (by simp;omega) _).setCell (by simp;omega) _).setCell (by simp;omega) _).setCell (by simp;omega) _).setCell (by simp;omega) _).setCell (by simp;omega) _
end Go.Proofs.YtdphiompijbelaaGreat
namespace Go.Proofs.YtdphiompijbelaaGreat
open Go.ChangeShapes Go.WideShapes Go.ChangeAt Go.RowKit Go.Joins
theorem own:ownKnob Tryz.prog.godebug=J:=by kernel_rfl
theorem yf4:laidOutB C=T:=by kernel_rfl
section
variable {H:Type} {enc:TypeId×Value->H} {W:V} {r:Reach} {b0 base:Nat} {spare:Nat->Bool} {held:Bool} {v:Value} {d:DataW H} {p:List MemPlace}
theorem yeG (hv:kI C W r b0 3 v) (h:DataW.Trod enc C W base spare held 3 v d p):
 ∃x:Int,v=B P x/\Pg.fits x:=by
 obtain⟨a,rfl,_,_,w⟩:=open_int Tryz.underlying3 hv h;exact⟨a,rfl,Pg.yiK w⟩
theorem ygb {W':V} {t:TypeId} (hr:Tryz.prog.readableRec t=T) (ht:t<Tryz.prog.types.size)
 (h:DataW.Trod enc C W 0 (fun _=>T) T t v d p) (hb:Below W.heap.size W W'):
 DataW.Trod enc C W' 0 (fun b=>decide (b<W.heap.size)) T t v d p:=
 Below.trod yf4 hr ht h hb (by obtain⟨m,hm⟩:=h;exact DataW.trod_lt m _ _ _ hm)
end
open Go.ChangeShapes Go.WideShapes Go.ChangeAt Go.RowKit Go.Joins Go.Deep
set_option linter.unusedVariables false
structure Bst where
 kind:Int
 core:Int
 m:Pg.Mp
 q:Int
 k:Int
 u:Bool
def Bst.zz:Bst:=⟨0,0,.zz,0,0,S⟩
def j9 (W:V) (b o:Nat) (x:Bst):Prop:=
 W.cell? ⟨b,o,J⟩=N (B P x.kind)/\W.cell? ⟨b,o+1,J⟩=N (B P x.core)/\W.cell? ⟨b,o+2,J⟩=N (B P x.m.p)/\W.cell? ⟨b,o+3,J⟩=N (B P x.m.s)/\W.cell? ⟨b,o+4,J⟩=N (B P x.m.f)/\W.cell? ⟨b,o+5,J⟩=N (B P x.m.r)/\W.cell? ⟨b,o+6,J⟩=N (B P x.q)/\W.cell? ⟨b,o+7,J⟩=N (B P x.k)/\W.cell? ⟨b,o+8,J⟩=N (I x.u)
def jo (x:Bst):Prop:=Pg.fits x.m.p/\Pg.fits x.m.s/\Pg.fits x.m.f/\Pg.fits x.m.r/\Pg.fits x.q/\Pg.fits x.k
section
variable {H:Type} {enc:TypeId×Value->H} {W:V} {r:Reach} {b0 base:Nat} {spare:Nat->Bool} {held:Bool} {v:Value} {d:DataW H} {p:List MemPlace}
theorem yfu (hv:kI C W r b0 22 v) (h:DataW.Trod enc C W base spare held 22 v d p):
 ∃(ad:Option Addr) (len cap:Nat) (q:Nat->Bst),v= .slice ad len cap/\
  ∀j,j<len->(∃b o,ad=N ⟨b,o,J⟩/\b<W.heap.size/\j9 W b (o+j*9) (q j))/\jo (q j):=by
 obtain⟨a0,len,cap,rfl⟩:=okWide_slice Tryz.underlying22 hv;obtain⟨fuel,hf⟩:=h
 have k9:Tryz.prog.cellsOf 43=9:=by kernel_rfl
 have k1:Tryz.prog.cellsOf 3=1:=by kernel_rfl
 have kb:Tryz.prog.cellsOf 4=1:=by kernel_rfl
 have km:Tryz.prog.cellsOf 39=4:=by kernel_rfl
 have ka:Tryz.prog.cellsOf 41=3:=by kernel_rfl
 rcases open_slice Tryz.underlying22 hf with ⟨e,_⟩|⟨a,len',cap',m,n,D,Pl,e,_,hl,hm,hmm,_,hx⟩
 ·simp[kJ]at e
  obtain⟨_,rfl,_⟩:=e;exact⟨a0,0,cap,fun _=> .zz,rfl,fun j hj=>absurd hj (by omega)⟩
 ·simp[kJ]at e
  obtain⟨rfl,rfl,rfl⟩:=e
  have hlm:len<=m:=by rw[hmm];split<;>omega
  have each:∀i,i<len->∃x:Bst,(∃b o,N a=N ⟨b,o,J⟩/\b<W.heap.size/\j9 W b (o+i*9) x)/\jo x:=by
   intro i hi;obtain⟨cs0,g1,_⟩:=hx 0 (by omega);rw[k9]at g1;obtain⟨_,glen,gcell⟩:=G g1
   obtain⟨u,c0⟩:∃u,W.cell? a=N u:=by
    have c0:=gcell 0 (by omega);rw[List.getElem?_eq_getElem (by omega)]at c0;exact⟨_,by simpa[Addr.add]using c0⟩
   obtain⟨cs',h1,h2⟩:=hx i (by omega);rw[k9]at h1;obtain⟨_,hlen,hcell⟩:=G h1;obtain⟨xs,k,hk,hxy,_,hxl,hq⟩:=DataW.trod_struct Tryz.underlying43 h2
   match xs,hxl,cs',hlen with
   | [y0,y1,y2,y3],_,[v0,v1,v2,v3,v4,v5,v6,v7,v8],_=>
     have q0:=hq 0 _ rfl;have q1:=hq 1 _ rfl;have q2:=hq 2 _ rfl;have q3:=hq 3 _ rfl;simp[k1,km,ka]at q0 q1 q2 q3;obtain⟨xm,kM,_,_,_,hml,hmq⟩:=DataW.trod_struct Tryz.underlying39 q2;obtain⟨xa,kA,_,_,_,hal,haq⟩:=DataW.trod_struct Tryz.underlying41 q3
     match xm,hml,xa,hal with
     | [m0,m1,m2,m3],_,[n0,n1,n2],_=>
       have r0:=hmq 0 _ rfl;have r1:=hmq 1 _ rfl;have r2:=hmq 2 _ rfl;have r3:=hmq 3 _ rfl;have s0:=haq 0 _ rfl;have s1:=haq 1 _ rfl;have s2:=haq 2 _ rfl;simp[k1]at r0 r1 r2 r3;simp[k1,kb]at s0 s1 s2;obtain⟨a0,e0,_,_⟩:=DataW.trod_int Tryz.underlying3 q0;obtain⟨a1,e1,_,_⟩:=DataW.trod_int Tryz.underlying3 q1;obtain⟨a2,e2,_,w2⟩:=DataW.trod_int Tryz.underlying3 r0;obtain⟨a3,e3,_,w3⟩:=DataW.trod_int Tryz.underlying3 r1;obtain⟨a4,e4,_,w4⟩:=DataW.trod_int Tryz.underlying3 r2;obtain⟨a5,e5,_,w5⟩:=DataW.trod_int Tryz.underlying3 r3;obtain⟨a6,e6,_,w6⟩:=DataW.trod_int Tryz.underlying3 s0;obtain⟨a7,e7,_,w7⟩:=DataW.trod_int Tryz.underlying3 s1;obtain⟨a8,e8,_⟩:=DataW.trod_bool Tryz.underlying4 s2;simp at e0 e1 e2 e3 e4 e5 e6 e7 e8;subst e0 e1 e2 e3 e4 e5 e6 e7 e8;have d0:=hcell 0 (by omega);have d1:=hcell 1 (by omega);have d2:=hcell 2 (by omega);have d3:=hcell 3 (by omega);have d4:=hcell 4 (by omega);have d5:=hcell 5 (by omega);have d6:=hcell 6 (by omega);have d7:=hcell 7 (by omega);have d8:=hcell 8 (by omega)
       have hsp:a.spot=J:=by
        obtain⟨_,_,_,_,hs⟩:=World.shape?_of_cell? c0;exact hs
       obtain⟨b,o,sp⟩:=a;cases hsp;have hlt:b<W.heap.size:=K _ _ c0
       have ha:∀x y:Nat,((⟨b,o,J⟩:Addr).add x).add y=⟨b,o+x+y,J⟩:=by
        intro x y;unfold Addr.add
        split<;>split<;>simp_all<;>omega
       rw[ha]at d0 d1 d2 d3 d4 d5 d6 d7 d8;exact⟨⟨a0,a1,⟨a2,a3,a4,a5⟩,a6,a7,a8⟩,⟨b,o,rfl,hlt,by simpa using d0,by simpa using d1,by simpa using d2,by simpa using d3,by simpa using d4,by simpa using d5,by simpa using d6,by simpa using d7,by simpa using d8⟩,Pg.yiK w2,Pg.yiK w3,Pg.yiK w4,Pg.yiK w5,Pg.yiK w6,Pg.yiK w7⟩
  have _:Inhabited Bst:=⟨.zz⟩;obtain⟨q,hq⟩:=choose_lt each;exact⟨N a,len,cap,q,rfl,hq⟩
end
end Go.Proofs.YtdphiompijbelaaGreat
