import Derived.Test.YtdphiompijbelaaGreatDoorSetTen
import Derived.Test.YtdphiompijbelaaGreatDoorPlainKB
import Derived.Defers
import Derived.Recover
set_option linter.all false
open Go.RowKit renaming Hid->D
open Go.Obj renaming cells->K
open Go renaming World->Q,bodyPost_ret->Z,cell_later->U,Calls->O,Value->y
open Go.Ending renaming returned->V
open Nat renaming le_refl->T,le_of_lt->L
open Go.World renaming cell?_setCell_other->Y,block_lt_of_cell?->A,cell?_setCell_same->G
open Go.Proofs.Tryz renaming prog->C
open Bool renaming false->S,true->F,true_eq_false->x,eq_iff_iff->z
open Go.IntKind renaming i64->P,u64->E
open Option renaming none->J,some->N
open Go.Value renaming bool->I,int->B,pointer->M,agg->X,tuple->H,pointer->i
set_option maxHeartbeats 1000000
namespace Go.Proofs.YtdphiompijbelaaGreatDoor
open Go.RowKit Go.Sort
def give (c:Int):Ending:=if c=0 then V (H #[])else .panicked [{v:= .iface 355 (X #[B P c]),recovered:=S}]
theorem zG:give 0=V (H #[]):=rfl
theorem zx {c:Int} (h:c≠0):give c= .panicked [{v:= .iface 355 (X #[B P c]),recovered:=S}]:=if_neg h
theorem vm (c:Int) (w:Q):
 O C 275 #[I S,B P c] w fun e w'=>e=V (H #[])/\w'=w:=by
 go_enter Tryz.func275,Tryz.ntmps275
 go_wp2
 go_end0
 exact⟨rfl,rfl⟩
theorem jO (c:Int) (w:Q):
 O C 275 #[I F,B P c] w fun e w'=>e= .panicked [{v:= .iface 355 (X #[B P c]),recovered:=S}]/\w'=w:=by
 go_enter Tryz.func275,Tryz.ntmps275
 go_wp2
 exact⟨rfl,rfl,rfl⟩
theorem zg (so:Bool) (c:Int) (w:Q):
 O C 275 #[I so,B P c] w fun e w'=>e=(bif so then .panicked [{v:= .iface 355 (X #[B P c]),recovered:=S}]else V (H #[]))/\w'=w:=by
 cases so
 ·exact vm c w
 ·exact jO c w
theorem yam (p:Addr) (v:y):#[i (N p)]++((Array.replicate 16 undef).setIfInBounds 3 v).setIfInBounds 0 v=#[M (N p),v,undef,undef,v,undef,undef,undef,undef,undef,undef,undef,undef,undef,undef,undef,undef]:=rfl
theorem ycT (p:Addr) (w:Q):
 CallsD C 273 #[M (N p)] .returning w fun e u' w'=>e=V (H #[])/\u'= .returning/\w'=w:=by
 refine callsD_of_wpS Tryz.func273 rfl fun c₀ cs hu=> ?_
 apply wpS_seq
 apply wpS_region
 simp[wpOpsS,go_sem,recoverD,hu,Tryz.ntmps273,Exit.thenS];refine wpS_of_wp ?_;rw[yam]
 go_wp2
 cases c₀
 simp_all[bodyPostS,results,Tryz.results273]
theorem yeJ (p:Addr) (c:Int) (w:Q) (hc:w.cell? p=N (B P 0)) (hz:w.frozen? p=S):
 CallsD C 273 #[M (N p)] (.panicking [{v:= .iface 355 (X #[B P c]),recovered:=S}]) w fun e u' w'=>
  e=V (H #[])/\u'= .panicking [{v:= .iface 355 (X #[B P c]),recovered:=F}]/\w'.cell? p=N (B P c)/\Below p.block w w':=by
 have hta:∀(v:y) (w:Q),(Instr.typeAssert (.iface 355 v) 20 355 F).run C w= .ok (H #[v,I F]) w:=fun _ _=>by kernel_rfl
 have hlt:p.block<w.heap.size:=A _ _ hc;have hz2:∀o,(w.alloc o).frozen? p=S:=fun o=>((zA (zR w) o).frozen hlt).trans hz;have hc2:∀o,(w.alloc o).cell? p=N (B P 0):=fun o=>((zA (zR w) o).cell hlt).trans hc;refine callsD_of_wpS Tryz.func273 rfl fun c₀ cs hu=> ?_
 apply wpS_seq
 apply wpS_region
 simp[wpOpsS,go_sem,recoverD,hu,Tryz.ntmps273,Exit.thenS];refine wpS_of_wp ?_;rw[yam]
 go_wp2
 refine⟨rfl,_,rfl,H #[],by simp[results,Tryz.results273],rfl,rfl,G _ _ _ (hc2 _),((Below.refl p.block w).alloc (by omega) _).setCell (T _) _⟩
theorem jC (f:FuncId) (caps:Array y) (c:Int) (R:Q->Prop) (w:Q)
 (hf:∀w,(callFunc f caps).run C w= .ok (.enter f caps) w) (h:O C f caps (w.alloc (K #[B P 0] 3)) fun e w'=>e=give c/\R w'/\w'.cell? ⟨w.heap.size,0,J⟩=N (B P 0)/\w'.frozen? ⟨w.heap.size,0,J⟩=S):
 O C 243 #[.func (.func f) #[] caps] w fun e w'=>e=V (B P c)/\∃w1,R w1/\Below w.heap.size w1 w':=by
 have hmf:∀(fn:Fn) (first cap:Array y) (w:Q),(Instr.makeFunc fn first cap).run C w= .ok (.func fn first cap) w:=fun _ _ _ _=>rfl
 go_enter_defers Tryz.func243,Tryz.ntmps243
 go_wp2_with fail
 refine h.mono ?_;rintro e w1 ⟨rfl,hR,hc,hz⟩
 by_cases h0:c=0
 ·rw[h0,zG]
  go_wp2_with fail
  refine leaves_cons (f:=273) (args:=#[M (N ⟨w.heap.size,0,J⟩)]) (by simp) (by simp[go_sem]) ?_;refine(ycT ⟨w.heap.size,0,J⟩ _).mono ?_;rintro e u' w'' ⟨rfl,rfl,rfl⟩;simp[Leaves,settle,results,Tryz.results243,go_sem,hc];exact⟨h0.symm,w1,hR,(Below.refl w.heap.size w1).setCell (p:=⟨w.heap.size,0,J⟩) (T _) _⟩
 ·rw[zx h0]
  go_wp2_with fail
  refine leaves_cons (f:=273) (args:=#[M (N ⟨w.heap.size,0,J⟩)]) (by simp) (by simp[go_sem]) ?_;refine(yeJ ⟨w.heap.size,0,J⟩ c _ hc hz).mono ?_;rintro e u' w'' ⟨rfl,rfl,hc',hb⟩;simp[Leaves,settle,results,Tryz.results243,go_sem,hc'];exact⟨w1,hR,hb⟩
theorem qK (lv:Int) (h:lv<0\/3<lv) (w:Q):
 O C 274 #[B P lv] w fun e w'=>e= .panicked [{v:= .iface 355 (X #[B P 1]),recovered:=S}]/\w'=w:=by
 rcases h with h|h
 all_goals
  go_enter Tryz.func274,Tryz.ntmps274
  go_wp2_with (go_at_call 275;refine(jO _ _).mono ?_;rintro e w' ⟨rfl,rfl⟩)
  exact⟨rfl,rfl,rfl⟩
theorem zk (lv:Int) (h:0<=lv) (h':lv<=3) (w:Q):
 O C 274 #[B P lv] w fun e w'=>e=V (H #[])/\w'=w:=by
 have d1:decide (lv<0)=S:=by simpa using h
 have d2:decide (3<lv)=S:=by simpa using h'
 clear h h'
 go_enter Tryz.func274,Tryz.ntmps274
 go_wp2_with (go_at_call 275;refine(vm _ _).mono ?_;rintro e w' ⟨rfl,rfl⟩)
 go_end0
 exact⟨rfl,rfl⟩
theorem xx (t l:Bool) (r:Int) (u d:Bool) (f lv:Int) (w:Q):
 O C 209 #[X #[I t,I l,B P r,I u,I d,B P f],B P lv] w fun e w'=>e=V (X #[B P 0,B P lv,B P f,B P r])/\Below w.heap.size w w':=by
 go_enter Tryz.func209,Tryz.ntmps209
 go_wp2_with fail
 refine Z (v:=X #[B P 0,B P lv,B P f,B P r]) ?_ rfl ⟨rfl,?_⟩
 ·simp[results,Tryz.results209,go_sem]
 ·exact zA (zA (zR _) _) _
theorem ycA (t l:Bool) (r:Int) (u d:Bool) (f lv:Int) (h:Pg.yhp t l r u d f lv=0) (w:Q):
 O C 283 #[X #[I t,I l,B P r,I u,I d,B P f],B P lv] w fun e w'=>e=V (B E (Pg.yi1 t l r u d f lv))/\Below w.heap.size w w':=by
 obtain⟨⟨l0,l3⟩,hc⟩:=Pg.yhA h;clear h;rcases hc with ⟨rfl,rfl,rfl,rfl,rfl,rfl⟩|⟨rfl,r0,r1,f0,f1,hc⟩
 ·go_enter Tryz.func283,Tryz.ntmps283
  go_wp2_with fail
  go_ret
  exact⟨rfl,zA (zR _) _⟩
 ·clear hc
  have HO:D _:=Pg.word_or r f r0 r1 f0 f1
  cases u<;>cases d<;>cases l
  all_goals
   go_enter Tryz.func283,Tryz.ntmps283
   go_wp2_with fail
  all_goals
   go_ret
   refine⟨xm ?_,zA (zR _) _⟩;obtain⟨o1,o2,o3,o4,o5,o6,o7,o8⟩:=HO.out;simp only[o1,o2,o3,o4,o5,o6,o7,o8]
   simp_all[Pg.yi1,Pg.b01]<;>omega
theorem ye4 (W lv:Int) (h0:0<=W) (h1:W<4294967296) (h2:W%2=1) (w:Q):
 O C 281 #[B E W,B P lv] w fun e w'=>e=V (X #[I F,I (Pg.yin W lv),B P (W/2%8),I (Pg.yiU W),I (Pg.yh6 W),B P (W/4096)])/\Below w.heap.size w w':=by
 have h1':W<18446744073709551616:=by omega
 have b0:(bits .and E W 1==0)=S:=by rw[Pg.and1 W h0 h1',h2];rfl
 have b5:(bits .and E W 32 !=0)=Pg.yiU W:=by rw[Pg.and32 W h0 h1',z];simp[Pg.yiU];omega
 have b6:(bits .and E W 64 !=0)=Pg.yh6 W:=by rw[Pg.and64 W h0 h1',z];simp[Pg.yh6];omega
 have b1:wrap64 (bits .and E W 14/2)=W/2%8:=by
  rw[Pg.and14 W h0 h1',wrap64];omega
 have bF:wrap64 (bits .and E W 4294963200/4096)=W/4096:=by
  rw[Pg.andF W h0 h1',wrap64];omega
 by_cases h7:W/128%2=1
 ·have b7:(bits .and E W 128 !=0)=F:=by rw[Pg.yll W h0 h1',h7];rfl
  have HL:D (Pg.yin W lv=F):=by simp[D,Pg.yin,h7]
  clear h7 h2
  go_enter Tryz.func281,Tryz.ntmps281
  go_wp2_with fail
  refine Z (v:=X #[I F,I F,B P (W/2%8),I (Pg.yiU W),I (Pg.yh6 W),B P (W/4096)]) ?_ rfl ⟨by rw[HL.out],?_⟩
  ·simp[results,Tryz.results281,go_sem]
  ·exact zA (zR _) _
 ·have b7:(bits .and E W 128 !=0)=S:=by
   have:W/128%2=0:=by omega
   rw[Pg.yll W h0 h1',this];rfl
  have HL:D (Pg.yin W lv=(lv==0)):=by
   simp only[D,Pg.yin,h7,decide_false,Bool.or_false];rfl
  clear h7 h2
  go_enter Tryz.func281,Tryz.ntmps281
  go_wp2_with fail
  refine Z (v:=X #[I F,I (lv==0),B P (W/2%8),I (Pg.yiU W),I (Pg.yh6 W),B P (W/4096)]) ?_ rfl ⟨by rw[HL.out],?_⟩
  ·simp[results,Tryz.results281,go_sem]
  ·exact zA (zR _) _
theorem yjG (lv:Int) (w:Q):
 O C 281 #[B E 0,B P lv] w fun e w'=>e=V (X #[I S,I S,B P 0,I S,I S,B P 0])/\Below w.heap.size w w':=by
 have b0:(bits .and E 0 1==0)=F:=by decide
 go_enter Tryz.func281,Tryz.ntmps281
 go_wp2_with fail
 refine Z (v:=X #[I S,I S,B P 0,I S,I S,B P 0]) ?_ rfl ⟨rfl,?_⟩
 ·simp[results,Tryz.results281,go_sem]
 ·exact zA (zR _) _
theorem yab (W lv:Int) (h0:0<=W) (h1:W<18446744073709551616) (w:Q):
 O C 280 #[B E W,B P lv] w fun e w'=>e=give (if lv<0\/3<lv then 1 else if Pg.wBad W lv=F then 7 else 0)/\w'=w:=by
 by_cases hl:lv<0\/3<lv
 ·rw[if_pos hl]
  go_enter Tryz.func280,Tryz.ntmps280
  go_wp2_with (go_at_call 274;refine(qK _ hl _).mono ?_;rintro e w' ⟨rfl,rfl⟩)
  exact⟨rfl,rfl,rfl⟩
 ·rw[if_neg hl]
  have l0:0<=lv:=by omega
  have l3:lv<=3:=by omega
  clear hl;have hw:=Pg.wBad_eq W lv h0 h1;have HW:D _:=hw;clear hw;generalize hg:(if Pg.wBad W lv=F then(7:Int)else 0)=g;have HG:D _:=hg;clear hg;cases c1:(bits .andNot E W 4294963439 !=0)
  ·cases c2:(bits .and E W 1==0)
   ·cases c4:(bits .and E W 128 !=0)
    ·go_enter Tryz.func280,Tryz.ntmps280
     go_wp2_with (first
      | (go_at_call 274;refine(zk _ l0 l3 _).mono ?_;rintro e w' ⟨rfl,rfl⟩)
      | (go_at_call 275;refine(zg _ _ _).mono ?_;rintro e w' ⟨rfl,rfl⟩;simp only[cond]))
     go_end0
     exact⟨by rw[<-HG.out,HW.out,c1,c2,c4];rfl,rfl⟩
    ·cases c5:(lv==0)
     ·go_enter Tryz.func280,Tryz.ntmps280
      go_wp2_with (first
       | (go_at_call 274;refine(zk _ l0 l3 _).mono ?_;rintro e w' ⟨rfl,rfl⟩)
       | (go_at_call 275;refine(zg _ _ _).mono ?_;rintro e w' ⟨rfl,rfl⟩;simp only[cond]))
      go_end0
      exact⟨by rw[<-HG.out,HW.out,c1,c2,c4,c5];rfl,rfl⟩
     ·go_enter Tryz.func280,Tryz.ntmps280
      go_wp2_with (first
       | (go_at_call 274;refine(zk _ l0 l3 _).mono ?_;rintro e w' ⟨rfl,rfl⟩)
       | (go_at_call 275;refine(zg _ _ _).mono ?_;rintro e w' ⟨rfl,rfl⟩;simp only[cond]))
      exact⟨rfl,by rw[<-HG.out,HW.out,c1,c2,c4,c5];rfl,rfl⟩
   ·cases c3:(W !=0)
    ·have hz:W=0:=by simpa using c3
     subst hz
     go_enter Tryz.func280,Tryz.ntmps280
     go_wp2_with (first
      | (go_at_call 274;refine(zk _ l0 l3 _).mono ?_;rintro e w' ⟨rfl,rfl⟩)
      | (go_at_call 275;refine(zg _ _ _).mono ?_;rintro e w' ⟨rfl,rfl⟩;simp only[cond]))
     go_end0
     exact⟨by rw[<-HG.out];simp[Pg.wBad,give],rfl⟩
    ·go_enter Tryz.func280,Tryz.ntmps280
     go_wp2_with (first
      | (go_at_call 274;refine(zk _ l0 l3 _).mono ?_;rintro e w' ⟨rfl,rfl⟩)
      | (go_at_call 275;refine(zg _ _ _).mono ?_;rintro e w' ⟨rfl,rfl⟩;simp only[cond]))
     exact⟨rfl,by rw[<-HG.out,HW.out,c1,c2,c3];rfl,rfl⟩
  ·go_enter Tryz.func280,Tryz.ntmps280
   go_wp2_with (first
    | (go_at_call 274;refine(zk _ l0 l3 _).mono ?_;rintro e w' ⟨rfl,rfl⟩)
    | (go_at_call 275;refine(zg _ _ _).mono ?_;rintro e w' ⟨rfl,rfl⟩;simp only[cond]))
   exact⟨rfl,by rw[<-HG.out,HW.out,c1];rfl,rfl⟩
theorem ycl (t l:Bool) (r:Int) (u d:Bool) (f lv:Int) (l0:0<=lv) (l3:lv<=3) (hr:¬(r<0\/7<r\/f<0\/1048576<=f)) (w:Q):
 O C 276 #[X #[I t,I l,B P r,I u,I d,B P f],B P lv] w fun e w'=>
  e=give (if lv=3 then 2 else if f%Pg.span lv=0 then 0 else 3)/\Below w.heap.size w w':=by
 by_cases h3:lv=3
 ·subst h3
  clear hr
  go_enter Tryz.func276,Tryz.ntmps276
  go_wp2_with (go_at_call 275;refine(zg _ _ _).mono ?_;rintro e w' ⟨rfl,rfl⟩;simp only[cond])
  exact⟨rfl,rfl,zA (zR _) _⟩
 ·have e3:(lv==3)=S:=by simpa using h3
  have HC:D _:=Pg.check_leaf hr l0 (by omega:lv<=2);rw[if_neg h3];clear h3 hr
  by_cases hm:f%Pg.span lv=0
  ·have hk:(Pg.check 0 lv f r !=0)=S:=by rw[HC.out,if_pos hm];rfl
   rw[if_pos hm];clear hm HC
   go_enter Tryz.func276,Tryz.ntmps276
   go_wp2_with (go_at_call 275;refine(zg _ _ _).mono ?_;rintro e w' ⟨rfl,rfl⟩;simp only[cond])
   refine(xx _ _ _ _ _ _ _ _).mono ?_;rintro e w1 ⟨rfl,hb1⟩
   go_wp2_with fail
   refine(zE _ _ _ _ _).mono ?_;rintro e w2 ⟨rfl,hb2⟩
   go_wp2_with (go_at_call 275;refine(zg _ _ _).mono ?_;rintro e w' ⟨rfl,rfl⟩;simp only[cond])
   go_end0
   exact⟨rfl,zT (zT (zA (zR _) _) hb1) hb2⟩
  ·have hk:(Pg.check 0 lv f r !=0)=F:=by rw[HC.out,if_neg hm];rfl
   rw[if_neg hm];clear hm HC
   go_enter Tryz.func276,Tryz.ntmps276
   go_wp2_with (go_at_call 275;refine(zg _ _ _).mono ?_;rintro e w' ⟨rfl,rfl⟩;simp only[cond])
   refine(xx _ _ _ _ _ _ _ _).mono ?_;rintro e w1 ⟨rfl,hb1⟩
   go_wp2_with fail
   refine(zE _ _ _ _ _).mono ?_;rintro e w2 ⟨rfl,hb2⟩
   go_wp2_with (go_at_call 275;refine(zg _ _ _).mono ?_;rintro e w' ⟨rfl,rfl⟩;simp only[cond])
   exact⟨rfl,rfl,zT (zT (zA (zR _) _) hb1) hb2⟩
theorem ybt (t l:Bool) (r:Int) (u d:Bool) (f lv:Int) (w:Q):
 O C 277 #[X #[I t,I l,B P r,I u,I d,B P f],B P lv] w fun e w'=>
  e=give (if lv=0 then 2 else if r≠7\/u=F\/d=F then 7 else 0)/\Below w.heap.size w w':=by
 by_cases h3:lv=0
 ·subst h3
  go_enter Tryz.func277,Tryz.ntmps277
  go_wp2_with (go_at_call 275;refine(zg _ _ _).mono ?_;rintro e w' ⟨rfl,rfl⟩;simp only[cond])
  exact⟨rfl,rfl,zA (zR _) _⟩
 ·have e3:(lv==0)=S:=by simpa using h3
  rw[if_neg h3];clear h3
  by_cases h7:r=7
  ·subst h7
   cases u<;>cases d
   all_goals
    go_enter Tryz.func277,Tryz.ntmps277
    go_wp2_with (first
     | (go_at_call 275;refine(zg _ _ _).mono ?_;rintro e w' ⟨rfl,rfl⟩;simp only[cond]))
    first
     | exact⟨rfl,rfl,zA (zR _) _⟩
     | (go_end0
        exact⟨rfl,zA (zR _) _⟩)
  ·have e7:(r !=7)=F:=by simpa using h7
   rw[if_pos (.inl h7)];clear h7
   go_enter Tryz.func277,Tryz.ntmps277
   go_wp2_with (first
    | (go_at_call 275;refine(zg _ _ _).mono ?_;rintro e w' ⟨rfl,rfl⟩;simp only[cond]))
   exact⟨rfl,rfl,zA (zR _) _⟩
theorem yac (l:Bool) (r:Int) (u d:Bool) (f lv:Int) (l0:0<=lv) (l3:lv<=3) (w:Q):
 O C 245 #[X #[I S,I l,B P r,I u,I d,B P f],B P lv] w fun e w'=>e=give (Pg.yhp S l r u d f lv)/\Below w.heap.size w w':=by
 have hg:Pg.yhp S l r u d f lv=if l=F\/r≠0\/u=F\/d=F\/f≠0 then 7 else 0:=by
  simp only[Pg.yhp,if_neg (by omega:¬(lv<0\/3<lv)),if_true]
 generalize Pg.yhp S l r u d f lv=g at hg;have HG:D _:=hg;clear hg
 go_enter Tryz.func245,Tryz.ntmps245
 go_wp2_with (first
  | (go_at_call 274;refine(zk _ l0 l3 _).mono ?_;rintro e w' ⟨rfl,rfl⟩)
  | (go_at_call 275;refine(zg _ _ _).mono ?_;rintro e w' ⟨rfl,rfl⟩;simp only[cond]))
 all_goals
  first
   | (refine⟨rfl,?_,zA (zR _) _⟩
      rw[HG.out]
      simp_all[give])
   | (refine Z (results_none rfl _ _ _) rfl ⟨?_,zA (zR _) _⟩
      rw[HG.out]
      simp_all[give])
theorem vy (l:Bool) (r:Int) (u d:Bool) (f lv:Int) (l0:0<=lv) (l3:lv<=3) (w:Q):
 O C 245 #[X #[I F,I l,B P r,I u,I d,B P f],B P lv] w fun e w'=>e=give (Pg.yhp F l r u d f lv)/\Below w.heap.size w w':=by
 have hlv:¬(lv<0\/3<lv):=by omega
 have HS:D _:=Pg.check_small f r
 by_cases hr:r<0\/7<r\/f<0\/1048576<=f
 ·have hc:Pg.yhp F l r u d f lv=1:=by simp[Pg.yhp,hlv,hr]
  rw[hc]
  have hk:(Pg.check 0 0 f r !=0)=F:=by rw[HS.out,if_pos hr];rfl
  clear hc hr HS hlv
  go_enter Tryz.func245,Tryz.ntmps245
  go_wp2_with (go_at_call 274;refine(zk _ l0 l3 _).mono ?_;rintro e w' ⟨rfl,rfl⟩)
  refine(xx _ _ _ _ _ _ _ _).mono ?_;rintro e w1 ⟨rfl,hb1⟩
  go_wp2_with fail
  refine(zE _ _ _ _ _).mono ?_;rintro e w2 ⟨rfl,hb2⟩
  go_wp2_with (go_at_call 275;refine(zg _ _ _).mono ?_;rintro e w' ⟨rfl,rfl⟩;simp only[cond])
  exact⟨rfl,rfl,zT (zT (zA (zR _) _) hb1) hb2⟩
 ·have hk:(Pg.check 0 0 f r !=0)=S:=by rw[HS.out,if_neg hr];rfl
  have HR:D _:=hr;cases l
  ·have HC:D (Pg.yhp F S r u d f lv=if lv=0 then 2 else if r≠7\/u=F\/d=F then 7 else 0):=by
    simp only[D,Pg.yhp,if_neg hlv,if_neg hr,x,Bool.false_eq_true,if_false,false_and,true_and,false_or]
   generalize hg:(if lv=0 then(2:Int)else if r≠7\/u=F\/d=F then 7 else 0)=g at HC;rw[HC.out];have HL:=ybt F S r u d f lv;rw[hg]at HL;clear HC hr HS hlv hg
   go_enter Tryz.func245,Tryz.ntmps245
   go_wp2_with (go_at_call 274;refine(zk _ l0 l3 _).mono ?_;rintro e w' ⟨rfl,rfl⟩)
   refine(xx _ _ _ _ _ _ _ _).mono ?_;rintro e w1 ⟨rfl,hb1⟩;obtain⟨hc1,hf1⟩:=qD hb1
   go_wp2_with fail
   refine(zE _ _ _ _ _).mono ?_;rintro e w2 ⟨rfl,hb2⟩;obtain⟨hc2,hf2⟩:=qD (zT hb1 hb2)
   go_wp2_with (go_at_call 275;refine(zg _ _ _).mono ?_;rintro e w' ⟨rfl,rfl⟩;simp only[cond])
   refine(HL _).mono ?_;rintro e w3 ⟨rfl,hb3⟩
   by_cases h0:g=0
   ·rw[h0,zG]
    go_wp2_with fail
    go_end0
    exact⟨by rw[h0,zG],zT (zT (zT (zA (zR _) _) hb1) hb2) hb3⟩
   ·rw[zx h0]
    go_wp2_with fail
    exact⟨rfl,(zx h0).symm,zT (zT (zT (zA (zR _) _) hb1) hb2) hb3⟩
  ·have HC:D (Pg.yhp F F r u d f lv=if lv=3 then 2 else if f%Pg.span lv=0 then 0 else 3):=by
    simp only[D,Pg.yhp,if_neg hlv,if_neg hr,x,if_false,if_true,false_and,true_and,or_false]
   generalize hg:(if lv=3 then(2:Int)else if f%Pg.span lv=0 then 0 else 3)=g at HC;rw[HC.out];have HL:=ycl F F r u d f lv l0 l3 hr;rw[hg]at HL;clear HC hr HS hlv hg
   go_enter Tryz.func245,Tryz.ntmps245
   go_wp2_with (go_at_call 274;refine(zk _ l0 l3 _).mono ?_;rintro e w' ⟨rfl,rfl⟩)
   refine(xx _ _ _ _ _ _ _ _).mono ?_;rintro e w1 ⟨rfl,hb1⟩;obtain⟨hc1,hf1⟩:=qD hb1
   go_wp2_with fail
   refine(zE _ _ _ _ _).mono ?_;rintro e w2 ⟨rfl,hb2⟩;obtain⟨hc2,hf2⟩:=qD (zT hb1 hb2)
   go_wp2_with (go_at_call 275;refine(zg _ _ _).mono ?_;rintro e w' ⟨rfl,rfl⟩;simp only[cond])
   refine(HL _).mono ?_;rintro e w3 ⟨rfl,hb3⟩
   by_cases h0:g=0
   ·rw[h0,zG]
    go_wp2_with fail
    go_end0
    exact⟨by rw[h0,zG],zT (zT (zT (zA (zR _) _) hb1) hb2) hb3⟩
   ·rw[zx h0]
    go_wp2_with fail
    exact⟨rfl,(zx h0).symm,zT (zT (zT (zA (zR _) _) hb1) hb2) hb3⟩
theorem xI (t l:Bool) (r:Int) (u d:Bool) (f lv:Int) (w:Q):
 O C 245 #[X #[I t,I l,B P r,I u,I d,B P f],B P lv] w fun e w'=>e=give (Pg.yhp t l r u d f lv)/\Below w.heap.size w w':=by
 by_cases hl:lv<0\/3<lv
 ·have hc:Pg.yhp t l r u d f lv=1:=by simp[Pg.yhp,hl]
  rw[hc]
  go_enter Tryz.func245,Tryz.ntmps245
  go_wp2_with (go_at_call 274;refine(qK _ hl _).mono ?_;rintro e w' ⟨rfl,rfl⟩)
  exact⟨rfl,rfl,zA (zR _) _⟩
 ·cases t
  ·exact yac l r u d f lv (by omega) (by omega) w
  ·exact vy l r u d f lv (by omega) (by omega) w
theorem yaH (t l:Bool) (r:Int) (u d:Bool) (f lv:Int) (a b:Nat) (w:Q)
 (ha:w.cell? ⟨a,0,J⟩=N (I t)/\w.cell? ⟨a,1,J⟩=N (I l)/\w.cell? ⟨a,2,J⟩=N (B P r)/\w.cell? ⟨a,3,J⟩=N (I u)/\w.cell? ⟨a,4,J⟩=N (I d)/\w.cell? ⟨a,5,J⟩=N (B P f))
 (hb:w.cell? ⟨b,0,J⟩=N (B P lv)):
 O C 244 #[M (N ⟨a,0,J⟩),M (N ⟨b,0,J⟩)] w fun e w'=>e=give (Pg.yhp t l r u d f lv)/\Below w.heap.size w w':=by
 obtain⟨a0,a1,a2,a3,a4,a5⟩:=ha
 go_enter Tryz.func244,Tryz.ntmps244
 go_wp2_with fail
 refine(xI _ _ _ _ _ _ _ _).mono ?_;rintro e w1 ⟨rfl,hb1⟩
 by_cases h0:Pg.yhp t l r u d f lv=0
 ·rw[h0,zG]
  go_wp2_with fail
  go_end0
  exact⟨by rw[h0,zG],hb1⟩
 ·rw[zx h0]
  go_wp2_with fail
  exact⟨rfl,(zx h0).symm,hb1⟩
theorem qR (t l:Bool) (r:Int) (u d:Bool) (f lv:Int) (w:Q):
 O C 207 #[X #[I t,I l,B P r,I u,I d,B P f],B P lv] w fun e w'=>e=V (B P (Pg.yhp t l r u d f lv))/\Below w.heap.size w w':=by
 have hmf:∀(fn:Fn) (first cap:Array y) (w:Q),(Instr.makeFunc fn first cap).run C w= .ok (.func fn first cap) w:=fun _ _ _ _=>rfl
 go_enter Tryz.func207,Tryz.ntmps207
 go_wp2_with fail
 refine(jC 244 _ (Pg.yhp t l r u d f lv) (fun w'=>Below w.heap.size w w') _ ?_ ?_).mono ?_
 ·intro w
  simp[go_sem]
 ·refine(yaH t l r u d f lv w.heap.size (w.heap.size+1) _ ?_ ?_).mono ?_
  ·simp[go_sem]
  ·simp[go_sem]
  ·rintro e w1 ⟨rfl,hb1⟩
   obtain⟨k1,k2⟩:=qD hb1;refine⟨rfl,?_,?_,?_⟩
   ·exact zT (zA (zA (zA (zR w) _) _) _) hb1
   ·rw[k1 _ _ (by simp)]
    simp[go_sem]
   ·rw[k2 _ _ (by simp)]
    simp[go_sem]
 ·rintro e w2 ⟨rfl,w1,hb1,hb2⟩
  have HB:D (Below w.heap.size w w2):=hb1.trans (hb2.mono (by simp;omega));clear hb1 hb2
  go_wp2_with fail
  go_ret
  exact⟨rfl,HB.out⟩
theorem yaO (t l:Bool) (r:Int) (u d:Bool) (f lv q:Int) (w:Q):
 O C 173 #[X #[I t,I l,B P r,I u,I d,B P f],B P lv,B P q] w fun e w'=>e=V (Pg.mapV t l r u d f lv q)/\Below w.heap.size w w':=by
 by_cases h0:Pg.yhp t l r u d f lv=0
 ·have e0:(Pg.yhp t l r u d f lv !=0)=S:=by simp[h0]
  have H0:D _:=h0;cases l
  ·have HV:D _:=Pg.ykM (at':=q) (by simp[Pg.lOk,h0]:Pg.lOk t S r u d f lv q=S)
   clear h0
   go_enter Tryz.func173,Tryz.ntmps173
   go_wp2_with fail
   refine(qR _ _ _ _ _ _ _ _).mono ?_;rintro e w1 ⟨rfl,hb1⟩;obtain⟨hc1,hf1⟩:=qD hb1
   go_wp2_with fail
   refine Z (v:=X #[B P 0,B P 0,B P 0,B P 0]) ?_ rfl ⟨by rw[HV.out],?_⟩
   ·simp[results,Tryz.results173,go_sem,hc1]
   ·exact((((zT (zA (zA (zR _) _) _) hb1).setCell (by simp) _).setCell (by simp) _).setCell (by simp) _).setCell (by simp) _
  ·cases hq:Pg.below q 4096
   ·have HV:D _:=Pg.ykM (at':=q) (by simp[Pg.lOk,hq]:Pg.lOk t F r u d f lv q=S)
    clear h0
    go_enter Tryz.func173,Tryz.ntmps173
    go_wp2_with fail
    refine(qR _ _ _ _ _ _ _ _).mono ?_;rintro e w1 ⟨rfl,hb1⟩;obtain⟨hc1,hf1⟩:=qD hb1
    go_wp2_with (go_at_call 208;refine(zN _ _).mono ?_;rintro e w' ⟨rfl,rfl⟩)
    refine Z (v:=X #[B P 0,B P 0,B P 0,B P 0]) ?_ rfl ⟨by rw[HV.out],?_⟩
    ·simp[results,Tryz.results173,go_sem,hc1]
    ·exact((((zT (zA (zA (zR _) _) _) hb1).setCell (by simp) _).setCell (by simp) _).setCell (by simp) _).setCell (by simp) _
   ·have HV:D _:=Pg.mapV_yes (at':=q) (by simp[Pg.lOk,hq,h0]:Pg.lOk t F r u d f lv q=F)
    have hs1:1<=Pg.span lv/\Pg.span lv<=64:=by
     obtain⟨⟨l0,l3⟩,hc⟩:=Pg.yhA h0;have hsp:=Pg.yhG lv;have hb:=Pg.yhP lv;rcases hc with ⟨_,h,_⟩|⟨_,_,_,_,_,⟨_,h,_⟩|⟨h,_⟩⟩
     ·cases h
     ·omega
     ·cases h
    obtain⟨s1,s2⟩:=hs1;obtain⟨q0,q1⟩:=Pg.zB.1 hq;clear h0
    go_enter Tryz.func173,Tryz.ntmps173
    go_wp2_with fail
    refine(qR _ _ _ _ _ _ _ _).mono ?_;rintro e w1 ⟨rfl,hb1⟩;obtain⟨hc1,hf1⟩:=qD hb1
    go_wp2_with (go_at_call 208;refine(zN _ _).mono ?_;rintro e w' ⟨rfl,rfl⟩)
    refine(xx _ _ _ _ _ _ _ _).mono ?_;rintro e w2 ⟨rfl,hb2⟩;have hB:=zT hb1 hb2;have fr:∀o k,(w2.alloc o).frozen? ⟨w.heap.size+1,k,J⟩=S:=fun o k=>((zA hB o).frozen (p:=⟨w.heap.size+1,k,J⟩) (by simp)).trans (by simp[go_sem]);have c0:∀o,(w2.alloc o).cell? ⟨w.heap.size+1,0,J⟩=N (B P 0):=fun o=>((zA hB o).cell (p:=⟨w.heap.size+1,0,J⟩) (by simp)).trans (by simp[go_sem]);have c1:∀o,(w2.alloc o).cell? ⟨w.heap.size+1,1,J⟩=N (B P 0):=fun o=>((zA hB o).cell (p:=⟨w.heap.size+1,1,J⟩) (by simp)).trans (by simp[go_sem]);have c2:∀o,(w2.alloc o).cell? ⟨w.heap.size+1,2,J⟩=N (B P 0):=fun o=>((zA hB o).cell (p:=⟨w.heap.size+1,2,J⟩) (by simp)).trans (by simp[go_sem]);have c3:∀o,(w2.alloc o).cell? ⟨w.heap.size+1,3,J⟩=N (B P 0):=fun o=>((zA hB o).cell (p:=⟨w.heap.size+1,3,J⟩) (by simp)).trans (by simp[go_sem])
    have hwr:wrap64 (q-q%Pg.span lv)=q-q%Pg.span lv:=by
     have:=Int.emod_nonneg q (by omega:Pg.span lv≠0);have:=Int.emod_lt_of_pos q (by omega:0<Pg.span lv);rw[wrap64];omega
    have HB:D (Below w.heap.size w w2):=zT (zA (zA (zR w) _) _) hB;clear hB hb1 hb2 hc1 hf1
    go_wp2_with (go_at_call 174;refine(xn _ _).mono ?_;rintro e w' ⟨rfl,rfl⟩)
    refine Z (v:=X #[B P (q-q%Pg.span lv),B P lv,B P f,B P r]) ?_ rfl ⟨by rw[HV.out],?_⟩
    ·simp[results,Tryz.results173,go_sem,c0,c1,c2,c3]
    ·exact((((zA HB.out _).setCell (by simp) _).setCell (by simp) _).setCell (by simp) _).setCell (by simp) _
 ·have e0:(Pg.yhp t l r u d f lv !=0)=F:=by simp[h0]
  have HV:D _:=Pg.ykM (at':=q) (by simp[Pg.lOk,h0]:Pg.lOk t l r u d f lv q=S);clear h0
  go_enter Tryz.func173,Tryz.ntmps173
  go_wp2_with fail
  refine(qR _ _ _ _ _ _ _ _).mono ?_;rintro e w1 ⟨rfl,hb1⟩;obtain⟨hc1,hf1⟩:=qD hb1
  go_wp2_with fail
  refine Z (v:=X #[B P 0,B P 0,B P 0,B P 0]) ?_ rfl ⟨by rw[HV.out],?_⟩
  ·simp[results,Tryz.results173,go_sem,hc1]
  ·exact((((zT (zA (zA (zR _) _) _) hb1).setCell (by simp) _).setCell (by simp) _).setCell (by simp) _).setCell (by simp) _
theorem vT (t l:Bool) (r:Int) (u d:Bool) (f lv:Int) (a b c:Nat) (w:Q)
 (ha:w.cell? ⟨a,0,J⟩=N (I t)/\w.cell? ⟨a,1,J⟩=N (I l)/\w.cell? ⟨a,2,J⟩=N (B P r)/\w.cell? ⟨a,3,J⟩=N (I u)/\w.cell? ⟨a,4,J⟩=N (I d)/\w.cell? ⟨a,5,J⟩=N (B P f))
 (hb:w.cell? ⟨b,0,J⟩=N (B P lv)) (hc:w.cell? ⟨c,0,J⟩=N (B E 0)) (hz:w.frozen? ⟨c,0,J⟩=S):
 O C 282 #[M (N ⟨a,0,J⟩),M (N ⟨b,0,J⟩),M (N ⟨c,0,J⟩)] w fun e w'=>
  e=give (Pg.yhp t l r u d f lv)/\Below c w w'/\w'.cell? ⟨c,0,J⟩=N (B E (Pg.enc t l r u d f lv))/\
  ∀k,k≠c->k<w.heap.size->w'.cell? ⟨k,0,J⟩=w.cell? ⟨k,0,J⟩/\w'.frozen? ⟨k,0,J⟩=w.frozen? ⟨k,0,J⟩:=by
 have hlt:c<w.heap.size:=A _ _ hc;have HLT:D _:=hlt;obtain⟨a0,a1,a2,a3,a4,a5⟩:=ha;clear hlt
 go_enter Tryz.func282,Tryz.ntmps282
 go_wp2_with fail
 refine(xI _ _ _ _ _ _ _ _).mono ?_;rintro e w1 ⟨rfl,hb1⟩
 by_cases h0:Pg.yhp t l r u d f lv=0
 ·have HE:D (Pg.enc t l r u d f lv=Pg.yi1 t l r u d f lv):=Pg.yiN h0
  have HW:=ycA t l r u d f lv h0;rw[h0,zG];have HG:D _:=h0;clear h0;have a0':=U hb1 a0;have a1':=U hb1 a1;have a2':=U hb1 a2;have a3':=U hb1 a3;have a4':=U hb1 a4;have a5':=U hb1 a5;have b':=U hb1 hb
  go_wp2_with fail
  refine(HW _).mono ?_;rintro e w2 ⟨rfl,hb2⟩;have hB:=zT hb1 hb2;have c':=U hB hc;have z':=ybn hB hc hz
  go_wp2_with fail
  go_end0
  refine⟨by rw[HG.out,zG],(hB.mono (L HLT.out)).setCell (T c) _,?_,?_⟩
  ·rw[HE.out]
   exact G _ _ _ c'
  ·intro k hk hkl
   have e1:∀v,(w2.setCell ⟨c,0,J⟩ v).frozen? ⟨k,0,J⟩=w2.frozen? ⟨k,0,J⟩:=fun v=>by simp[go_sem]
   have e2:∀v,(w2.setCell ⟨c,0,J⟩ v).cell? ⟨k,0,J⟩=w2.cell? ⟨k,0,J⟩:=fun v=>Y _ _ _ _ (fun e=>hk (by cases e;rfl));exact⟨(e2 _).trans (hB.cell hkl),(e1 _).trans (hB.frozen hkl)⟩
 ·rw[zx h0]
  go_wp2_with fail
  refine⟨rfl,(zx h0).symm,hb1.mono (L HLT.out),?_,?_⟩
  ·rw[Pg.enc,if_neg h0]
   exact U hb1 hc
  ·intro k hk hkl
   exact⟨hb1.cell hkl,hb1.frozen hkl⟩
theorem yaq (t l:Bool) (r:Int) (u d:Bool) (f lv:Int) (w:Q):
 O C 251 #[X #[I t,I l,B P r,I u,I d,B P f],B P lv] w fun e w'=>e=V (H #[B E (Pg.enc t l r u d f lv),B P (Pg.yhp t l r u d f lv)])/\Below w.heap.size w w':=by
 have hmf:∀(fn:Fn) (first cap:Array y) (w:Q),(Instr.makeFunc fn first cap).run C w= .ok (.func fn first cap) w:=fun _ _ _ _=>rfl
 go_enter Tryz.func251,Tryz.ntmps251
 go_wp2_with fail
 refine(jC 282 _ (Pg.yhp t l r u d f lv) (fun w'=>Below w.heap.size w w'/\w'.cell? ⟨w.heap.size+1+1,0,J⟩=N (B E (Pg.enc t l r u d f lv))) _ ?_ ?_).mono ?_
 ·intro w
  simp[go_sem]
 ·refine(vT t l r u d f lv w.heap.size (w.heap.size+1) (w.heap.size+1+1) _ ?_ ?_ ?_ ?_).mono ?_
  ·simp[go_sem]
  ·simp[go_sem]
  ·simp[go_sem]
  ·simp[go_sem]
  ·rintro e w1 ⟨rfl,hb1,hc1,hk⟩
   obtain⟨k1,k2⟩:=hk (w.heap.size+1+1+1) (by omega) (by simp);refine⟨rfl,⟨?_,hc1⟩,?_,?_⟩
   ·exact(zA (zA (zA (zA (zR w) _) _) _) _).trans (hb1.mono (by omega))
   ·have:((((w.alloc (K #[I t,I l,B P r,I u,I d,B P f] 82)).alloc (K #[B P lv] 3)).alloc (K #[B E 0] 93)).heap.size)=w.heap.size+1+1+1:=by simp
    rw[this,k1];simp[go_sem]
   ·have:((((w.alloc (K #[I t,I l,B P r,I u,I d,B P f] 82)).alloc (K #[B P lv] 3)).alloc (K #[B E 0] 93)).heap.size)=w.heap.size+1+1+1:=by simp
    rw[this,k2];simp[go_sem]
 ·rintro e w2 ⟨rfl,w1,⟨hb1,hc1⟩,hb2⟩
  have hc2:w2.cell? ⟨w.heap.size+1+1,0,J⟩=N (B E (Pg.enc t l r u d f lv)):=(hb2.cell (p:=⟨w.heap.size+1+1,0,J⟩) (by simp)).trans hc1;have HB:D (Below w.heap.size w w2):=hb1.trans (hb2.mono (by simp;omega));clear hb1 hb2 hc1
  go_wp2_with fail
  go_ret2
  exact⟨rfl,HB.out⟩
theorem ycN {w:Q} {c:Nat} {u0 u1 u2 u3 u4 u5 v0 v1 v2 v3 v4 v5:y} (h:w.cell? ⟨c,0,J⟩=N u0/\w.cell? ⟨c,1,J⟩=N u1/\w.cell? ⟨c,2,J⟩=N u2/\w.cell? ⟨c,3,J⟩=N u3/\w.cell? ⟨c,4,J⟩=N u4/\w.cell? ⟨c,5,J⟩=N u5):
 (((((((w.setCell ⟨c,0,J⟩ v0).setCell ⟨c,1,J⟩ v1).setCell ⟨c,2,J⟩ v2).setCell ⟨c,3,J⟩ v3).setCell ⟨c,4,J⟩ v4).setCell ⟨c,5,J⟩ v5).cell? ⟨c,0,J⟩=N v0/\((((((w.setCell ⟨c,0,J⟩ v0).setCell ⟨c,1,J⟩ v1).setCell ⟨c,2,J⟩ v2).setCell ⟨c,3,J⟩ v3).setCell ⟨c,4,J⟩ v4).setCell ⟨c,5,J⟩ v5).cell? ⟨c,1,J⟩=N v1/\((((((w.setCell ⟨c,0,J⟩ v0).setCell ⟨c,1,J⟩ v1).setCell ⟨c,2,J⟩ v2).setCell ⟨c,3,J⟩ v3).setCell ⟨c,4,J⟩ v4).setCell ⟨c,5,J⟩ v5).cell? ⟨c,2,J⟩=N v2/\((((((w.setCell ⟨c,0,J⟩ v0).setCell ⟨c,1,J⟩ v1).setCell ⟨c,2,J⟩ v2).setCell ⟨c,3,J⟩ v3).setCell ⟨c,4,J⟩ v4).setCell ⟨c,5,J⟩ v5).cell? ⟨c,3,J⟩=N v3/\((((((w.setCell ⟨c,0,J⟩ v0).setCell ⟨c,1,J⟩ v1).setCell ⟨c,2,J⟩ v2).setCell ⟨c,3,J⟩ v3).setCell ⟨c,4,J⟩ v4).setCell ⟨c,5,J⟩ v5).cell? ⟨c,4,J⟩=N v4/\((((((w.setCell ⟨c,0,J⟩ v0).setCell ⟨c,1,J⟩ v1).setCell ⟨c,2,J⟩ v2).setCell ⟨c,3,J⟩ v3).setCell ⟨c,4,J⟩ v4).setCell ⟨c,5,J⟩ v5).cell? ⟨c,5,J⟩=N v5)/\
 (∀k,k≠c->((((((w.setCell ⟨c,0,J⟩ v0).setCell ⟨c,1,J⟩ v1).setCell ⟨c,2,J⟩ v2).setCell ⟨c,3,J⟩ v3).setCell ⟨c,4,J⟩ v4).setCell ⟨c,5,J⟩ v5).cell? ⟨k,0,J⟩=w.cell? ⟨k,0,J⟩)/\
 (∀k,((((((w.setCell ⟨c,0,J⟩ v0).setCell ⟨c,1,J⟩ v1).setCell ⟨c,2,J⟩ v2).setCell ⟨c,3,J⟩ v3).setCell ⟨c,4,J⟩ v4).setCell ⟨c,5,J⟩ v5).frozen? ⟨k,0,J⟩=w.frozen? ⟨k,0,J⟩):=by
 refine⟨by simp[go_sem,h],fun k hk=> ?_,fun k=>by simp[go_sem]⟩;have hn:∀o,(⟨c,o,J⟩:Addr)≠⟨k,0,J⟩:=fun o e=>hk (by cases e;rfl);rw[Y _ _ _ _ (hn _),Y _ _ _ _ (hn _),Y _ _ _ _ (hn _),Y _ _ _ _ (hn _),Y _ _ _ _ (hn _),Y _ _ _ _ (hn _)]
theorem vR (W lv:Int) (h0:0<=W) (h1:W<18446744073709551616) (a b c:Nat) (w:Q)
 (ha:w.cell? ⟨a,0,J⟩=N (B E W)) (hb:w.cell? ⟨b,0,J⟩=N (B P lv))
 (hc:w.cell? ⟨c,0,J⟩=N (I S)/\w.cell? ⟨c,1,J⟩=N (I S)/\w.cell? ⟨c,2,J⟩=N (B P 0)/\w.cell? ⟨c,3,J⟩=N (I S)/\w.cell? ⟨c,4,J⟩=N (I S)/\w.cell? ⟨c,5,J⟩=N (B P 0))
 (hz:∀o,w.frozen? ⟨c,o,J⟩=S):
 O C 279 #[M (N ⟨a,0,J⟩),M (N ⟨b,0,J⟩),M (N ⟨c,0,J⟩)] w fun e w'=>
  e=give (Pg.yhz W lv)/\Below c w w'/\(w'.cell? ⟨c,0,J⟩=N (I (Pg.yhB W lv))/\w'.cell? ⟨c,1,J⟩=N (I (Pg.xL W lv))/\w'.cell? ⟨c,2,J⟩=N (B P (Pg.xR W lv))/\w'.cell? ⟨c,3,J⟩=N (I (Pg.xU W lv))/\w'.cell? ⟨c,4,J⟩=N (I (Pg.xD W lv))/\w'.cell? ⟨c,5,J⟩=N (B P (Pg.xF W lv)))/\
  ∀k,k≠c->k<w.heap.size->w'.cell? ⟨k,0,J⟩=w.cell? ⟨k,0,J⟩/\w'.frozen? ⟨k,0,J⟩=w.frozen? ⟨k,0,J⟩:=by
 have hlt:c<w.heap.size:=A _ _ hc.1;have HLT:D _:=hlt;clear hlt;have HM:=yab W lv h0 h1
 by_cases hm:(if lv<0\/3<lv then(1:Int)else if Pg.wBad W lv=F then 7 else 0)=0
 ·rw[hm,zG]at HM
  have hl:¬(lv<0\/3<lv):=by
   intro h;rw[if_pos h]at hm;exact absurd hm (by decide)
  rw[if_neg hl]at hm
  have hw:Pg.wBad W lv=S:=by
   cases h:Pg.wBad W lv
   ·rfl
   ·rw[h]at hm;exact absurd hm (by decide)
  clear hm
  by_cases hz0:W=0
  ·subst hz0
   have hd:Pg.yhz 0 lv=0:=by simp[Pg.yhz,hl,hw]
   have hg:Pg.yhB 0 lv=S:=by simp[Pg.yhB]
   have HF:D (Pg.yhp S S 0 S S 0 lv=0):=Pg.yjX (by omega) (by omega)
   have HX:D (Pg.yhB 0 lv=S/\Pg.xL 0 lv=S/\Pg.xR 0 lv=0/\Pg.xU 0 lv=S/\Pg.xD 0 lv=S/\Pg.xF 0 lv=0):=by
    show _/\_
    simp[Pg.xL,Pg.xR,Pg.xU,Pg.xD,Pg.xF,hg]
   have HD:D (Pg.yhz 0 lv=0):=hd;clear hd hg hl hw
   go_enter Tryz.func279,Tryz.ntmps279
   go_wp2_with fail
   refine(HM _).mono ?_;rintro e w1 ⟨rfl,rfl⟩
   go_wp2_with fail
   refine(yjG _ _).mono ?_;rintro e w2 ⟨rfl,hb2⟩;have b2:∀o,(w2.alloc o).cell? ⟨b,0,J⟩=N (B P lv):=fun o=>U (zA hb2 o) hb;have cc2:=qy hb2 hc
   go_wp2_with fail
   refine(xI _ _ _ _ _ _ _ _).mono ?_;rintro e w3 ⟨rfl,hb3⟩;have hB3:=zT (zA hb2 _) hb3;obtain⟨hc3,hf3⟩:=qD hb3;obtain⟨c0,c1,c2,c3,c4,c5⟩:=qy hB3 hc;have z3:∀o,w3.frozen? ⟨c,o,J⟩=S:=fun o=>(hB3.frozen (p:=⟨c,o,J⟩) HLT.out).trans (hz o);rw[HF.out,zG]
   go_wp2_with fail
   go_end0
   obtain⟨s1,s2,s3⟩:=ycN (v0:=I S) (v1:=I S) (v2:=B P 0) (v3:=I S) (v4:=I S) (v5:=B P 0) ⟨c0,c1,c2,c3,c4,c5⟩;obtain⟨x0,x1,x2,x3,x4,x5⟩:=HX.out;rw[HD.out,x0,x1,x2,x3,x4,x5];refine⟨rfl,((((((hB3.mono (L HLT.out)).setCell (T c) _).setCell (T c) _).setCell (T c) _).setCell (T c) _).setCell (T c) _).setCell (T c) _,s1,?_⟩;intro k hk hkl;exact⟨(s2 k hk).trans (hB3.cell hkl),(s3 k).trans (hB3.frozen hkl)⟩
  ·have hw':W%2=1/\W<4294967296:=by
    simp only[Pg.wBad,decide_eq_false_iff_not]at hw;omega
   have HD:D (Pg.yhz W lv=Pg.yhp F (Pg.yin W lv) (W/2%8) (Pg.yiU W) (Pg.yh6 W) (W/4096) lv):=by
    show Pg.yhz W lv=_
    rw[Pg.yhz,if_neg hl,if_neg (by rw[hw];decide),if_neg hz0]
   have HZ:D (W≠0):=hz0;have HR:=ye4 W lv h0 hw'.2 hw'.1;clear hl hw hw' hz0
   go_enter Tryz.func279,Tryz.ntmps279
   go_wp2_with fail
   refine(HM _).mono ?_;rintro e w1 ⟨rfl,rfl⟩
   go_wp2_with fail
   refine(HR _).mono ?_;rintro e w2 ⟨rfl,hb2⟩;have b2:∀o,(w2.alloc o).cell? ⟨b,0,J⟩=N (B P lv):=fun o=>U (zA hb2 o) hb;have cc2:=qy hb2 hc
   go_wp2_with fail
   refine(xI _ _ _ _ _ _ _ _).mono ?_;rintro e w3 ⟨rfl,hb3⟩;have hB3:=zT (zA hb2 _) hb3;obtain⟨hc3,hf3⟩:=qD hb3;obtain⟨c0,c1,c2,c3,c4,c5⟩:=qy hB3 hc;have z3:∀o,w3.frozen? ⟨c,o,J⟩=S:=fun o=>(hB3.frozen (p:=⟨c,o,J⟩) HLT.out).trans (hz o);rw[<-HD.out]
   by_cases hd:Pg.yhz W lv=0
   ·have hg:Pg.yhB W lv=F:=by simp[Pg.yhB,hd,HZ.out]
    have HX:D (Pg.yhB W lv=F/\Pg.xL W lv=Pg.yin W lv/\Pg.xR W lv=W/2%8/\Pg.xU W lv=Pg.yiU W/\Pg.xD W lv=Pg.yh6 W/\Pg.xF W lv=W/4096):=by
     show _/\_
     simp[Pg.xL,Pg.xR,Pg.xU,Pg.xD,Pg.xF,hg]
    rw[hd,zG];have HD0:D _:=hd;clear hd hg
    go_wp2_with fail
    go_end0
    obtain⟨s1,s2,s3⟩:=ycN (v0:=I F) (v1:=I (Pg.yin W lv)) (v2:=B P (W/2%8)) (v3:=I (Pg.yiU W)) (v4:=I (Pg.yh6 W)) (v5:=B P (W/4096)) ⟨c0,c1,c2,c3,c4,c5⟩;obtain⟨x0,x1,x2,x3,x4,x5⟩:=HX.out;rw[HD0.out,x0,x1,x2,x3,x4,x5];refine⟨rfl,((((((hB3.mono (L HLT.out)).setCell (T c) _).setCell (T c) _).setCell (T c) _).setCell (T c) _).setCell (T c) _).setCell (T c) _,s1,?_⟩;intro k hk hkl;exact⟨(s2 k hk).trans (hB3.cell hkl),(s3 k).trans (hB3.frozen hkl)⟩
   ·have hg:Pg.yhB W lv=S:=by simp[Pg.yhB,hd]
    rw[zx hd]
    go_wp2_with fail
    refine⟨rfl,(zx hd).symm,hB3.mono (L HLT.out),?_,fun k _ hkl=>⟨hB3.cell hkl,hB3.frozen hkl⟩⟩;simp[Pg.xL,Pg.xR,Pg.xU,Pg.xD,Pg.xF,hg,c0,c1,c2,c3,c4,c5]
 ·have HC:D (Pg.yhz W lv=if lv<0\/3<lv then(1:Int)else if Pg.wBad W lv=F then 7 else 0):=by
   show Pg.yhz W lv=_
   unfold Pg.yhz;split
   ·rfl
   ·rename_i hl
    rw[if_neg hl]at hm;split
    ·rfl
    ·rename_i hb
     rw[if_neg hb]at hm;exact absurd rfl hm
  generalize (if lv<0\/3<lv then(1:Int)else if Pg.wBad W lv=F then 7 else 0)=g at hm HM HC
  go_enter Tryz.func279,Tryz.ntmps279
  go_wp2_with fail
  refine(HM _).mono ?_;rintro e w1 ⟨rfl,rfl⟩
  have hg:Pg.yhB W lv=S:=by simp[Pg.yhB,HC.out,hm]
  rw[zx hm]
  go_wp2_with fail
  refine⟨rfl,by rw[HC.out,zx hm],Below.refl _ _,?_,fun k _ _=>⟨rfl,rfl⟩⟩
  simpa[Pg.xL,Pg.xR,Pg.xU,Pg.xD,Pg.xF,hg]using hc
theorem jD (W lv:Int) (h0:0<=W) (h1:W<18446744073709551616) (w:Q):
 O C 248 #[B E W,B P lv] w fun e w'=>e=V (Pg.decV W lv)/\Below w.heap.size w w':=by
 have hv:Pg.decV W lv=H #[X #[I (Pg.yhB W lv),I (Pg.xL W lv),B P (Pg.xR W lv),I (Pg.xU W lv),I (Pg.xD W lv),B P (Pg.xF W lv)],B P (Pg.yhz W lv)]:=rfl;have HV:D _:=hv;clear hv;have hmf:∀(fn:Fn) (first cap:Array y) (w:Q),(Instr.makeFunc fn first cap).run C w= .ok (.func fn first cap) w:=fun _ _ _ _=>rfl
 go_enter Tryz.func248,Tryz.ntmps248
 go_wp2_with fail
 refine(jC 279 _ (Pg.yhz W lv) (fun w'=>Below (w.heap.size+1+1+1) ((((w.alloc (K #[B E W] 93)).alloc (K #[B P lv] 3)).alloc (K #[I S,I S,B P 0,I S,I S,B P 0] 82)).alloc (K #[I S,I S,B P 0,I S,I S,B P 0] 82)) w'/\
  (w'.cell? ⟨w.heap.size+1+1+1,0,J⟩=N (I (Pg.yhB W lv))/\w'.cell? ⟨w.heap.size+1+1+1,1,J⟩=N (I (Pg.xL W lv))/\w'.cell? ⟨w.heap.size+1+1+1,2,J⟩=N (B P (Pg.xR W lv))/\w'.cell? ⟨w.heap.size+1+1+1,3,J⟩=N (I (Pg.xU W lv))/\w'.cell? ⟨w.heap.size+1+1+1,4,J⟩=N (I (Pg.xD W lv))/\w'.cell? ⟨w.heap.size+1+1+1,5,J⟩=N (B P (Pg.xF W lv)))) _ ?_ ?_).mono ?_
 ·intro w
  simp[go_sem]
 ·refine(vR W lv h0 h1 w.heap.size (w.heap.size+1) (w.heap.size+1+1+1) _ ?_ ?_ ?_ ?_).mono ?_
  ·simp[go_sem]
  ·simp[go_sem]
  ·simp[go_sem]
  ·intro o
   simp[go_sem]
  ·rintro e w1 ⟨rfl,hb1,hc1,hk⟩
   obtain⟨k1,k2⟩:=hk (w.heap.size+1+1+1+1) (by omega) (by simp)
   have hs:((((w.alloc (K #[B E W] 93)).alloc (K #[B P lv] 3)).alloc (K #[I S,I S,B P 0,I S,I S,B P 0] 82)).alloc (K #[I S,I S,B P 0,I S,I S,B P 0] 82)).heap.size=w.heap.size+1+1+1+1:=by simp
   refine⟨rfl,⟨?_,hc1⟩,?_,?_⟩
   ·exact((Below.refl _ _).alloc (by simp) _).trans hb1
   ·rw[hs,k1]
    simp[go_sem]
   ·rw[hs,k2]
    simp[go_sem]
 ·rintro e w2 ⟨rfl,w1,⟨hb1,hc1⟩,hb2⟩
  have hc2:∀o,w2.cell? ⟨w.heap.size+1+1+1,o,J⟩=w1.cell? ⟨w.heap.size+1+1+1,o,J⟩:=fun o=>hb2.cell (p:=⟨w.heap.size+1+1+1,o,J⟩) (by simp);obtain⟨x0,x1,x2,x3,x4,x5⟩:=hc1;have y0:=(hc2 0).trans x0;have y1:=(hc2 1).trans x1;have y2:=(hc2 2).trans x2;have y3:=(hc2 3).trans x3;have y4:=(hc2 4).trans x4;have y5:=(hc2 5).trans x5;clear x0 x1 x2 x3 x4 x5 hc2;have hB2:=hb1.trans (hb2.mono (by simp));have r0:∀o,w2.cell? ⟨w.heap.size+1+1,o,J⟩=_:=fun o=>hB2.cell (p:=⟨w.heap.size+1+1,o,J⟩) (by simp);have f0:∀o,w2.frozen? ⟨w.heap.size+1+1,o,J⟩=_:=fun o=>hB2.frozen (p:=⟨w.heap.size+1+1,o,J⟩) (by simp);have HB:D _:=hB2;clear hb1 hb2 hB2
  go_wp2_with fail
  rw[HV.out];refine Z (v:=H #[X #[I (Pg.yhB W lv),I (Pg.xL W lv),B P (Pg.xR W lv),I (Pg.xU W lv),I (Pg.xD W lv),B P (Pg.xF W lv)],B P (Pg.yhz W lv)]) ?_ rfl ⟨rfl,?_⟩
  ·simp[results,Tryz.results248,go_sem,r0]
  ·have hA:=zA (zA (zA (zA (zR w) (K #[B E W] 93)) (K #[B P lv] 3)) (K #[I S,I S,B P 0,I S,I S,B P 0] 82)) (K #[I S,I S,B P 0,I S,I S,B P 0] 82)
   exact((((((hA.trans (HB.out.mono (by omega))).setCell (by simp;omega) _).setCell (by simp;omega) _).setCell (by simp;omega) _).setCell (by simp;omega) _).setCell (by simp;omega) _).setCell (by simp;omega) _
end Go.Proofs.YtdphiompijbelaaGreatDoor
