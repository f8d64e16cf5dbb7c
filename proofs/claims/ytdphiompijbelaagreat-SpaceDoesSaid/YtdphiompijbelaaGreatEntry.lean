import Derived.Test.YtdphiompijbelaaGreatFrameL
import Derived.Defers
import Derived.Recover
set_option linter.all false
open Go.RowKit renaming Hid->D
open Go.Obj renaming cells->K
open Go renaming World->Q,bodyPost_ret->Z,cell_later->U,Calls->O,Value->y
open Go.Ending renaming returned->V
open Nat renaming le_refl->T,le_of_lt->L
open Go.World renaming cell?_setCell_other->Y,block_lt_of_cell?->A,cell?_setCell_same->G
open Go.Proofs.Tryz renaming prog->C
open Bool renaming false->S,true->F,true_eq_false->x,eq_iff_iff->z
open Go.IntKind renaming i64->P,u64->E
open Option renaming none->J,some->N
open Go.Value renaming bool->I,int->B,pointer->M,agg->X,tuple->H,pointer->i
set_option maxHeartbeats 1000000
namespace Go.Proofs.YtdphiompijbelaaGreat
open Go.RowKit Go.Sort
def give (c:Int):Ending:=if c=0 then V (H #[])else .panicked [{v:= .iface 273 (X #[B P c]),recovered:=S}]
theorem zI:give 0=V (H #[]):=rfl
theorem zw {c:Int} (h:c≠0):give c= .panicked [{v:= .iface 273 (X #[B P c]),recovered:=S}]:=if_neg h
theorem vo (c:Int) (w:Q):
 O C 224 #[I S,B P c] w fun e w'=>e=V (H #[])/\w'=w:=by
 go_enter Tryz.func224,Tryz.ntmps224
 go_wp2
 go_end0
 exact⟨rfl,rfl⟩
theorem jP (c:Int) (w:Q):
 O C 224 #[I F,B P c] w fun e w'=>e= .panicked [{v:= .iface 273 (X #[B P c]),recovered:=S}]/\w'=w:=by
 go_enter Tryz.func224,Tryz.ntmps224
 go_wp2
 exact⟨rfl,rfl,rfl⟩
theorem zc (so:Bool) (c:Int) (w:Q):
 O C 224 #[I so,B P c] w fun e w'=>e=(bif so then .panicked [{v:= .iface 273 (X #[B P c]),recovered:=S}]else V (H #[]))/\w'=w:=by
 cases so
 ·exact vo c w
 ·exact jP c w
theorem yae (p:Addr) (v:y):#[i (N p)]++((Array.replicate 16 undef).setIfInBounds 3 v).setIfInBounds 0 v=#[M (N p),v,undef,undef,v,undef,undef,undef,undef,undef,undef,undef,undef,undef,undef,undef,undef]:=rfl
theorem ycI (p:Addr) (w:Q):
 CallsD C 222 #[M (N p)] .returning w fun e u' w'=>e=V (H #[])/\u'= .returning/\w'=w:=by
 refine callsD_of_wpS Tryz.func222 rfl fun c₀ cs hu=> ?_
 apply wpS_seq
 apply wpS_region
 simp[wpOpsS,go_sem,recoverD,hu,Tryz.ntmps222,Exit.thenS];refine wpS_of_wp ?_;rw[yae]
 go_wp2
 cases c₀
 simp_all[bodyPostS,results,Tryz.results222]
theorem yeq (p:Addr) (c:Int) (w:Q) (hc:w.cell? p=N (B P 0)) (hz:w.frozen? p=S):
 CallsD C 222 #[M (N p)] (.panicking [{v:= .iface 273 (X #[B P c]),recovered:=S}]) w fun e u' w'=>
  e=V (H #[])/\u'= .panicking [{v:= .iface 273 (X #[B P c]),recovered:=F}]/\w'.cell? p=N (B P c)/\Below p.block w w':=by
 have hta:∀(v:y) (w:Q),(Instr.typeAssert (.iface 273 v) 20 273 F).run C w= .ok (H #[v,I F]) w:=fun _ _=>by kernel_rfl
 have hlt:p.block<w.heap.size:=A _ _ hc;have hz2:∀o,(w.alloc o).frozen? p=S:=fun o=>((zA (zR w) o).frozen hlt).trans hz;have hc2:∀o,(w.alloc o).cell? p=N (B P 0):=fun o=>((zA (zR w) o).cell hlt).trans hc;refine callsD_of_wpS Tryz.func222 rfl fun c₀ cs hu=> ?_
 apply wpS_seq
 apply wpS_region
 simp[wpOpsS,go_sem,recoverD,hu,Tryz.ntmps222,Exit.thenS];refine wpS_of_wp ?_;rw[yae]
 go_wp2
 refine⟨rfl,_,rfl,H #[],by simp[results,Tryz.results222],rfl,rfl,G _ _ _ (hc2 _),((Below.refl p.block w).alloc (by omega) _).setCell (T _) _⟩
theorem jB (f:FuncId) (caps:Array y) (c:Int) (R:Q->Prop) (w:Q)
 (hf:∀w,(callFunc f caps).run C w= .ok (.enter f caps) w) (h:O C f caps (w.alloc (K #[B P 0] 3)) fun e w'=>e=give c/\R w'/\w'.cell? ⟨w.heap.size,0,J⟩=N (B P 0)/\w'.frozen? ⟨w.heap.size,0,J⟩=S):
 O C 197 #[.func (.func f) #[] caps] w fun e w'=>e=V (B P c)/\∃w1,R w1/\Below w.heap.size w1 w':=by
 have hmf:∀(fn:Fn) (first cap:Array y) (w:Q),(Instr.makeFunc fn first cap).run C w= .ok (.func fn first cap) w:=fun _ _ _ _=>rfl
 go_enter_defers Tryz.func197,Tryz.ntmps197
 go_wp2_with fail
 refine h.mono ?_;rintro e w1 ⟨rfl,hR,hc,hz⟩
 by_cases h0:c=0
 ·rw[h0,zI]
  go_wp2_with fail
  refine leaves_cons (f:=222) (args:=#[M (N ⟨w.heap.size,0,J⟩)]) (by simp) (by simp[go_sem]) ?_;refine(ycI ⟨w.heap.size,0,J⟩ _).mono ?_;rintro e u' w'' ⟨rfl,rfl,rfl⟩;simp[Leaves,settle,results,Tryz.results197,go_sem,hc];exact⟨h0.symm,w1,hR,(Below.refl w.heap.size w1).setCell (p:=⟨w.heap.size,0,J⟩) (T _) _⟩
 ·rw[zw h0]
  go_wp2_with fail
  refine leaves_cons (f:=222) (args:=#[M (N ⟨w.heap.size,0,J⟩)]) (by simp) (by simp[go_sem]) ?_;refine(yeq ⟨w.heap.size,0,J⟩ c _ hc hz).mono ?_;rintro e u' w'' ⟨rfl,rfl,hc',hb⟩;simp[Leaves,settle,results,Tryz.results197,go_sem,hc'];exact⟨w1,hR,hb⟩
theorem qH (lv:Int) (h:lv<0\/3<lv) (w:Q):
 O C 223 #[B P lv] w fun e w'=>e= .panicked [{v:= .iface 273 (X #[B P 1]),recovered:=S}]/\w'=w:=by
 rcases h with h|h
 all_goals
  go_enter Tryz.func223,Tryz.ntmps223
  go_wp2_with (go_at_call 224;refine(jP _ _).mono ?_;rintro e w' ⟨rfl,rfl⟩)
  exact⟨rfl,rfl,rfl⟩
theorem zi (lv:Int) (h:0<=lv) (h':lv<=3) (w:Q):
 O C 223 #[B P lv] w fun e w'=>e=V (H #[])/\w'=w:=by
 have d1:decide (lv<0)=S:=by simpa using h
 have d2:decide (3<lv)=S:=by simpa using h'
 clear h h'
 go_enter Tryz.func223,Tryz.ntmps223
 go_wp2_with (go_at_call 224;refine(vo _ _).mono ?_;rintro e w' ⟨rfl,rfl⟩)
 go_end0
 exact⟨rfl,rfl⟩
theorem xI (t l:Bool) (r:Int) (u d:Bool) (f lv:Int) (w:Q):
 O C 187 #[X #[I t,I l,B P r,I u,I d,B P f],B P lv] w fun e w'=>e=V (X #[B P 0,B P lv,B P f,B P r])/\Below w.heap.size w w':=by
 go_enter Tryz.func187,Tryz.ntmps187
 go_wp2_with fail
 refine Z (v:=X #[B P 0,B P lv,B P f,B P r]) ?_ rfl ⟨rfl,?_⟩
 ·simp[results,Tryz.results187,go_sem]
 ·exact zA (zA (zR _) _) _
theorem ycq (t l:Bool) (r:Int) (u d:Bool) (f lv:Int) (h:Pg.ygu t l r u d f lv=0) (w:Q):
 O C 200 #[X #[I t,I l,B P r,I u,I d,B P f],B P lv] w fun e w'=>e=V (B E (Pg.yg2 t l r u d f lv))/\Below w.heap.size w w':=by
 obtain⟨⟨l0,l3⟩,hc⟩:=Pg.ygI h;clear h;rcases hc with ⟨rfl,rfl,rfl,rfl,rfl,rfl⟩|⟨rfl,r0,r1,f0,f1,hc⟩
 ·go_enter Tryz.func200,Tryz.ntmps200
  go_wp2_with fail
  go_ret
  exact⟨rfl,zA (zR _) _⟩
 ·clear hc
  have HO:D _:=Pg.word_or r f r0 r1 f0 f1
  cases u<;>cases d<;>cases l
  all_goals
   go_enter Tryz.func200,Tryz.ntmps200
   go_wp2_with fail
  all_goals
   go_ret
   refine⟨xJ ?_,zA (zR _) _⟩;obtain⟨o1,o2,o3,o4,o5,o6,o7,o8⟩:=HO.out;simp only[o1,o2,o3,o4,o5,o6,o7,o8]
   simp_all[Pg.yg2,Pg.b01]<;>omega
theorem yeJ (W lv:Int) (h0:0<=W) (h1:W<4294967296) (h2:W%2=1) (w:Q):
 O C 229 #[B E W,B P lv] w fun e w'=>e=V (X #[I F,I (Pg.ygP W lv),B P (W/2%8),I (Pg.ygN W),I (Pg.ygC W),B P (W/4096)])/\Below w.heap.size w w':=by
 have h1':W<18446744073709551616:=by omega
 have b0:(bits .and E W 1==0)=S:=by rw[Pg.and1 W h0 h1',h2];rfl
 have b5:(bits .and E W 32 !=0)=Pg.ygN W:=by rw[Pg.and32 W h0 h1',z];simp[Pg.ygN];omega
 have b6:(bits .and E W 64 !=0)=Pg.ygC W:=by rw[Pg.and64 W h0 h1',z];simp[Pg.ygC];omega
 have b1:wrap64 (bits .and E W 14/2)=W/2%8:=by
  rw[Pg.and14 W h0 h1',wrap64];omega
 have bF:wrap64 (bits .and E W 4294963200/4096)=W/4096:=by
  rw[Pg.andF W h0 h1',wrap64];omega
 by_cases h7:W/128%2=1
 ·have b7:(bits .and E W 128 !=0)=F:=by rw[Pg.yim W h0 h1',h7];rfl
  have HL:D (Pg.ygP W lv=F):=by simp[D,Pg.ygP,h7]
  clear h7 h2
  go_enter Tryz.func229,Tryz.ntmps229
  go_wp2_with fail
  refine Z (v:=X #[I F,I F,B P (W/2%8),I (Pg.ygN W),I (Pg.ygC W),B P (W/4096)]) ?_ rfl ⟨by rw[HL.out],?_⟩
  ·simp[results,Tryz.results229,go_sem]
  ·exact zA (zR _) _
 ·have b7:(bits .and E W 128 !=0)=S:=by
   have:W/128%2=0:=by omega
   rw[Pg.yim W h0 h1',this];rfl
  have HL:D (Pg.ygP W lv=(lv==0)):=by
   simp only[D,Pg.ygP,h7,decide_false,Bool.or_false];rfl
  clear h7 h2
  go_enter Tryz.func229,Tryz.ntmps229
  go_wp2_with fail
  refine Z (v:=X #[I F,I (lv==0),B P (W/2%8),I (Pg.ygN W),I (Pg.ygC W),B P (W/4096)]) ?_ rfl ⟨by rw[HL.out],?_⟩
  ·simp[results,Tryz.results229,go_sem]
  ·exact zA (zR _) _
theorem ydW (lv:Int) (w:Q):
 O C 229 #[B E 0,B P lv] w fun e w'=>e=V (X #[I S,I S,B P 0,I S,I S,B P 0])/\Below w.heap.size w w':=by
 have b0:(bits .and E 0 1==0)=F:=by decide
 go_enter Tryz.func229,Tryz.ntmps229
 go_wp2_with fail
 refine Z (v:=X #[I S,I S,B P 0,I S,I S,B P 0]) ?_ rfl ⟨rfl,?_⟩
 ·simp[results,Tryz.results229,go_sem]
 ·exact zA (zR _) _
theorem vQ (W lv:Int) (h0:0<=W) (h1:W<18446744073709551616) (w:Q):
 O C 228 #[B E W,B P lv] w fun e w'=>e=give (if lv<0\/3<lv then 1 else if Pg.wBad W lv=F then 7 else 0)/\w'=w:=by
 by_cases hl:lv<0\/3<lv
 ·rw[if_pos hl]
  go_enter Tryz.func228,Tryz.ntmps228
  go_wp2_with (go_at_call 223;refine(qH _ hl _).mono ?_;rintro e w' ⟨rfl,rfl⟩)
  exact⟨rfl,rfl,rfl⟩
 ·rw[if_neg hl]
  have l0:0<=lv:=by omega
  have l3:lv<=3:=by omega
  clear hl;have hw:=Pg.wBad_eq W lv h0 h1;have HW:D _:=hw;clear hw;generalize hg:(if Pg.wBad W lv=F then(7:Int)else 0)=g;have HG:D _:=hg;clear hg;cases c1:(bits .andNot E W 4294963439 !=0)
  ·cases c2:(bits .and E W 1==0)
   ·cases c4:(bits .and E W 128 !=0)
    ·go_enter Tryz.func228,Tryz.ntmps228
     go_wp2_with (first
      | (go_at_call 223;refine(zi _ l0 l3 _).mono ?_;rintro e w' ⟨rfl,rfl⟩)
      | (go_at_call 224;refine(zc _ _ _).mono ?_;rintro e w' ⟨rfl,rfl⟩;simp only[cond]))
     go_end0
     exact⟨by rw[<-HG.out,HW.out,c1,c2,c4];rfl,rfl⟩
    ·cases c5:(lv==0)
     ·go_enter Tryz.func228,Tryz.ntmps228
      go_wp2_with (first
       | (go_at_call 223;refine(zi _ l0 l3 _).mono ?_;rintro e w' ⟨rfl,rfl⟩)
       | (go_at_call 224;refine(zc _ _ _).mono ?_;rintro e w' ⟨rfl,rfl⟩;simp only[cond]))
      go_end0
      exact⟨by rw[<-HG.out,HW.out,c1,c2,c4,c5];rfl,rfl⟩
     ·go_enter Tryz.func228,Tryz.ntmps228
      go_wp2_with (first
       | (go_at_call 223;refine(zi _ l0 l3 _).mono ?_;rintro e w' ⟨rfl,rfl⟩)
       | (go_at_call 224;refine(zc _ _ _).mono ?_;rintro e w' ⟨rfl,rfl⟩;simp only[cond]))
      exact⟨rfl,by rw[<-HG.out,HW.out,c1,c2,c4,c5];rfl,rfl⟩
   ·cases c3:(W !=0)
    ·have hz:W=0:=by simpa using c3
     subst hz
     go_enter Tryz.func228,Tryz.ntmps228
     go_wp2_with (first
      | (go_at_call 223;refine(zi _ l0 l3 _).mono ?_;rintro e w' ⟨rfl,rfl⟩)
      | (go_at_call 224;refine(zc _ _ _).mono ?_;rintro e w' ⟨rfl,rfl⟩;simp only[cond]))
     go_end0
     exact⟨by rw[<-HG.out];simp[Pg.wBad,give],rfl⟩
    ·go_enter Tryz.func228,Tryz.ntmps228
     go_wp2_with (first
      | (go_at_call 223;refine(zi _ l0 l3 _).mono ?_;rintro e w' ⟨rfl,rfl⟩)
      | (go_at_call 224;refine(zc _ _ _).mono ?_;rintro e w' ⟨rfl,rfl⟩;simp only[cond]))
     exact⟨rfl,by rw[<-HG.out,HW.out,c1,c2,c3];rfl,rfl⟩
  ·go_enter Tryz.func228,Tryz.ntmps228
   go_wp2_with (first
    | (go_at_call 223;refine(zi _ l0 l3 _).mono ?_;rintro e w' ⟨rfl,rfl⟩)
    | (go_at_call 224;refine(zc _ _ _).mono ?_;rintro e w' ⟨rfl,rfl⟩;simp only[cond]))
   exact⟨rfl,by rw[<-HG.out,HW.out,c1];rfl,rfl⟩
theorem yce (t l:Bool) (r:Int) (u d:Bool) (f lv:Int) (l0:0<=lv) (l3:lv<=3) (hr:¬(r<0\/7<r\/f<0\/1048576<=f)) (w:Q):
 O C 225 #[X #[I t,I l,B P r,I u,I d,B P f],B P lv] w fun e w'=>
  e=give (if lv=3 then 2 else if f%Pg.span lv=0 then 0 else 3)/\Below w.heap.size w w':=by
 by_cases h3:lv=3
 ·subst h3
  clear hr
  go_enter Tryz.func225,Tryz.ntmps225
  go_wp2_with (go_at_call 224;refine(zc _ _ _).mono ?_;rintro e w' ⟨rfl,rfl⟩;simp only[cond])
  exact⟨rfl,rfl,zA (zR _) _⟩
 ·have e3:(lv==3)=S:=by simpa using h3
  have HC:D _:=Pg.check_leaf hr l0 (by omega:lv<=2);rw[if_neg h3];clear h3 hr
  by_cases hm:f%Pg.span lv=0
  ·have hk:(Pg.check 0 lv f r !=0)=S:=by rw[HC.out,if_pos hm];rfl
   rw[if_pos hm];clear hm HC
   go_enter Tryz.func225,Tryz.ntmps225
   go_wp2_with (go_at_call 224;refine(zc _ _ _).mono ?_;rintro e w' ⟨rfl,rfl⟩;simp only[cond])
   refine(xI _ _ _ _ _ _ _ _).mono ?_;rintro e w1 ⟨rfl,hb1⟩
   go_wp2_with fail
   refine(xO _ _ _ _ _).mono ?_;rintro e w2 ⟨rfl,hb2⟩
   go_wp2_with (go_at_call 224;refine(zc _ _ _).mono ?_;rintro e w' ⟨rfl,rfl⟩;simp only[cond])
   go_end0
   exact⟨rfl,zT (zT (zA (zR _) _) hb1) hb2⟩
  ·have hk:(Pg.check 0 lv f r !=0)=F:=by rw[HC.out,if_neg hm];rfl
   rw[if_neg hm];clear hm HC
   go_enter Tryz.func225,Tryz.ntmps225
   go_wp2_with (go_at_call 224;refine(zc _ _ _).mono ?_;rintro e w' ⟨rfl,rfl⟩;simp only[cond])
   refine(xI _ _ _ _ _ _ _ _).mono ?_;rintro e w1 ⟨rfl,hb1⟩
   go_wp2_with fail
   refine(xO _ _ _ _ _).mono ?_;rintro e w2 ⟨rfl,hb2⟩
   go_wp2_with (go_at_call 224;refine(zc _ _ _).mono ?_;rintro e w' ⟨rfl,rfl⟩;simp only[cond])
   exact⟨rfl,rfl,zT (zT (zA (zR _) _) hb1) hb2⟩
theorem ybq (t l:Bool) (r:Int) (u d:Bool) (f lv:Int) (w:Q):
 O C 226 #[X #[I t,I l,B P r,I u,I d,B P f],B P lv] w fun e w'=>
  e=give (if lv=0 then 2 else if r≠7\/u=F\/d=F then 7 else 0)/\Below w.heap.size w w':=by
 by_cases h3:lv=0
 ·subst h3
  go_enter Tryz.func226,Tryz.ntmps226
  go_wp2_with (go_at_call 224;refine(zc _ _ _).mono ?_;rintro e w' ⟨rfl,rfl⟩;simp only[cond])
  exact⟨rfl,rfl,zA (zR _) _⟩
 ·have e3:(lv==0)=S:=by simpa using h3
  rw[if_neg h3];clear h3
  by_cases h7:r=7
  ·subst h7
   cases u<;>cases d
   all_goals
    go_enter Tryz.func226,Tryz.ntmps226
    go_wp2_with (first
     | (go_at_call 224;refine(zc _ _ _).mono ?_;rintro e w' ⟨rfl,rfl⟩;simp only[cond]))
    first
     | exact⟨rfl,rfl,zA (zR _) _⟩
     | (go_end0
        exact⟨rfl,zA (zR _) _⟩)
  ·have e7:(r !=7)=F:=by simpa using h7
   rw[if_pos (.inl h7)];clear h7
   go_enter Tryz.func226,Tryz.ntmps226
   go_wp2_with (first
    | (go_at_call 224;refine(zc _ _ _).mono ?_;rintro e w' ⟨rfl,rfl⟩;simp only[cond]))
   exact⟨rfl,rfl,zA (zR _) _⟩
theorem vR (l:Bool) (r:Int) (u d:Bool) (f lv:Int) (l0:0<=lv) (l3:lv<=3) (w:Q):
 O C 199 #[X #[I S,I l,B P r,I u,I d,B P f],B P lv] w fun e w'=>e=give (Pg.ygu S l r u d f lv)/\Below w.heap.size w w':=by
 have hg:Pg.ygu S l r u d f lv=if l=F\/r≠0\/u=F\/d=F\/f≠0 then 7 else 0:=by
  simp only[Pg.ygu,if_neg (by omega:¬(lv<0\/3<lv)),if_true]
 generalize Pg.ygu S l r u d f lv=g at hg;have HG:D _:=hg;clear hg
 go_enter Tryz.func199,Tryz.ntmps199
 go_wp2_with (first
  | (go_at_call 223;refine(zi _ l0 l3 _).mono ?_;rintro e w' ⟨rfl,rfl⟩)
  | (go_at_call 224;refine(zc _ _ _).mono ?_;rintro e w' ⟨rfl,rfl⟩;simp only[cond]))
 all_goals
  first
   | (refine⟨rfl,?_,zA (zR _) _⟩
      rw[HG.out]
      simp_all[give])
   | (refine Z (results_none rfl _ _ _) rfl ⟨?_,zA (zR _) _⟩
      rw[HG.out]
      simp_all[give])
theorem vB (l:Bool) (r:Int) (u d:Bool) (f lv:Int) (l0:0<=lv) (l3:lv<=3) (w:Q):
 O C 199 #[X #[I F,I l,B P r,I u,I d,B P f],B P lv] w fun e w'=>e=give (Pg.ygu F l r u d f lv)/\Below w.heap.size w w':=by
 have hlv:¬(lv<0\/3<lv):=by omega
 have HS:D _:=Pg.check_small f r
 by_cases hr:r<0\/7<r\/f<0\/1048576<=f
 ·have hc:Pg.ygu F l r u d f lv=1:=by simp[Pg.ygu,hlv,hr]
  rw[hc]
  have hk:(Pg.check 0 0 f r !=0)=F:=by rw[HS.out,if_pos hr];rfl
  clear hc hr HS hlv
  go_enter Tryz.func199,Tryz.ntmps199
  go_wp2_with (go_at_call 223;refine(zi _ l0 l3 _).mono ?_;rintro e w' ⟨rfl,rfl⟩)
  refine(xI _ _ _ _ _ _ _ _).mono ?_;rintro e w1 ⟨rfl,hb1⟩
  go_wp2_with fail
  refine(xO _ _ _ _ _).mono ?_;rintro e w2 ⟨rfl,hb2⟩
  go_wp2_with (go_at_call 224;refine(zc _ _ _).mono ?_;rintro e w' ⟨rfl,rfl⟩;simp only[cond])
  exact⟨rfl,rfl,zT (zT (zA (zR _) _) hb1) hb2⟩
 ·have hk:(Pg.check 0 0 f r !=0)=S:=by rw[HS.out,if_neg hr];rfl
  have HR:D _:=hr;cases l
  ·have HC:D (Pg.ygu F S r u d f lv=if lv=0 then 2 else if r≠7\/u=F\/d=F then 7 else 0):=by
    simp only[D,Pg.ygu,if_neg hlv,if_neg hr,x,Bool.false_eq_true,if_false,false_and,true_and,false_or]
   generalize hg:(if lv=0 then(2:Int)else if r≠7\/u=F\/d=F then 7 else 0)=g at HC;rw[HC.out];have HL:=ybq F S r u d f lv;rw[hg]at HL;clear HC hr HS hlv hg
   go_enter Tryz.func199,Tryz.ntmps199
   go_wp2_with (go_at_call 223;refine(zi _ l0 l3 _).mono ?_;rintro e w' ⟨rfl,rfl⟩)
   refine(xI _ _ _ _ _ _ _ _).mono ?_;rintro e w1 ⟨rfl,hb1⟩;obtain⟨hc1,hf1⟩:=xE hb1
   go_wp2_with fail
   refine(xO _ _ _ _ _).mono ?_;rintro e w2 ⟨rfl,hb2⟩;obtain⟨hc2,hf2⟩:=xE (zT hb1 hb2)
   go_wp2_with (go_at_call 224;refine(zc _ _ _).mono ?_;rintro e w' ⟨rfl,rfl⟩;simp only[cond])
   refine(HL _).mono ?_;rintro e w3 ⟨rfl,hb3⟩
   by_cases h0:g=0
   ·rw[h0,zI]
    go_wp2_with fail
    go_end0
    exact⟨by rw[h0,zI],zT (zT (zT (zA (zR _) _) hb1) hb2) hb3⟩
   ·rw[zw h0]
    go_wp2_with fail
    exact⟨rfl,(zw h0).symm,zT (zT (zT (zA (zR _) _) hb1) hb2) hb3⟩
  ·have HC:D (Pg.ygu F F r u d f lv=if lv=3 then 2 else if f%Pg.span lv=0 then 0 else 3):=by
    simp only[D,Pg.ygu,if_neg hlv,if_neg hr,x,if_false,if_true,false_and,true_and,or_false]
   generalize hg:(if lv=3 then(2:Int)else if f%Pg.span lv=0 then 0 else 3)=g at HC;rw[HC.out];have HL:=yce F F r u d f lv l0 l3 hr;rw[hg]at HL;clear HC hr HS hlv hg
   go_enter Tryz.func199,Tryz.ntmps199
   go_wp2_with (go_at_call 223;refine(zi _ l0 l3 _).mono ?_;rintro e w' ⟨rfl,rfl⟩)
   refine(xI _ _ _ _ _ _ _ _).mono ?_;rintro e w1 ⟨rfl,hb1⟩;obtain⟨hc1,hf1⟩:=xE hb1
   go_wp2_with fail
   refine(xO _ _ _ _ _).mono ?_;rintro e w2 ⟨rfl,hb2⟩;obtain⟨hc2,hf2⟩:=xE (zT hb1 hb2)
   go_wp2_with (go_at_call 224;refine(zc _ _ _).mono ?_;rintro e w' ⟨rfl,rfl⟩;simp only[cond])
   refine(HL _).mono ?_;rintro e w3 ⟨rfl,hb3⟩
   by_cases h0:g=0
   ·rw[h0,zI]
    go_wp2_with fail
    go_end0
    exact⟨by rw[h0,zI],zT (zT (zT (zA (zR _) _) hb1) hb2) hb3⟩
   ·rw[zw h0]
    go_wp2_with fail
    exact⟨rfl,(zw h0).symm,zT (zT (zT (zA (zR _) _) hb1) hb2) hb3⟩
theorem xT (t l:Bool) (r:Int) (u d:Bool) (f lv:Int) (w:Q):
 O C 199 #[X #[I t,I l,B P r,I u,I d,B P f],B P lv] w fun e w'=>e=give (Pg.ygu t l r u d f lv)/\Below w.heap.size w w':=by
 by_cases hl:lv<0\/3<lv
 ·have hc:Pg.ygu t l r u d f lv=1:=by simp[Pg.ygu,hl]
  rw[hc]
  go_enter Tryz.func199,Tryz.ntmps199
  go_wp2_with (go_at_call 223;refine(qH _ hl _).mono ?_;rintro e w' ⟨rfl,rfl⟩)
  exact⟨rfl,rfl,zA (zR _) _⟩
 ·cases t
  ·exact vR l r u d f lv (by omega) (by omega) w
  ·exact vB l r u d f lv (by omega) (by omega) w
theorem yaF (t l:Bool) (r:Int) (u d:Bool) (f lv:Int) (a b:Nat) (w:Q)
 (ha:w.cell? ⟨a,0,J⟩=N (I t)/\w.cell? ⟨a,1,J⟩=N (I l)/\w.cell? ⟨a,2,J⟩=N (B P r)/\w.cell? ⟨a,3,J⟩=N (I u)/\w.cell? ⟨a,4,J⟩=N (I d)/\w.cell? ⟨a,5,J⟩=N (B P f))
 (hb:w.cell? ⟨b,0,J⟩=N (B P lv)):
 O C 213 #[M (N ⟨a,0,J⟩),M (N ⟨b,0,J⟩)] w fun e w'=>e=give (Pg.ygu t l r u d f lv)/\Below w.heap.size w w':=by
 obtain⟨a0,a1,a2,a3,a4,a5⟩:=ha
 go_enter Tryz.func213,Tryz.ntmps213
 go_wp2_with fail
 refine(xT _ _ _ _ _ _ _ _).mono ?_;rintro e w1 ⟨rfl,hb1⟩
 by_cases h0:Pg.ygu t l r u d f lv=0
 ·rw[h0,zI]
  go_wp2_with fail
  go_end0
  exact⟨by rw[h0,zI],hb1⟩
 ·rw[zw h0]
  go_wp2_with fail
  exact⟨rfl,(zw h0).symm,hb1⟩
theorem qN (t l:Bool) (r:Int) (u d:Bool) (f lv:Int) (w:Q):
 O C 186 #[X #[I t,I l,B P r,I u,I d,B P f],B P lv] w fun e w'=>e=V (B P (Pg.ygu t l r u d f lv))/\Below w.heap.size w w':=by
 have hmf:∀(fn:Fn) (first cap:Array y) (w:Q),(Instr.makeFunc fn first cap).run C w= .ok (.func fn first cap) w:=fun _ _ _ _=>rfl
 go_enter Tryz.func186,Tryz.ntmps186
 go_wp2_with fail
 refine(jB 213 _ (Pg.ygu t l r u d f lv) (fun w'=>Below w.heap.size w w') _ ?_ ?_).mono ?_
 ·intro w
  simp[go_sem]
 ·refine(yaF t l r u d f lv w.heap.size (w.heap.size+1) _ ?_ ?_).mono ?_
  ·simp[go_sem]
  ·simp[go_sem]
  ·rintro e w1 ⟨rfl,hb1⟩
   obtain⟨k1,k2⟩:=xE hb1;refine⟨rfl,?_,?_,?_⟩
   ·exact zT (zA (zA (zA (zR w) _) _) _) hb1
   ·rw[k1 _ _ (by simp)]
    simp[go_sem]
   ·rw[k2 _ _ (by simp)]
    simp[go_sem]
 ·rintro e w2 ⟨rfl,w1,hb1,hb2⟩
  have HB:D (Below w.heap.size w w2):=hb1.trans (hb2.mono (by simp;omega));clear hb1 hb2
  go_wp2_with fail
  go_ret
  exact⟨rfl,HB.out⟩
theorem yaJ (t l:Bool) (r:Int) (u d:Bool) (f lv q:Int) (w:Q):
 O C 152 #[X #[I t,I l,B P r,I u,I d,B P f],B P lv,B P q] w fun e w'=>e=V (Pg.mapV t l r u d f lv q)/\Below w.heap.size w w':=by
 by_cases h0:Pg.ygu t l r u d f lv=0
 ·have e0:(Pg.ygu t l r u d f lv !=0)=S:=by simp[h0]
  have H0:D _:=h0;cases l
  ·have HV:D _:=Pg.yhR (at':=q) (by simp[Pg.lOk,h0]:Pg.lOk t S r u d f lv q=S)
   clear h0
   go_enter Tryz.func152,Tryz.ntmps152
   go_wp2_with fail
   refine(qN _ _ _ _ _ _ _ _).mono ?_;rintro e w1 ⟨rfl,hb1⟩;obtain⟨hc1,hf1⟩:=xE hb1
   go_wp2_with fail
   refine Z (v:=X #[B P 0,B P 0,B P 0,B P 0]) ?_ rfl ⟨by rw[HV.out],?_⟩
   ·simp[results,Tryz.results152,go_sem,hc1]
   ·exact((((zT (zA (zA (zR _) _) _) hb1).setCell (by simp) _).setCell (by simp) _).setCell (by simp) _).setCell (by simp) _
  ·cases hq:Pg.below q 4096
   ·have HV:D _:=Pg.yhR (at':=q) (by simp[Pg.lOk,hq]:Pg.lOk t F r u d f lv q=S)
    clear h0
    go_enter Tryz.func152,Tryz.ntmps152
    go_wp2_with fail
    refine(qN _ _ _ _ _ _ _ _).mono ?_;rintro e w1 ⟨rfl,hb1⟩;obtain⟨hc1,hf1⟩:=xE hb1
    go_wp2_with (go_at_call 172;refine(xy _ _).mono ?_;rintro e w' ⟨rfl,rfl⟩)
    refine Z (v:=X #[B P 0,B P 0,B P 0,B P 0]) ?_ rfl ⟨by rw[HV.out],?_⟩
    ·simp[results,Tryz.results152,go_sem,hc1]
    ·exact((((zT (zA (zA (zR _) _) _) hb1).setCell (by simp) _).setCell (by simp) _).setCell (by simp) _).setCell (by simp) _
   ·have HV:D _:=Pg.yie (at':=q) (by simp[Pg.lOk,hq,h0]:Pg.lOk t F r u d f lv q=F)
    have hs1:1<=Pg.span lv/\Pg.span lv<=64:=by
     obtain⟨⟨l0,l3⟩,hc⟩:=Pg.ygI h0;have hsp:=Pg.ygF lv;have hb:=Pg.ygV lv;rcases hc with ⟨_,h,_⟩|⟨_,_,_,_,_,⟨_,h,_⟩|⟨h,_⟩⟩
     ·cases h
     ·omega
     ·cases h
    obtain⟨s1,s2⟩:=hs1;obtain⟨q0,q1⟩:=Pg.zB.1 hq;clear h0
    go_enter Tryz.func152,Tryz.ntmps152
    go_wp2_with fail
    refine(qN _ _ _ _ _ _ _ _).mono ?_;rintro e w1 ⟨rfl,hb1⟩;obtain⟨hc1,hf1⟩:=xE hb1
    go_wp2_with (go_at_call 172;refine(xy _ _).mono ?_;rintro e w' ⟨rfl,rfl⟩)
    refine(xI _ _ _ _ _ _ _ _).mono ?_;rintro e w2 ⟨rfl,hb2⟩;have hB:=zT hb1 hb2;have fr:∀o k,(w2.alloc o).frozen? ⟨w.heap.size+1,k,J⟩=S:=fun o k=>((zA hB o).frozen (p:=⟨w.heap.size+1,k,J⟩) (by simp)).trans (by simp[go_sem]);have c0:∀o,(w2.alloc o).cell? ⟨w.heap.size+1,0,J⟩=N (B P 0):=fun o=>((zA hB o).cell (p:=⟨w.heap.size+1,0,J⟩) (by simp)).trans (by simp[go_sem]);have c1:∀o,(w2.alloc o).cell? ⟨w.heap.size+1,1,J⟩=N (B P 0):=fun o=>((zA hB o).cell (p:=⟨w.heap.size+1,1,J⟩) (by simp)).trans (by simp[go_sem]);have c2:∀o,(w2.alloc o).cell? ⟨w.heap.size+1,2,J⟩=N (B P 0):=fun o=>((zA hB o).cell (p:=⟨w.heap.size+1,2,J⟩) (by simp)).trans (by simp[go_sem]);have c3:∀o,(w2.alloc o).cell? ⟨w.heap.size+1,3,J⟩=N (B P 0):=fun o=>((zA hB o).cell (p:=⟨w.heap.size+1,3,J⟩) (by simp)).trans (by simp[go_sem])
    have hwr:wrap64 (q-q%Pg.span lv)=q-q%Pg.span lv:=by
     have:=Int.emod_nonneg q (by omega:Pg.span lv≠0);have:=Int.emod_lt_of_pos q (by omega:0<Pg.span lv);rw[wrap64];omega
    have HB:D (Below w.heap.size w w2):=zT (zA (zA (zR w) _) _) hB;clear hB hb1 hb2 hc1 hf1
    go_wp2_with (go_at_call 153;refine(xz _ _).mono ?_;rintro e w' ⟨rfl,rfl⟩)
    refine Z (v:=X #[B P (q-q%Pg.span lv),B P lv,B P f,B P r]) ?_ rfl ⟨by rw[HV.out],?_⟩
    ·simp[results,Tryz.results152,go_sem,c0,c1,c2,c3]
    ·exact((((zA HB.out _).setCell (by simp) _).setCell (by simp) _).setCell (by simp) _).setCell (by simp) _
 ·have e0:(Pg.ygu t l r u d f lv !=0)=F:=by simp[h0]
  have HV:D _:=Pg.yhR (at':=q) (by simp[Pg.lOk,h0]:Pg.lOk t l r u d f lv q=S);clear h0
  go_enter Tryz.func152,Tryz.ntmps152
  go_wp2_with fail
  refine(qN _ _ _ _ _ _ _ _).mono ?_;rintro e w1 ⟨rfl,hb1⟩;obtain⟨hc1,hf1⟩:=xE hb1
  go_wp2_with fail
  refine Z (v:=X #[B P 0,B P 0,B P 0,B P 0]) ?_ rfl ⟨by rw[HV.out],?_⟩
  ·simp[results,Tryz.results152,go_sem,hc1]
  ·exact((((zT (zA (zA (zR _) _) _) hb1).setCell (by simp) _).setCell (by simp) _).setCell (by simp) _).setCell (by simp) _
theorem vO (t l:Bool) (r:Int) (u d:Bool) (f lv:Int) (a b c:Nat) (w:Q)
 (ha:w.cell? ⟨a,0,J⟩=N (I t)/\w.cell? ⟨a,1,J⟩=N (I l)/\w.cell? ⟨a,2,J⟩=N (B P r)/\w.cell? ⟨a,3,J⟩=N (I u)/\w.cell? ⟨a,4,J⟩=N (I d)/\w.cell? ⟨a,5,J⟩=N (B P f))
 (hb:w.cell? ⟨b,0,J⟩=N (B P lv)) (hc:w.cell? ⟨c,0,J⟩=N (B E 0)) (hz:w.frozen? ⟨c,0,J⟩=S):
 O C 198 #[M (N ⟨a,0,J⟩),M (N ⟨b,0,J⟩),M (N ⟨c,0,J⟩)] w fun e w'=>
  e=give (Pg.ygu t l r u d f lv)/\Below c w w'/\w'.cell? ⟨c,0,J⟩=N (B E (Pg.enc t l r u d f lv))/\
  ∀k,k≠c->k<w.heap.size->w'.cell? ⟨k,0,J⟩=w.cell? ⟨k,0,J⟩/\w'.frozen? ⟨k,0,J⟩=w.frozen? ⟨k,0,J⟩:=by
 have hlt:c<w.heap.size:=A _ _ hc;have HLT:D _:=hlt;obtain⟨a0,a1,a2,a3,a4,a5⟩:=ha;clear hlt
 go_enter Tryz.func198,Tryz.ntmps198
 go_wp2_with fail
 refine(xT _ _ _ _ _ _ _ _).mono ?_;rintro e w1 ⟨rfl,hb1⟩
 by_cases h0:Pg.ygu t l r u d f lv=0
 ·have HE:D (Pg.enc t l r u d f lv=Pg.yg2 t l r u d f lv):=Pg.yg8 h0
  have HW:=ycq t l r u d f lv h0;rw[h0,zI];have HG:D _:=h0;clear h0;have a0':=U hb1 a0;have a1':=U hb1 a1;have a2':=U hb1 a2;have a3':=U hb1 a3;have a4':=U hb1 a4;have a5':=U hb1 a5;have b':=U hb1 hb
  go_wp2_with fail
  refine(HW _).mono ?_;rintro e w2 ⟨rfl,hb2⟩;have hB:=zT hb1 hb2;have c':=U hB hc;have z':=ybh hB hc hz
  go_wp2_with fail
  go_end0
  refine⟨by rw[HG.out,zI],(hB.mono (L HLT.out)).setCell (T c) _,?_,?_⟩
  ·rw[HE.out]
   exact G _ _ _ c'
  ·intro k hk hkl
   have e1:∀v,(w2.setCell ⟨c,0,J⟩ v).frozen? ⟨k,0,J⟩=w2.frozen? ⟨k,0,J⟩:=fun v=>by simp[go_sem]
   have e2:∀v,(w2.setCell ⟨c,0,J⟩ v).cell? ⟨k,0,J⟩=w2.cell? ⟨k,0,J⟩:=fun v=>Y _ _ _ _ (fun e=>hk (by cases e;rfl));exact⟨(e2 _).trans (hB.cell hkl),(e1 _).trans (hB.frozen hkl)⟩
 ·rw[zw h0]
  go_wp2_with fail
  refine⟨rfl,(zw h0).symm,hb1.mono (L HLT.out),?_,?_⟩
  ·rw[Pg.enc,if_neg h0]
   exact U hb1 hc
  ·intro k hk hkl
   exact⟨hb1.cell hkl,hb1.frozen hkl⟩
theorem yal (t l:Bool) (r:Int) (u d:Bool) (f lv:Int) (w:Q):
 O C 168 #[X #[I t,I l,B P r,I u,I d,B P f],B P lv] w fun e w'=>e=V (H #[B E (Pg.enc t l r u d f lv),B P (Pg.ygu t l r u d f lv)])/\Below w.heap.size w w':=by
 have hmf:∀(fn:Fn) (first cap:Array y) (w:Q),(Instr.makeFunc fn first cap).run C w= .ok (.func fn first cap) w:=fun _ _ _ _=>rfl
 go_enter Tryz.func168,Tryz.ntmps168
 go_wp2_with fail
 refine(jB 198 _ (Pg.ygu t l r u d f lv) (fun w'=>Below w.heap.size w w'/\w'.cell? ⟨w.heap.size+1+1,0,J⟩=N (B E (Pg.enc t l r u d f lv))) _ ?_ ?_).mono ?_
 ·intro w
  simp[go_sem]
 ·refine(vO t l r u d f lv w.heap.size (w.heap.size+1) (w.heap.size+1+1) _ ?_ ?_ ?_ ?_).mono ?_
  ·simp[go_sem]
  ·simp[go_sem]
  ·simp[go_sem]
  ·simp[go_sem]
  ·rintro e w1 ⟨rfl,hb1,hc1,hk⟩
   obtain⟨k1,k2⟩:=hk (w.heap.size+1+1+1) (by omega) (by simp);refine⟨rfl,⟨?_,hc1⟩,?_,?_⟩
   ·exact(zA (zA (zA (zA (zR w) _) _) _) _).trans (hb1.mono (by omega))
   ·have:((((w.alloc (K #[I t,I l,B P r,I u,I d,B P f] 70)).alloc (K #[B P lv] 3)).alloc (K #[B E 0] 64)).heap.size)=w.heap.size+1+1+1:=by simp
    rw[this,k1];simp[go_sem]
   ·have:((((w.alloc (K #[I t,I l,B P r,I u,I d,B P f] 70)).alloc (K #[B P lv] 3)).alloc (K #[B E 0] 64)).heap.size)=w.heap.size+1+1+1:=by simp
    rw[this,k2];simp[go_sem]
 ·rintro e w2 ⟨rfl,w1,⟨hb1,hc1⟩,hb2⟩
  have hc2:w2.cell? ⟨w.heap.size+1+1,0,J⟩=N (B E (Pg.enc t l r u d f lv)):=(hb2.cell (p:=⟨w.heap.size+1+1,0,J⟩) (by simp)).trans hc1;have HB:D (Below w.heap.size w w2):=hb1.trans (hb2.mono (by simp;omega));clear hb1 hb2 hc1
  go_wp2_with fail
  go_ret2
  exact⟨rfl,HB.out⟩
theorem ycD {w:Q} {c:Nat} {u0 u1 u2 u3 u4 u5 v0 v1 v2 v3 v4 v5:y} (h:w.cell? ⟨c,0,J⟩=N u0/\w.cell? ⟨c,1,J⟩=N u1/\w.cell? ⟨c,2,J⟩=N u2/\w.cell? ⟨c,3,J⟩=N u3/\w.cell? ⟨c,4,J⟩=N u4/\w.cell? ⟨c,5,J⟩=N u5):
 (((((((w.setCell ⟨c,0,J⟩ v0).setCell ⟨c,1,J⟩ v1).setCell ⟨c,2,J⟩ v2).setCell ⟨c,3,J⟩ v3).setCell ⟨c,4,J⟩ v4).setCell ⟨c,5,J⟩ v5).cell? ⟨c,0,J⟩=N v0/\((((((w.setCell ⟨c,0,J⟩ v0).setCell ⟨c,1,J⟩ v1).setCell ⟨c,2,J⟩ v2).setCell ⟨c,3,J⟩ v3).setCell ⟨c,4,J⟩ v4).setCell ⟨c,5,J⟩ v5).cell? ⟨c,1,J⟩=N v1/\((((((w.setCell ⟨c,0,J⟩ v0).setCell ⟨c,1,J⟩ v1).setCell ⟨c,2,J⟩ v2).setCell ⟨c,3,J⟩ v3).setCell ⟨c,4,J⟩ v4).setCell ⟨c,5,J⟩ v5).cell? ⟨c,2,J⟩=N v2/\((((((w.setCell ⟨c,0,J⟩ v0).setCell ⟨c,1,J⟩ v1).setCell ⟨c,2,J⟩ v2).setCell ⟨c,3,J⟩ v3).setCell ⟨c,4,J⟩ v4).setCell ⟨c,5,J⟩ v5).cell? ⟨c,3,J⟩=N v3/\((((((w.setCell ⟨c,0,J⟩ v0).setCell ⟨c,1,J⟩ v1).setCell ⟨c,2,J⟩ v2).setCell ⟨c,3,J⟩ v3).setCell ⟨c,4,J⟩ v4).setCell ⟨c,5,J⟩ v5).cell? ⟨c,4,J⟩=N v4/\((((((w.setCell ⟨c,0,J⟩ v0).setCell ⟨c,1,J⟩ v1).setCell ⟨c,2,J⟩ v2).setCell ⟨c,3,J⟩ v3).setCell ⟨c,4,J⟩ v4).setCell ⟨c,5,J⟩ v5).cell? ⟨c,5,J⟩=N v5)/\
 (∀k,k≠c->((((((w.setCell ⟨c,0,J⟩ v0).setCell ⟨c,1,J⟩ v1).setCell ⟨c,2,J⟩ v2).setCell ⟨c,3,J⟩ v3).setCell ⟨c,4,J⟩ v4).setCell ⟨c,5,J⟩ v5).cell? ⟨k,0,J⟩=w.cell? ⟨k,0,J⟩)/\
 (∀k,((((((w.setCell ⟨c,0,J⟩ v0).setCell ⟨c,1,J⟩ v1).setCell ⟨c,2,J⟩ v2).setCell ⟨c,3,J⟩ v3).setCell ⟨c,4,J⟩ v4).setCell ⟨c,5,J⟩ v5).frozen? ⟨k,0,J⟩=w.frozen? ⟨k,0,J⟩):=by
 refine⟨by simp[go_sem,h],fun k hk=> ?_,fun k=>by simp[go_sem]⟩;have hn:∀o,(⟨c,o,J⟩:Addr)≠⟨k,0,J⟩:=fun o e=>hk (by cases e;rfl);rw[Y _ _ _ _ (hn _),Y _ _ _ _ (hn _),Y _ _ _ _ (hn _),Y _ _ _ _ (hn _),Y _ _ _ _ (hn _),Y _ _ _ _ (hn _)]
theorem vM (W lv:Int) (h0:0<=W) (h1:W<18446744073709551616) (a b c:Nat) (w:Q)
 (ha:w.cell? ⟨a,0,J⟩=N (B E W)) (hb:w.cell? ⟨b,0,J⟩=N (B P lv))
 (hc:w.cell? ⟨c,0,J⟩=N (I S)/\w.cell? ⟨c,1,J⟩=N (I S)/\w.cell? ⟨c,2,J⟩=N (B P 0)/\w.cell? ⟨c,3,J⟩=N (I S)/\w.cell? ⟨c,4,J⟩=N (I S)/\w.cell? ⟨c,5,J⟩=N (B P 0))
 (hz:∀o,w.frozen? ⟨c,o,J⟩=S):
 O C 227 #[M (N ⟨a,0,J⟩),M (N ⟨b,0,J⟩),M (N ⟨c,0,J⟩)] w fun e w'=>
  e=give (Pg.ygz W lv)/\Below c w w'/\(w'.cell? ⟨c,0,J⟩=N (I (Pg.ygD W lv))/\w'.cell? ⟨c,1,J⟩=N (I (Pg.xL W lv))/\w'.cell? ⟨c,2,J⟩=N (B P (Pg.xR W lv))/\w'.cell? ⟨c,3,J⟩=N (I (Pg.xU W lv))/\w'.cell? ⟨c,4,J⟩=N (I (Pg.xD W lv))/\w'.cell? ⟨c,5,J⟩=N (B P (Pg.xF W lv)))/\
  ∀k,k≠c->k<w.heap.size->w'.cell? ⟨k,0,J⟩=w.cell? ⟨k,0,J⟩/\w'.frozen? ⟨k,0,J⟩=w.frozen? ⟨k,0,J⟩:=by
 have hlt:c<w.heap.size:=A _ _ hc.1;have HLT:D _:=hlt;clear hlt;have HM:=vQ W lv h0 h1
 by_cases hm:(if lv<0\/3<lv then(1:Int)else if Pg.wBad W lv=F then 7 else 0)=0
 ·rw[hm,zI]at HM
  have hl:¬(lv<0\/3<lv):=by
   intro h;rw[if_pos h]at hm;exact absurd hm (by decide)
  rw[if_neg hl]at hm
  have hw:Pg.wBad W lv=S:=by
   cases h:Pg.wBad W lv
   ·rfl
   ·rw[h]at hm;exact absurd hm (by decide)
  clear hm
  by_cases hz0:W=0
  ·subst hz0
   have hd:Pg.ygz 0 lv=0:=by simp[Pg.ygz,hl,hw]
   have hg:Pg.ygD 0 lv=S:=by simp[Pg.ygD]
   have HF:D (Pg.ygu S S 0 S S 0 lv=0):=Pg.yhM (by omega) (by omega)
   have HX:D (Pg.ygD 0 lv=S/\Pg.xL 0 lv=S/\Pg.xR 0 lv=0/\Pg.xU 0 lv=S/\Pg.xD 0 lv=S/\Pg.xF 0 lv=0):=by
    show _/\_
    simp[Pg.xL,Pg.xR,Pg.xU,Pg.xD,Pg.xF,hg]
   have HD:D (Pg.ygz 0 lv=0):=hd;clear hd hg hl hw
   go_enter Tryz.func227,Tryz.ntmps227
   go_wp2_with fail
   refine(HM _).mono ?_;rintro e w1 ⟨rfl,rfl⟩
   go_wp2_with fail
   refine(ydW _ _).mono ?_;rintro e w2 ⟨rfl,hb2⟩;have b2:∀o,(w2.alloc o).cell? ⟨b,0,J⟩=N (B P lv):=fun o=>U (zA hb2 o) hb;have cc2:=zQ hb2 hc
   go_wp2_with fail
   refine(xT _ _ _ _ _ _ _ _).mono ?_;rintro e w3 ⟨rfl,hb3⟩;have hB3:=zT (zA hb2 _) hb3;obtain⟨hc3,hf3⟩:=xE hb3;obtain⟨c0,c1,c2,c3,c4,c5⟩:=zQ hB3 hc;have z3:∀o,w3.frozen? ⟨c,o,J⟩=S:=fun o=>(hB3.frozen (p:=⟨c,o,J⟩) HLT.out).trans (hz o);rw[HF.out,zI]
   go_wp2_with fail
   go_end0
   obtain⟨s1,s2,s3⟩:=ycD (v0:=I S) (v1:=I S) (v2:=B P 0) (v3:=I S) (v4:=I S) (v5:=B P 0) ⟨c0,c1,c2,c3,c4,c5⟩;obtain⟨x0,x1,x2,x3,x4,x5⟩:=HX.out;rw[HD.out,x0,x1,x2,x3,x4,x5];refine⟨rfl,((((((hB3.mono (L HLT.out)).setCell (T c) _).setCell (T c) _).setCell (T c) _).setCell (T c) _).setCell (T c) _).setCell (T c) _,s1,?_⟩;intro k hk hkl;exact⟨(s2 k hk).trans (hB3.cell hkl),(s3 k).trans (hB3.frozen hkl)⟩
  ·have hw':W%2=1/\W<4294967296:=by
    simp only[Pg.wBad,decide_eq_false_iff_not]at hw;omega
   have HD:D (Pg.ygz W lv=Pg.ygu F (Pg.ygP W lv) (W/2%8) (Pg.ygN W) (Pg.ygC W) (W/4096) lv):=by
    show Pg.ygz W lv=_
    rw[Pg.ygz,if_neg hl,if_neg (by rw[hw];decide),if_neg hz0]
   have HZ:D (W≠0):=hz0;have HR:=yeJ W lv h0 hw'.2 hw'.1;clear hl hw hw' hz0
   go_enter Tryz.func227,Tryz.ntmps227
   go_wp2_with fail
   refine(HM _).mono ?_;rintro e w1 ⟨rfl,rfl⟩
   go_wp2_with fail
   refine(HR _).mono ?_;rintro e w2 ⟨rfl,hb2⟩;have b2:∀o,(w2.alloc o).cell? ⟨b,0,J⟩=N (B P lv):=fun o=>U (zA hb2 o) hb;have cc2:=zQ hb2 hc
   go_wp2_with fail
   refine(xT _ _ _ _ _ _ _ _).mono ?_;rintro e w3 ⟨rfl,hb3⟩;have hB3:=zT (zA hb2 _) hb3;obtain⟨hc3,hf3⟩:=xE hb3;obtain⟨c0,c1,c2,c3,c4,c5⟩:=zQ hB3 hc;have z3:∀o,w3.frozen? ⟨c,o,J⟩=S:=fun o=>(hB3.frozen (p:=⟨c,o,J⟩) HLT.out).trans (hz o);rw[<-HD.out]
   by_cases hd:Pg.ygz W lv=0
   ·have hg:Pg.ygD W lv=F:=by simp[Pg.ygD,hd,HZ.out]
    have HX:D (Pg.ygD W lv=F/\Pg.xL W lv=Pg.ygP W lv/\Pg.xR W lv=W/2%8/\Pg.xU W lv=Pg.ygN W/\Pg.xD W lv=Pg.ygC W/\Pg.xF W lv=W/4096):=by
     show _/\_
     simp[Pg.xL,Pg.xR,Pg.xU,Pg.xD,Pg.xF,hg]
    rw[hd,zI];have HD0:D _:=hd;clear hd hg
    go_wp2_with fail
    go_end0
    obtain⟨s1,s2,s3⟩:=ycD (v0:=I F) (v1:=I (Pg.ygP W lv)) (v2:=B P (W/2%8)) (v3:=I (Pg.ygN W)) (v4:=I (Pg.ygC W)) (v5:=B P (W/4096)) ⟨c0,c1,c2,c3,c4,c5⟩;obtain⟨x0,x1,x2,x3,x4,x5⟩:=HX.out;rw[HD0.out,x0,x1,x2,x3,x4,x5];refine⟨rfl,((((((hB3.mono (L HLT.out)).setCell (T c) _).setCell (T c) _).setCell (T c) _).setCell (T c) _).setCell (T c) _).setCell (T c) _,s1,?_⟩;intro k hk hkl;exact⟨(s2 k hk).trans (hB3.cell hkl),(s3 k).trans (hB3.frozen hkl)⟩
   ·have hg:Pg.ygD W lv=S:=by simp[Pg.ygD,hd]
    rw[zw hd]
    go_wp2_with fail
    refine⟨rfl,(zw hd).symm,hB3.mono (L HLT.out),?_,fun k _ hkl=>⟨hB3.cell hkl,hB3.frozen hkl⟩⟩;simp[Pg.xL,Pg.xR,Pg.xU,Pg.xD,Pg.xF,hg,c0,c1,c2,c3,c4,c5]
 ·have HC:D (Pg.ygz W lv=if lv<0\/3<lv then(1:Int)else if Pg.wBad W lv=F then 7 else 0):=by
   show Pg.ygz W lv=_
   unfold Pg.ygz;split
   ·rfl
   ·rename_i hl
    rw[if_neg hl]at hm;split
    ·rfl
    ·rename_i hb
     rw[if_neg hb]at hm;exact absurd rfl hm
  generalize (if lv<0\/3<lv then(1:Int)else if Pg.wBad W lv=F then 7 else 0)=g at hm HM HC
  go_enter Tryz.func227,Tryz.ntmps227
  go_wp2_with fail
  refine(HM _).mono ?_;rintro e w1 ⟨rfl,rfl⟩
  have hg:Pg.ygD W lv=S:=by simp[Pg.ygD,HC.out,hm]
  rw[zw hm]
  go_wp2_with fail
  refine⟨rfl,by rw[HC.out,zw hm],Below.refl _ _,?_,fun k _ _=>⟨rfl,rfl⟩⟩
  simpa[Pg.xL,Pg.xR,Pg.xU,Pg.xD,Pg.xF,hg]using hc
theorem jD (W lv:Int) (h0:0<=W) (h1:W<18446744073709551616) (w:Q):
 O C 204 #[B E W,B P lv] w fun e w'=>e=V (Pg.decV W lv)/\Below w.heap.size w w':=by
 have hv:Pg.decV W lv=H #[X #[I (Pg.ygD W lv),I (Pg.xL W lv),B P (Pg.xR W lv),I (Pg.xU W lv),I (Pg.xD W lv),B P (Pg.xF W lv)],B P (Pg.ygz W lv)]:=rfl;have HV:D _:=hv;clear hv;have hmf:∀(fn:Fn) (first cap:Array y) (w:Q),(Instr.makeFunc fn first cap).run C w= .ok (.func fn first cap) w:=fun _ _ _ _=>rfl
 go_enter Tryz.func204,Tryz.ntmps204
 go_wp2_with fail
 refine(jB 227 _ (Pg.ygz W lv) (fun w'=>Below (w.heap.size+1+1+1) ((((w.alloc (K #[B E W] 64)).alloc (K #[B P lv] 3)).alloc (K #[I S,I S,B P 0,I S,I S,B P 0] 70)).alloc (K #[I S,I S,B P 0,I S,I S,B P 0] 70)) w'/\
  (w'.cell? ⟨w.heap.size+1+1+1,0,J⟩=N (I (Pg.ygD W lv))/\w'.cell? ⟨w.heap.size+1+1+1,1,J⟩=N (I (Pg.xL W lv))/\w'.cell? ⟨w.heap.size+1+1+1,2,J⟩=N (B P (Pg.xR W lv))/\w'.cell? ⟨w.heap.size+1+1+1,3,J⟩=N (I (Pg.xU W lv))/\w'.cell? ⟨w.heap.size+1+1+1,4,J⟩=N (I (Pg.xD W lv))/\w'.cell? ⟨w.heap.size+1+1+1,5,J⟩=N (B P (Pg.xF W lv)))) _ ?_ ?_).mono ?_
 ·intro w
  simp[go_sem]
 ·refine(vM W lv h0 h1 w.heap.size (w.heap.size+1) (w.heap.size+1+1+1) _ ?_ ?_ ?_ ?_).mono ?_
  ·simp[go_sem]
  ·simp[go_sem]
  ·simp[go_sem]
  ·intro o
   simp[go_sem]
  ·rintro e w1 ⟨rfl,hb1,hc1,hk⟩
   obtain⟨k1,k2⟩:=hk (w.heap.size+1+1+1+1) (by omega) (by simp)
   have hs:((((w.alloc (K #[B E W] 64)).alloc (K #[B P lv] 3)).alloc (K #[I S,I S,B P 0,I S,I S,B P 0] 70)).alloc (K #[I S,I S,B P 0,I S,I S,B P 0] 70)).heap.size=w.heap.size+1+1+1+1:=by simp
   refine⟨rfl,⟨?_,hc1⟩,?_,?_⟩
   ·exact((Below.refl _ _).alloc (by simp) _).trans hb1
   ·rw[hs,k1]
    simp[go_sem]
   ·rw[hs,k2]
    simp[go_sem]
 ·rintro e w2 ⟨rfl,w1,⟨hb1,hc1⟩,hb2⟩
  have hc2:∀o,w2.cell? ⟨w.heap.size+1+1+1,o,J⟩=w1.cell? ⟨w.heap.size+1+1+1,o,J⟩:=fun o=>hb2.cell (p:=⟨w.heap.size+1+1+1,o,J⟩) (by simp);obtain⟨x0,x1,x2,x3,x4,x5⟩:=hc1;have y0:=(hc2 0).trans x0;have y1:=(hc2 1).trans x1;have y2:=(hc2 2).trans x2;have y3:=(hc2 3).trans x3;have y4:=(hc2 4).trans x4;have y5:=(hc2 5).trans x5;clear x0 x1 x2 x3 x4 x5 hc2;have hB2:=hb1.trans (hb2.mono (by simp));have r0:∀o,w2.cell? ⟨w.heap.size+1+1,o,J⟩=_:=fun o=>hB2.cell (p:=⟨w.heap.size+1+1,o,J⟩) (by simp);have f0:∀o,w2.frozen? ⟨w.heap.size+1+1,o,J⟩=_:=fun o=>hB2.frozen (p:=⟨w.heap.size+1+1,o,J⟩) (by simp);have HB:D _:=hB2;clear hb1 hb2 hB2
  go_wp2_with fail
  rw[HV.out];refine Z (v:=H #[X #[I (Pg.ygD W lv),I (Pg.xL W lv),B P (Pg.xR W lv),I (Pg.xU W lv),I (Pg.xD W lv),B P (Pg.xF W lv)],B P (Pg.ygz W lv)]) ?_ rfl ⟨rfl,?_⟩
  ·simp[results,Tryz.results204,go_sem,r0]
  ·have hA:=zA (zA (zA (zA (zR w) (K #[B E W] 64)) (K #[B P lv] 3)) (K #[I S,I S,B P 0,I S,I S,B P 0] 70)) (K #[I S,I S,B P 0,I S,I S,B P 0] 70)
   exact((((((hA.trans (HB.out.mono (by omega))).setCell (by simp;omega) _).setCell (by simp;omega) _).setCell (by simp;omega) _).setCell (by simp;omega) _).setCell (by simp;omega) _).setCell (by simp;omega) _
end Go.Proofs.YtdphiompijbelaaGreat
