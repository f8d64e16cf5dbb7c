import Derived.Test.YtkhnelgommaioaaGreatPageB
import Derived.Test.YtkhnelgommaioaaGreatPlainF
import Derived.Defers
import Derived.Recover
namespace Go.Proofs.YtkhnelgommaioaaGreat
open Go.RowKit Go.Sort
set_option linter.unusedVariables false
def give (c:Int):Ending:=if c=0 then .returned (.tuple #[])else .panicked [{v:= .iface 274 (.agg #[.int .i64 c]),recovered:=false}]
theorem give_zero:give 0= .returned (.tuple #[]):=rfl
theorem give_code {c:Int} (h:c≠0):give c= .panicked [{v:= .iface 274 (.agg #[.int .i64 c]),recovered:=false}]:=if_neg h
theorem giveUpIf_no (c:Int) (w:World):
 Calls Tryz.prog 225 #[.bool false,.int .i64 c] w fun e w'=>e= .returned (.tuple #[])/\w'=w:=by
 go_enter Tryz.func225,Tryz.ntmps225
 go_wp2
 go_end0
 exact⟨rfl,rfl⟩
theorem giveUpIf_yes (c:Int) (w:World):
 Calls Tryz.prog 225 #[.bool true,.int .i64 c] w fun e w'=>e= .panicked [{v:= .iface 274 (.agg #[.int .i64 c]),recovered:=false}]/\w'=w:=by
 go_enter Tryz.func225,Tryz.ntmps225
 go_wp2
 exact⟨rfl,rfl,rfl⟩
theorem giveUpIf_any (so:Bool) (c:Int) (w:World):
 Calls Tryz.prog 225 #[.bool so,.int .i64 c] w fun e w'=>e=(bif so then .panicked [{v:= .iface 274 (.agg #[.int .i64 c]),recovered:=false}]else .returned (.tuple #[]))/\w'=w:=by
 cases so
 ·exact giveUpIf_no c w
 ·exact giveUpIf_yes c w
theorem catch_tmps (p:Addr) (v:Value):#[Value.pointer (some p)]++((Array.replicate 16 undef).setIfInBounds 3 v).setIfInBounds 0 v=#[.pointer (some p),v,undef,undef,v,undef,undef,undef,undef,undef,undef,undef,undef,undef,undef,undef,undef]:=rfl
theorem catch_idle (p:Addr) (w:World):
 CallsD Tryz.prog 223 #[.pointer (some p)] .returning w fun e u' w'=>e= .returned (.tuple #[])/\u'= .returning/\w'=w:=by
 refine callsD_of_wpS Tryz.func223 rfl fun c₀ cs hu=> ?_
 apply wpS_seq
 apply wpS_region
 simp[wpOpsS,go_sem,recoverD,hu,Tryz.ntmps223,Exit.thenS]
 refine wpS_of_wp ?_
 rw[catch_tmps]
 go_wp2
 cases c₀
 simp_all[bodyPostS,results,Tryz.results223]
theorem catch_up (p:Addr) (c:Int) (w:World) (hc:w.cell? p=some (.int .i64 0)) (hz:w.frozen? p=false):
 CallsD Tryz.prog 223 #[.pointer (some p)] (.panicking [{v:= .iface 274 (.agg #[.int .i64 c]),recovered:=false}]) w fun e u' w'=>
  e= .returned (.tuple #[])/\u'= .panicking [{v:= .iface 274 (.agg #[.int .i64 c]),recovered:=true}]/\w'.cell? p=some (.int .i64 c)/\Below p.block w w':=by
 have hta:∀(v:Value) (w:World),(Instr.typeAssert (.iface 274 v) 20 274 true).run Tryz.prog w= .ok (.tuple #[v,.bool true]) w:=fun _ _=>by kernel_rfl
 have hlt:p.block<w.heap.size:=World.block_lt_of_cell? _ _ hc
 have hz2:∀o,(w.alloc o).frozen? p=false:=fun o=>((zA (zR w) o).frozen hlt).trans hz
 have hc2:∀o,(w.alloc o).cell? p=some (.int .i64 0):=fun o=>((zA (zR w) o).cell hlt).trans hc
 refine callsD_of_wpS Tryz.func223 rfl fun c₀ cs hu=> ?_
 apply wpS_seq
 apply wpS_region
 simp[wpOpsS,go_sem,recoverD,hu,Tryz.ntmps223,Exit.thenS]
 refine wpS_of_wp ?_
 rw[catch_tmps]
 go_wp2
 refine⟨rfl,_,rfl,.tuple #[],by simp[results,Tryz.results223],rfl,rfl,World.cell?_setCell_same _ _ _ (hc2 _),((Below.refl p.block w).alloc (by omega) _).setCell (Nat.le_refl _) _⟩
theorem caught_any (f:FuncId) (caps:Array Value) (c:Int) (R:World->Prop) (w:World)
 (hf:∀w,(callFunc f caps).run Tryz.prog w= .ok (.enter f caps) w) (h:Calls Tryz.prog f caps (w.alloc (.cells #[.int .i64 0] 3)) fun e w'=>e=give c/\R w'/\w'.cell? ⟨w.heap.size,0,none⟩=some (.int .i64 0)/\w'.frozen? ⟨w.heap.size,0,none⟩=false):
 Calls Tryz.prog 198 #[.func (.func f) #[] caps] w fun e w'=>e= .returned (.int .i64 c)/\∃w1,R w1/\Below w.heap.size w1 w':=by
 have hmf:∀(fn:Fn) (first cap:Array Value) (w:World),(Instr.makeFunc fn first cap).run Tryz.prog w= .ok (.func fn first cap) w:=fun _ _ _ _=>rfl
 go_enter_defers Tryz.func198,Tryz.ntmps198
 go_wp2_with fail
 refine h.mono ?_
 rintro e w1 ⟨rfl,hR,hc,hz⟩
 by_cases h0:c=0
 ·rw[h0,give_zero]
  go_wp2_with fail
  refine leaves_cons (f:=223) (args:=#[.pointer (some ⟨w.heap.size,0,none⟩)]) (by simp) (by simp[go_sem]) ?_
  refine(catch_idle ⟨w.heap.size,0,none⟩ _).mono ?_
  rintro e u' w'' ⟨rfl,rfl,rfl⟩
  simp[Leaves,settle,results,Tryz.results198,go_sem,hc]
  exact⟨h0.symm,w1,hR,(Below.refl w.heap.size w1).setCell (p:=⟨w.heap.size,0,none⟩) (Nat.le_refl _) _⟩
 ·rw[give_code h0]
  go_wp2_with fail
  refine leaves_cons (f:=223) (args:=#[.pointer (some ⟨w.heap.size,0,none⟩)]) (by simp) (by simp[go_sem]) ?_
  refine(catch_up ⟨w.heap.size,0,none⟩ c _ hc hz).mono ?_
  rintro e u' w'' ⟨rfl,rfl,hc',hb⟩
  simp[Leaves,settle,results,Tryz.results198,go_sem,hc']
  exact⟨w1,hR,hb⟩
theorem mustBeLevel_yes (lv:Int) (h:lv<0\/3<lv) (w:World):
 Calls Tryz.prog 224 #[.int .i64 lv] w fun e w'=>e= .panicked [{v:= .iface 274 (.agg #[.int .i64 1]),recovered:=false}]/\w'=w:=by
 rcases h with h|h
 all_goals
  go_enter Tryz.func224,Tryz.ntmps224
  go_wp2_with (go_at_call 225;refine(giveUpIf_yes _ _).mono ?_;rintro e w' ⟨rfl,rfl⟩)
  exact⟨rfl,rfl,rfl⟩
theorem mustBeLevel_no (lv:Int) (h:0<=lv) (h':lv<=3) (w:World):
 Calls Tryz.prog 224 #[.int .i64 lv] w fun e w'=>e= .returned (.tuple #[])/\w'=w:=by
 have d1:decide (lv<0)=false:=by simpa using h
 have d2:decide (3<lv)=false:=by simpa using h'
 clear h h'
 go_enter Tryz.func224,Tryz.ntmps224
 go_wp2_with (go_at_call 225;refine(giveUpIf_no _ _).mono ?_;rintro e w' ⟨rfl,rfl⟩)
 go_end0
 exact⟨rfl,rfl⟩
theorem mapping_any (t l:Bool) (r:Int) (u d:Bool) (f lv:Int) (w:World):
 Calls Tryz.prog 188 #[.agg #[.bool t,.bool l,.int .i64 r,.bool u,.bool d,.int .i64 f],.int .i64 lv] w fun e w'=>e= .returned (.agg #[.int .i64 0,.int .i64 lv,.int .i64 f,.int .i64 r])/\Below w.heap.size w w':=by
 go_enter Tryz.func188,Tryz.ntmps188
 go_wp2_with fail
 refine bodyPost_ret (v:= .agg #[.int .i64 0,.int .i64 lv,.int .i64 f,.int .i64 r]) ?_ rfl ⟨rfl,?_⟩
 ·simp[results,Tryz.results188,go_sem]
 ·exact zA (zA (zR _) _) _
theorem written_any (t l:Bool) (r:Int) (u d:Bool) (f lv:Int) (h:Pg.eFault t l r u d f lv=0) (w:World):
 Calls Tryz.prog 201 #[.agg #[.bool t,.bool l,.int .i64 r,.bool u,.bool d,.int .i64 f],.int .i64 lv] w fun e w'=>e= .returned (.int .u64 (Pg.eWord t l r u d f lv))/\Below w.heap.size w w':=by
 obtain⟨⟨l0,l3⟩,hc⟩:=Pg.fault_zero h
 clear h
 rcases hc with ⟨rfl,rfl,rfl,rfl,rfl,rfl⟩|⟨rfl,r0,r1,f0,f1,hc⟩
 ·go_enter Tryz.func201,Tryz.ntmps201
  go_wp2_with fail
  go_ret
  exact⟨rfl,zA (zR _) _⟩
 ·clear hc
  have HO:Hid _:=Pg.word_or r f r0 r1 f0 f1
  cases u<;>cases d<;>cases l
  all_goals
   go_enter Tryz.func201,Tryz.ntmps201
   go_wp2_with fail
  all_goals
   go_ret
   refine⟨ret_int ?_,zA (zR _) _⟩
   obtain⟨o1,o2,o3,o4,o5,o6,o7,o8⟩:=HO.out
   simp only[o1,o2,o3,o4,o5,o6,o7,o8]
   simp_all[Pg.eWord,Pg.b01]<;>omega
theorem read_any (W lv:Int) (h0:0<=W) (h1:W<4294967296) (h2:W%2=1) (w:World):
 Calls Tryz.prog 230 #[.int .u64 W,.int .i64 lv] w fun e w'=>e= .returned (.agg #[.bool true,.bool (Pg.dLeaf W lv),.int .i64 (W/2%8),.bool (Pg.dUsed W),.bool (Pg.dDirty W),.int .i64 (W/4096)])/\Below w.heap.size w w':=by
 have h1':W<18446744073709551616:=by omega
 have b0:(bits .and .u64 W 1==0)=false:=by rw[Pg.and1 W h0 h1',h2];rfl
 have b5:(bits .and .u64 W 32 !=0)=Pg.dUsed W:=by rw[Pg.and32 W h0 h1',Bool.eq_iff_iff];simp[Pg.dUsed];omega
 have b6:(bits .and .u64 W 64 !=0)=Pg.dDirty W:=by rw[Pg.and64 W h0 h1',Bool.eq_iff_iff];simp[Pg.dDirty];omega
 have b1:wrap64 (bits .and .u64 W 14/2)=W/2%8:=by
  rw[Pg.and14 W h0 h1',wrap64]
  omega
 have bF:wrap64 (bits .and .u64 W 4294963200/4096)=W/4096:=by
  rw[Pg.andF W h0 h1',wrap64]
  omega
 by_cases h7:W/128%2=1
 ·have b7:(bits .and .u64 W 128 !=0)=true:=by rw[Pg.and128 W h0 h1',h7];rfl
  have HL:Hid (Pg.dLeaf W lv=true):=by simp[Hid,Pg.dLeaf,h7]
  clear h7 h2
  go_enter Tryz.func230,Tryz.ntmps230
  go_wp2_with fail
  refine bodyPost_ret (v:= .agg #[.bool true,.bool true,.int .i64 (W/2%8),.bool (Pg.dUsed W),.bool (Pg.dDirty W),.int .i64 (W/4096)]) ?_ rfl ⟨by rw[HL.out],?_⟩
  ·simp[results,Tryz.results230,go_sem]
  ·exact zA (zR _) _
 ·have b7:(bits .and .u64 W 128 !=0)=false:=by
   have:W/128%2=0:=by omega
   rw[Pg.and128 W h0 h1',this];rfl
  have HL:Hid (Pg.dLeaf W lv=(lv==0)):=by
   simp only[Hid,Pg.dLeaf,h7,decide_false,Bool.or_false];rfl
  clear h7 h2
  go_enter Tryz.func230,Tryz.ntmps230
  go_wp2_with fail
  refine bodyPost_ret (v:= .agg #[.bool true,.bool (lv==0),.int .i64 (W/2%8),.bool (Pg.dUsed W),.bool (Pg.dDirty W),.int .i64 (W/4096)]) ?_ rfl ⟨by rw[HL.out],?_⟩
  ·simp[results,Tryz.results230,go_sem]
  ·exact zA (zR _) _
theorem read_none (lv:Int) (w:World):
 Calls Tryz.prog 230 #[.int .u64 0,.int .i64 lv] w fun e w'=>e= .returned (.agg #[.bool false,.bool false,.int .i64 0,.bool false,.bool false,.int .i64 0])/\Below w.heap.size w w':=by
 have b0:(bits .and .u64 0 1==0)=true:=by decide
 go_enter Tryz.func230,Tryz.ntmps230
 go_wp2_with fail
 refine bodyPost_ret (v:= .agg #[.bool false,.bool false,.int .i64 0,.bool false,.bool false,.int .i64 0]) ?_ rfl ⟨rfl,?_⟩
 ·simp[results,Tryz.results230,go_sem]
 ·exact zA (zR _) _
set_option maxHeartbeats 1000000 in
theorem mustBeWord_any (W lv:Int) (h0:0<=W) (h1:W<18446744073709551616) (w:World):
 Calls Tryz.prog 229 #[.int .u64 W,.int .i64 lv] w fun e w'=>e=give (if lv<0\/3<lv then 1 else if Pg.wBad W lv=true then 7 else 0)/\w'=w:=by
 by_cases hl:lv<0\/3<lv
 ·rw[if_pos hl]
  go_enter Tryz.func229,Tryz.ntmps229
  go_wp2_with (go_at_call 224;refine(mustBeLevel_yes _ hl _).mono ?_;rintro e w' ⟨rfl,rfl⟩)
  exact⟨rfl,rfl,rfl⟩
 ·rw[if_neg hl]
  have l0:0<=lv:=by omega
  have l3:lv<=3:=by omega
  clear hl
  have hw:=Pg.wBad_eq W lv h0 h1
  have HW:Hid _:=hw
  clear hw
  generalize hg:(if Pg.wBad W lv=true then(7:Int)else 0)=g
  have HG:Hid _:=hg
  clear hg
  cases c1:(bits .andNot .u64 W 4294963439 !=0)
  ·cases c2:(bits .and .u64 W 1==0)
   ·cases c4:(bits .and .u64 W 128 !=0)
    ·go_enter Tryz.func229,Tryz.ntmps229
     go_wp2_with (first
      | (go_at_call 224;refine(mustBeLevel_no _ l0 l3 _).mono ?_;rintro e w' ⟨rfl,rfl⟩)
      | (go_at_call 225;refine(giveUpIf_any _ _ _).mono ?_;rintro e w' ⟨rfl,rfl⟩;simp only[cond]))
     go_end0
     exact⟨by rw[<-HG.out,HW.out,c1,c2,c4];rfl,rfl⟩
    ·cases c5:(lv==0)
     ·go_enter Tryz.func229,Tryz.ntmps229
      go_wp2_with (first
       | (go_at_call 224;refine(mustBeLevel_no _ l0 l3 _).mono ?_;rintro e w' ⟨rfl,rfl⟩)
       | (go_at_call 225;refine(giveUpIf_any _ _ _).mono ?_;rintro e w' ⟨rfl,rfl⟩;simp only[cond]))
      go_end0
      exact⟨by rw[<-HG.out,HW.out,c1,c2,c4,c5];rfl,rfl⟩
     ·go_enter Tryz.func229,Tryz.ntmps229
      go_wp2_with (first
       | (go_at_call 224;refine(mustBeLevel_no _ l0 l3 _).mono ?_;rintro e w' ⟨rfl,rfl⟩)
       | (go_at_call 225;refine(giveUpIf_any _ _ _).mono ?_;rintro e w' ⟨rfl,rfl⟩;simp only[cond]))
      exact⟨rfl,by rw[<-HG.out,HW.out,c1,c2,c4,c5];rfl,rfl⟩
   ·cases c3:(W !=0)
    ·have hz:W=0:=by simpa using c3
     subst hz
     go_enter Tryz.func229,Tryz.ntmps229
     go_wp2_with (first
      | (go_at_call 224;refine(mustBeLevel_no _ l0 l3 _).mono ?_;rintro e w' ⟨rfl,rfl⟩)
      | (go_at_call 225;refine(giveUpIf_any _ _ _).mono ?_;rintro e w' ⟨rfl,rfl⟩;simp only[cond]))
     go_end0
     exact⟨by rw[<-HG.out];simp[Pg.wBad,give],rfl⟩
    ·go_enter Tryz.func229,Tryz.ntmps229
     go_wp2_with (first
      | (go_at_call 224;refine(mustBeLevel_no _ l0 l3 _).mono ?_;rintro e w' ⟨rfl,rfl⟩)
      | (go_at_call 225;refine(giveUpIf_any _ _ _).mono ?_;rintro e w' ⟨rfl,rfl⟩;simp only[cond]))
     exact⟨rfl,by rw[<-HG.out,HW.out,c1,c2,c3];rfl,rfl⟩
  ·go_enter Tryz.func229,Tryz.ntmps229
   go_wp2_with (first
    | (go_at_call 224;refine(mustBeLevel_no _ l0 l3 _).mono ?_;rintro e w' ⟨rfl,rfl⟩)
    | (go_at_call 225;refine(giveUpIf_any _ _ _).mono ?_;rintro e w' ⟨rfl,rfl⟩;simp only[cond]))
   exact⟨rfl,by rw[<-HG.out,HW.out,c1];rfl,rfl⟩
set_option maxHeartbeats 1000000 in
theorem mustMap_any (t l:Bool) (r:Int) (u d:Bool) (f lv:Int) (l0:0<=lv) (l3:lv<=3) (hr:¬(r<0\/7<r\/f<0\/1048576<=f)) (w:World):
 Calls Tryz.prog 226 #[.agg #[.bool t,.bool l,.int .i64 r,.bool u,.bool d,.int .i64 f],.int .i64 lv] w fun e w'=>
  e=give (if lv=3 then 2 else if f%Pg.span lv=0 then 0 else 3)/\Below w.heap.size w w':=by
 by_cases h3:lv=3
 ·subst h3
  clear hr
  go_enter Tryz.func226,Tryz.ntmps226
  go_wp2_with (go_at_call 225;refine(giveUpIf_any _ _ _).mono ?_;rintro e w' ⟨rfl,rfl⟩;simp only[cond])
  exact⟨rfl,rfl,zA (zR _) _⟩
 ·have e3:(lv==3)=false:=by simpa using h3
  have HC:Hid _:=Pg.check_leaf hr l0 (by omega:lv<=2)
  rw[if_neg h3]
  clear h3 hr
  by_cases hm:f%Pg.span lv=0
  ·have hk:(Pg.check 0 lv f r !=0)=false:=by rw[HC.out,if_pos hm];rfl
   rw[if_pos hm]
   clear hm HC
   go_enter Tryz.func226,Tryz.ntmps226
   go_wp2_with (go_at_call 225;refine(giveUpIf_any _ _ _).mono ?_;rintro e w' ⟨rfl,rfl⟩;simp only[cond])
   refine(mapping_any _ _ _ _ _ _ _ _).mono ?_
   rintro e w1 ⟨rfl,hb1⟩
   go_wp2_with fail
   refine(check_any _ _ _ _ _).mono ?_
   rintro e w2 ⟨rfl,hb2⟩
   go_wp2_with (go_at_call 225;refine(giveUpIf_any _ _ _).mono ?_;rintro e w' ⟨rfl,rfl⟩;simp only[cond])
   go_end0
   exact⟨rfl,zT (zT (zA (zR _) _) hb1) hb2⟩
  ·have hk:(Pg.check 0 lv f r !=0)=true:=by rw[HC.out,if_neg hm];rfl
   rw[if_neg hm]
   clear hm HC
   go_enter Tryz.func226,Tryz.ntmps226
   go_wp2_with (go_at_call 225;refine(giveUpIf_any _ _ _).mono ?_;rintro e w' ⟨rfl,rfl⟩;simp only[cond])
   refine(mapping_any _ _ _ _ _ _ _ _).mono ?_
   rintro e w1 ⟨rfl,hb1⟩
   go_wp2_with fail
   refine(check_any _ _ _ _ _).mono ?_
   rintro e w2 ⟨rfl,hb2⟩
   go_wp2_with (go_at_call 225;refine(giveUpIf_any _ _ _).mono ?_;rintro e w' ⟨rfl,rfl⟩;simp only[cond])
   exact⟨rfl,rfl,zT (zT (zA (zR _) _) hb1) hb2⟩
set_option maxHeartbeats 1000000 in
theorem mustLead_any (t l:Bool) (r:Int) (u d:Bool) (f lv:Int) (w:World):
 Calls Tryz.prog 227 #[.agg #[.bool t,.bool l,.int .i64 r,.bool u,.bool d,.int .i64 f],.int .i64 lv] w fun e w'=>
  e=give (if lv=0 then 2 else if r≠7\/u=true\/d=true then 7 else 0)/\Below w.heap.size w w':=by
 by_cases h3:lv=0
 ·subst h3
  go_enter Tryz.func227,Tryz.ntmps227
  go_wp2_with (go_at_call 225;refine(giveUpIf_any _ _ _).mono ?_;rintro e w' ⟨rfl,rfl⟩;simp only[cond])
  exact⟨rfl,rfl,zA (zR _) _⟩
 ·have e3:(lv==0)=false:=by simpa using h3
  rw[if_neg h3]
  clear h3
  by_cases h7:r=7
  ·subst h7
   cases u<;>cases d
   all_goals
    go_enter Tryz.func227,Tryz.ntmps227
    go_wp2_with (first
     | (go_at_call 225;refine(giveUpIf_any _ _ _).mono ?_;rintro e w' ⟨rfl,rfl⟩;simp only[cond]))
    first
     | exact⟨rfl,rfl,zA (zR _) _⟩
     | (go_end0
        exact⟨rfl,zA (zR _) _⟩)
  ·have e7:(r !=7)=true:=by simpa using h7
   rw[if_pos (.inl h7)]
   clear h7
   go_enter Tryz.func227,Tryz.ntmps227
   go_wp2_with (first
    | (go_at_call 225;refine(giveUpIf_any _ _ _).mono ?_;rintro e w' ⟨rfl,rfl⟩;simp only[cond]))
   exact⟨rfl,rfl,zA (zR _) _⟩
set_option maxHeartbeats 1000000 in
theorem mustStand_none (l:Bool) (r:Int) (u d:Bool) (f lv:Int) (l0:0<=lv) (l3:lv<=3) (w:World):
 Calls Tryz.prog 200 #[.agg #[.bool false,.bool l,.int .i64 r,.bool u,.bool d,.int .i64 f],.int .i64 lv] w fun e w'=>e=give (Pg.eFault false l r u d f lv)/\Below w.heap.size w w':=by
 have hg:Pg.eFault false l r u d f lv=if l=true\/r≠0\/u=true\/d=true\/f≠0 then 7 else 0:=by
  simp only[Pg.eFault,if_neg (by omega:¬(lv<0\/3<lv)),if_true]
 generalize Pg.eFault false l r u d f lv=g at hg
 have HG:Hid _:=hg
 clear hg
 go_enter Tryz.func200,Tryz.ntmps200
 go_wp2_with (first
  | (go_at_call 224;refine(mustBeLevel_no _ l0 l3 _).mono ?_;rintro e w' ⟨rfl,rfl⟩)
  | (go_at_call 225;refine(giveUpIf_any _ _ _).mono ?_;rintro e w' ⟨rfl,rfl⟩;simp only[cond]))
 all_goals
  first
   | (refine⟨rfl,?_,zA (zR _) _⟩
      rw[HG.out]
      simp_all[give])
   | (refine bodyPost_ret (results_none rfl _ _ _) rfl ⟨?_,zA (zR _) _⟩
      rw[HG.out]
      simp_all[give])
set_option maxHeartbeats 1000000 in
theorem mustStand_there (l:Bool) (r:Int) (u d:Bool) (f lv:Int) (l0:0<=lv) (l3:lv<=3) (w:World):
 Calls Tryz.prog 200 #[.agg #[.bool true,.bool l,.int .i64 r,.bool u,.bool d,.int .i64 f],.int .i64 lv] w fun e w'=>e=give (Pg.eFault true l r u d f lv)/\Below w.heap.size w w':=by
 have hlv:¬(lv<0\/3<lv):=by omega
 have HS:Hid _:=Pg.check_small f r
 by_cases hr:r<0\/7<r\/f<0\/1048576<=f
 ·have hc:Pg.eFault true l r u d f lv=1:=by simp[Pg.eFault,hlv,hr]
  rw[hc]
  have hk:(Pg.check 0 0 f r !=0)=true:=by rw[HS.out,if_pos hr];rfl
  clear hc hr HS hlv
  go_enter Tryz.func200,Tryz.ntmps200
  go_wp2_with (go_at_call 224;refine(mustBeLevel_no _ l0 l3 _).mono ?_;rintro e w' ⟨rfl,rfl⟩)
  refine(mapping_any _ _ _ _ _ _ _ _).mono ?_
  rintro e w1 ⟨rfl,hb1⟩
  go_wp2_with fail
  refine(check_any _ _ _ _ _).mono ?_
  rintro e w2 ⟨rfl,hb2⟩
  go_wp2_with (go_at_call 225;refine(giveUpIf_any _ _ _).mono ?_;rintro e w' ⟨rfl,rfl⟩;simp only[cond])
  exact⟨rfl,rfl,zT (zT (zA (zR _) _) hb1) hb2⟩
 ·have hk:(Pg.check 0 0 f r !=0)=false:=by rw[HS.out,if_neg hr];rfl
  have HR:Hid _:=hr
  cases l
  ·have HC:Hid (Pg.eFault true false r u d f lv=if lv=0 then 2 else if r≠7\/u=true\/d=true then 7 else 0):=by
    simp only[Hid,Pg.eFault,if_neg hlv,if_neg hr,Bool.true_eq_false,Bool.false_eq_true,if_false,false_and,true_and,false_or]
   generalize hg:(if lv=0 then(2:Int)else if r≠7\/u=true\/d=true then 7 else 0)=g at HC
   rw[HC.out]
   have HL:=mustLead_any true false r u d f lv
   rw[hg]at HL
   clear HC hr HS hlv hg
   go_enter Tryz.func200,Tryz.ntmps200
   go_wp2_with (go_at_call 224;refine(mustBeLevel_no _ l0 l3 _).mono ?_;rintro e w' ⟨rfl,rfl⟩)
   refine(mapping_any _ _ _ _ _ _ _ _).mono ?_
   rintro e w1 ⟨rfl,hb1⟩
   obtain⟨hc1,hf1⟩:=bcell hb1
   go_wp2_with fail
   refine(check_any _ _ _ _ _).mono ?_
   rintro e w2 ⟨rfl,hb2⟩
   obtain⟨hc2,hf2⟩:=bcell (zT hb1 hb2)
   go_wp2_with (go_at_call 225;refine(giveUpIf_any _ _ _).mono ?_;rintro e w' ⟨rfl,rfl⟩;simp only[cond])
   refine(HL _).mono ?_
   rintro e w3 ⟨rfl,hb3⟩
   by_cases h0:g=0
   ·rw[h0,give_zero]
    go_wp2_with fail
    go_end0
    exact⟨by rw[h0,give_zero],zT (zT (zT (zA (zR _) _) hb1) hb2) hb3⟩
   ·rw[give_code h0]
    go_wp2_with fail
    exact⟨rfl,(give_code h0).symm,zT (zT (zT (zA (zR _) _) hb1) hb2) hb3⟩
  ·have HC:Hid (Pg.eFault true true r u d f lv=if lv=3 then 2 else if f%Pg.span lv=0 then 0 else 3):=by
    simp only[Hid,Pg.eFault,if_neg hlv,if_neg hr,Bool.true_eq_false,if_false,if_true,false_and,true_and,or_false]
   generalize hg:(if lv=3 then(2:Int)else if f%Pg.span lv=0 then 0 else 3)=g at HC
   rw[HC.out]
   have HL:=mustMap_any true true r u d f lv l0 l3 hr
   rw[hg]at HL
   clear HC hr HS hlv hg
   go_enter Tryz.func200,Tryz.ntmps200
   go_wp2_with (go_at_call 224;refine(mustBeLevel_no _ l0 l3 _).mono ?_;rintro e w' ⟨rfl,rfl⟩)
   refine(mapping_any _ _ _ _ _ _ _ _).mono ?_
   rintro e w1 ⟨rfl,hb1⟩
   obtain⟨hc1,hf1⟩:=bcell hb1
   go_wp2_with fail
   refine(check_any _ _ _ _ _).mono ?_
   rintro e w2 ⟨rfl,hb2⟩
   obtain⟨hc2,hf2⟩:=bcell (zT hb1 hb2)
   go_wp2_with (go_at_call 225;refine(giveUpIf_any _ _ _).mono ?_;rintro e w' ⟨rfl,rfl⟩;simp only[cond])
   refine(HL _).mono ?_
   rintro e w3 ⟨rfl,hb3⟩
   by_cases h0:g=0
   ·rw[h0,give_zero]
    go_wp2_with fail
    go_end0
    exact⟨by rw[h0,give_zero],zT (zT (zT (zA (zR _) _) hb1) hb2) hb3⟩
   ·rw[give_code h0]
    go_wp2_with fail
    exact⟨rfl,(give_code h0).symm,zT (zT (zT (zA (zR _) _) hb1) hb2) hb3⟩
theorem mustStand_any (t l:Bool) (r:Int) (u d:Bool) (f lv:Int) (w:World):
 Calls Tryz.prog 200 #[.agg #[.bool t,.bool l,.int .i64 r,.bool u,.bool d,.int .i64 f],.int .i64 lv] w fun e w'=>e=give (Pg.eFault t l r u d f lv)/\Below w.heap.size w w':=by
 by_cases hl:lv<0\/3<lv
 ·have hc:Pg.eFault t l r u d f lv=1:=by simp[Pg.eFault,hl]
  rw[hc]
  go_enter Tryz.func200,Tryz.ntmps200
  go_wp2_with (go_at_call 224;refine(mustBeLevel_yes _ hl _).mono ?_;rintro e w' ⟨rfl,rfl⟩)
  exact⟨rfl,rfl,zA (zR _) _⟩
 ·cases t
  ·exact mustStand_none l r u d f lv (by omega) (by omega) w
  ·exact mustStand_there l r u d f lv (by omega) (by omega) w
theorem checkLook_any (t l:Bool) (r:Int) (u d:Bool) (f lv:Int) (a b:Nat) (w:World)
 (ha:w.cell? ⟨a,0,none⟩=some (.bool t)/\w.cell? ⟨a,1,none⟩=some (.bool l)/\w.cell? ⟨a,2,none⟩=some (.int .i64 r)/\w.cell? ⟨a,3,none⟩=some (.bool u)/\w.cell? ⟨a,4,none⟩=some (.bool d)/\w.cell? ⟨a,5,none⟩=some (.int .i64 f))
 (hb:w.cell? ⟨b,0,none⟩=some (.int .i64 lv)):
 Calls Tryz.prog 214 #[.pointer (some ⟨a,0,none⟩),.pointer (some ⟨b,0,none⟩)] w fun e w'=>e=give (Pg.eFault t l r u d f lv)/\Below w.heap.size w w':=by
 obtain⟨a0,a1,a2,a3,a4,a5⟩:=ha
 go_enter Tryz.func214,Tryz.ntmps214
 go_wp2_with fail
 refine(mustStand_any _ _ _ _ _ _ _ _).mono ?_
 rintro e w1 ⟨rfl,hb1⟩
 by_cases h0:Pg.eFault t l r u d f lv=0
 ·rw[h0,give_zero]
  go_wp2_with fail
  go_end0
  exact⟨by rw[h0,give_zero],hb1⟩
 ·rw[give_code h0]
  go_wp2_with fail
  exact⟨rfl,(give_code h0).symm,hb1⟩
theorem eCheck_any (t l:Bool) (r:Int) (u d:Bool) (f lv:Int) (w:World):
 Calls Tryz.prog 187 #[.agg #[.bool t,.bool l,.int .i64 r,.bool u,.bool d,.int .i64 f],.int .i64 lv] w fun e w'=>e= .returned (.int .i64 (Pg.eFault t l r u d f lv))/\Below w.heap.size w w':=by
 have hmf:∀(fn:Fn) (first cap:Array Value) (w:World),(Instr.makeFunc fn first cap).run Tryz.prog w= .ok (.func fn first cap) w:=fun _ _ _ _=>rfl
 go_enter Tryz.func187,Tryz.ntmps187
 go_wp2_with fail
 refine(caught_any 214 _ (Pg.eFault t l r u d f lv) (fun w'=>Below w.heap.size w w') _ ?_ ?_).mono ?_
 ·intro w
  simp[go_sem]
 ·refine(checkLook_any t l r u d f lv w.heap.size (w.heap.size+1) _ ?_ ?_).mono ?_
  ·simp[go_sem]
  ·simp[go_sem]
  ·rintro e w1 ⟨rfl,hb1⟩
   obtain⟨k1,k2⟩:=bcell hb1
   refine⟨rfl,?_,?_,?_⟩
   ·exact zT (zA (zA (zA (zR w) _) _) _) hb1
   ·rw[k1 _ _ (by simp)]
    simp[go_sem]
   ·rw[k2 _ _ (by simp)]
    simp[go_sem]
 ·rintro e w2 ⟨rfl,w1,hb1,hb2⟩
  have HB:Hid (Below w.heap.size w w2):=hb1.trans (hb2.mono (by simp;omega))
  clear hb1 hb2
  go_wp2_with fail
  go_ret
  exact⟨rfl,HB.out⟩
theorem eMap_any (t l:Bool) (r:Int) (u d:Bool) (f lv q:Int) (w:World):
 Calls Tryz.prog 153 #[.agg #[.bool t,.bool l,.int .i64 r,.bool u,.bool d,.int .i64 f],.int .i64 lv,.int .i64 q] w fun e w'=>e= .returned (Pg.mapV t l r u d f lv q)/\Below w.heap.size w w':=by
 by_cases h0:Pg.eFault t l r u d f lv=0
 ·have e0:(Pg.eFault t l r u d f lv !=0)=false:=by simp[h0]
  have H0:Hid _:=h0
  cases l
  ·have HV:Hid _:=Pg.mapV_no (at':=q) (by simp[Pg.lOk,h0]:Pg.lOk t false r u d f lv q=false)
   clear h0
   go_enter Tryz.func153,Tryz.ntmps153
   go_wp2_with fail
   refine(eCheck_any _ _ _ _ _ _ _ _).mono ?_
   rintro e w1 ⟨rfl,hb1⟩
   obtain⟨hc1,hf1⟩:=bcell hb1
   go_wp2_with fail
   refine bodyPost_ret (v:= .agg #[.int .i64 0,.int .i64 0,.int .i64 0,.int .i64 0]) ?_ rfl ⟨by rw[HV.out],?_⟩
   ·simp[results,Tryz.results153,go_sem,hc1]
   ·exact((((zT (zA (zA (zR _) _) _) hb1).setCell (by simp) _).setCell (by simp) _).setCell (by simp) _).setCell (by simp) _
  ·cases hq:Pg.below q 4096
   ·have HV:Hid _:=Pg.mapV_no (at':=q) (by simp[Pg.lOk,hq]:Pg.lOk t true r u d f lv q=false)
    clear h0
    go_enter Tryz.func153,Tryz.ntmps153
    go_wp2_with fail
    refine(eCheck_any _ _ _ _ _ _ _ _).mono ?_
    rintro e w1 ⟨rfl,hb1⟩
    obtain⟨hc1,hf1⟩:=bcell hb1
    go_wp2_with (go_at_call 173;refine(has_any _ _).mono ?_;rintro e w' ⟨rfl,rfl⟩)
    refine bodyPost_ret (v:= .agg #[.int .i64 0,.int .i64 0,.int .i64 0,.int .i64 0]) ?_ rfl ⟨by rw[HV.out],?_⟩
    ·simp[results,Tryz.results153,go_sem,hc1]
    ·exact((((zT (zA (zA (zR _) _) _) hb1).setCell (by simp) _).setCell (by simp) _).setCell (by simp) _).setCell (by simp) _
   ·have HV:Hid _:=Pg.mapV_yes (at':=q) (by simp[Pg.lOk,hq,h0]:Pg.lOk t true r u d f lv q=true)
    have hs1:1<=Pg.span lv/\Pg.span lv<=64:=by
     obtain⟨⟨l0,l3⟩,hc⟩:=Pg.fault_zero h0
     have hsp:=Pg.span_cases lv
     have hb:=Pg.span_bd lv
     rcases hc with ⟨_,h,_⟩|⟨_,_,_,_,_,⟨_,h,_⟩|⟨h,_⟩⟩
     ·cases h
     ·omega
     ·cases h
    obtain⟨s1,s2⟩:=hs1
    obtain⟨q0,q1⟩:=Pg.zB.1 hq
    clear h0
    go_enter Tryz.func153,Tryz.ntmps153
    go_wp2_with fail
    refine(eCheck_any _ _ _ _ _ _ _ _).mono ?_
    rintro e w1 ⟨rfl,hb1⟩
    obtain⟨hc1,hf1⟩:=bcell hb1
    go_wp2_with (go_at_call 173;refine(has_any _ _).mono ?_;rintro e w' ⟨rfl,rfl⟩)
    refine(mapping_any _ _ _ _ _ _ _ _).mono ?_
    rintro e w2 ⟨rfl,hb2⟩
    have hB:=zT hb1 hb2
    have fr:∀o k,(w2.alloc o).frozen? ⟨w.heap.size+1,k,none⟩=false:=fun o k=>((zA hB o).frozen (p:=⟨w.heap.size+1,k,none⟩) (by simp)).trans (by simp[go_sem])
    have c0:∀o,(w2.alloc o).cell? ⟨w.heap.size+1,0,none⟩=some (.int .i64 0):=fun o=>((zA hB o).cell (p:=⟨w.heap.size+1,0,none⟩) (by simp)).trans (by simp[go_sem])
    have c1:∀o,(w2.alloc o).cell? ⟨w.heap.size+1,1,none⟩=some (.int .i64 0):=fun o=>((zA hB o).cell (p:=⟨w.heap.size+1,1,none⟩) (by simp)).trans (by simp[go_sem])
    have c2:∀o,(w2.alloc o).cell? ⟨w.heap.size+1,2,none⟩=some (.int .i64 0):=fun o=>((zA hB o).cell (p:=⟨w.heap.size+1,2,none⟩) (by simp)).trans (by simp[go_sem])
    have c3:∀o,(w2.alloc o).cell? ⟨w.heap.size+1,3,none⟩=some (.int .i64 0):=fun o=>((zA hB o).cell (p:=⟨w.heap.size+1,3,none⟩) (by simp)).trans (by simp[go_sem])
    have hwr:wrap64 (q-q%Pg.span lv)=q-q%Pg.span lv:=by
     have:=Int.emod_nonneg q (by omega:Pg.span lv≠0)
     have:=Int.emod_lt_of_pos q (by omega:0<Pg.span lv)
     rw[wrap64]
     omega
    have HB:Hid (Below w.heap.size w w2):=zT (zA (zA (zR w) _) _) hB
    clear hB hb1 hb2 hc1 hf1
    go_wp2_with (go_at_call 154;refine(span_any _ _).mono ?_;rintro e w' ⟨rfl,rfl⟩)
    refine bodyPost_ret (v:= .agg #[.int .i64 (q-q%Pg.span lv),.int .i64 lv,.int .i64 f,.int .i64 r]) ?_ rfl ⟨by rw[HV.out],?_⟩
    ·simp[results,Tryz.results153,go_sem,c0,c1,c2,c3]
    ·exact((((zA HB.out _).setCell (by simp) _).setCell (by simp) _).setCell (by simp) _).setCell (by simp) _
 ·have e0:(Pg.eFault t l r u d f lv !=0)=true:=by simp[h0]
  have HV:Hid _:=Pg.mapV_no (at':=q) (by simp[Pg.lOk,h0]:Pg.lOk t l r u d f lv q=false)
  clear h0
  go_enter Tryz.func153,Tryz.ntmps153
  go_wp2_with fail
  refine(eCheck_any _ _ _ _ _ _ _ _).mono ?_
  rintro e w1 ⟨rfl,hb1⟩
  obtain⟨hc1,hf1⟩:=bcell hb1
  go_wp2_with fail
  refine bodyPost_ret (v:= .agg #[.int .i64 0,.int .i64 0,.int .i64 0,.int .i64 0]) ?_ rfl ⟨by rw[HV.out],?_⟩
  ·simp[results,Tryz.results153,go_sem,hc1]
  ·exact((((zT (zA (zA (zR _) _) _) hb1).setCell (by simp) _).setCell (by simp) _).setCell (by simp) _).setCell (by simp) _
theorem encodeLook_any (t l:Bool) (r:Int) (u d:Bool) (f lv:Int) (a b c:Nat) (w:World)
 (ha:w.cell? ⟨a,0,none⟩=some (.bool t)/\w.cell? ⟨a,1,none⟩=some (.bool l)/\w.cell? ⟨a,2,none⟩=some (.int .i64 r)/\w.cell? ⟨a,3,none⟩=some (.bool u)/\w.cell? ⟨a,4,none⟩=some (.bool d)/\w.cell? ⟨a,5,none⟩=some (.int .i64 f))
 (hb:w.cell? ⟨b,0,none⟩=some (.int .i64 lv)) (hc:w.cell? ⟨c,0,none⟩=some (.int .u64 0)) (hz:w.frozen? ⟨c,0,none⟩=false):
 Calls Tryz.prog 199 #[.pointer (some ⟨a,0,none⟩),.pointer (some ⟨b,0,none⟩),.pointer (some ⟨c,0,none⟩)] w fun e w'=>
  e=give (Pg.eFault t l r u d f lv)/\Below c w w'/\w'.cell? ⟨c,0,none⟩=some (.int .u64 (Pg.enc t l r u d f lv))/\
  ∀k,k≠c->k<w.heap.size->w'.cell? ⟨k,0,none⟩=w.cell? ⟨k,0,none⟩/\w'.frozen? ⟨k,0,none⟩=w.frozen? ⟨k,0,none⟩:=by
 have hlt:c<w.heap.size:=World.block_lt_of_cell? _ _ hc
 have HLT:Hid _:=hlt
 obtain⟨a0,a1,a2,a3,a4,a5⟩:=ha
 clear hlt
 go_enter Tryz.func199,Tryz.ntmps199
 go_wp2_with fail
 refine(mustStand_any _ _ _ _ _ _ _ _).mono ?_
 rintro e w1 ⟨rfl,hb1⟩
 by_cases h0:Pg.eFault t l r u d f lv=0
 ·have HE:Hid (Pg.enc t l r u d f lv=Pg.eWord t l r u d f lv):=Pg.enc_zero h0
  have HW:=written_any t l r u d f lv h0
  rw[h0,give_zero]
  have HG:Hid _:=h0
  clear h0
  have a0':=cell_later hb1 a0
  have a1':=cell_later hb1 a1
  have a2':=cell_later hb1 a2
  have a3':=cell_later hb1 a3
  have a4':=cell_later hb1 a4
  have a5':=cell_later hb1 a5
  have b':=cell_later hb1 hb
  go_wp2_with fail
  refine(HW _).mono ?_
  rintro e w2 ⟨rfl,hb2⟩
  have hB:=zT hb1 hb2
  have c':=cell_later hB hc
  have z':=frozen_later hB hc hz
  go_wp2_with fail
  go_end0
  refine⟨by rw[HG.out,give_zero],(hB.mono (Nat.le_of_lt HLT.out)).setCell (Nat.le_refl c) _,?_,?_⟩
  ·rw[HE.out]
   exact World.cell?_setCell_same _ _ _ c'
  ·intro k hk hkl
   have e1:∀v,(w2.setCell ⟨c,0,none⟩ v).frozen? ⟨k,0,none⟩=w2.frozen? ⟨k,0,none⟩:=fun v=>by simp[go_sem]
   have e2:∀v,(w2.setCell ⟨c,0,none⟩ v).cell? ⟨k,0,none⟩=w2.cell? ⟨k,0,none⟩:=fun v=>World.cell?_setCell_other _ _ _ _ (fun e=>hk (by cases e;rfl))
   exact⟨(e2 _).trans (hB.cell hkl),(e1 _).trans (hB.frozen hkl)⟩
 ·rw[give_code h0]
  go_wp2_with fail
  refine⟨rfl,(give_code h0).symm,hb1.mono (Nat.le_of_lt HLT.out),?_,?_⟩
  ·rw[Pg.enc,if_neg h0]
   exact cell_later hb1 hc
  ·intro k hk hkl
   exact⟨hb1.cell hkl,hb1.frozen hkl⟩
theorem encode_any (t l:Bool) (r:Int) (u d:Bool) (f lv:Int) (w:World):
 Calls Tryz.prog 169 #[.agg #[.bool t,.bool l,.int .i64 r,.bool u,.bool d,.int .i64 f],.int .i64 lv] w fun e w'=>e= .returned (.tuple #[.int .u64 (Pg.enc t l r u d f lv),.int .i64 (Pg.eFault t l r u d f lv)])/\Below w.heap.size w w':=by
 have hmf:∀(fn:Fn) (first cap:Array Value) (w:World),(Instr.makeFunc fn first cap).run Tryz.prog w= .ok (.func fn first cap) w:=fun _ _ _ _=>rfl
 go_enter Tryz.func169,Tryz.ntmps169
 go_wp2_with fail
 refine(caught_any 199 _ (Pg.eFault t l r u d f lv) (fun w'=>Below w.heap.size w w'/\w'.cell? ⟨w.heap.size+1+1,0,none⟩=some (.int .u64 (Pg.enc t l r u d f lv))) _ ?_ ?_).mono ?_
 ·intro w
  simp[go_sem]
 ·refine(encodeLook_any t l r u d f lv w.heap.size (w.heap.size+1) (w.heap.size+1+1) _ ?_ ?_ ?_ ?_).mono ?_
  ·simp[go_sem]
  ·simp[go_sem]
  ·simp[go_sem]
  ·simp[go_sem]
  ·rintro e w1 ⟨rfl,hb1,hc1,hk⟩
   obtain⟨k1,k2⟩:=hk (w.heap.size+1+1+1) (by omega) (by simp)
   refine⟨rfl,⟨?_,hc1⟩,?_,?_⟩
   ·exact(zA (zA (zA (zA (zR w) _) _) _) _).trans (hb1.mono (by omega))
   ·have:((((w.alloc (.cells #[.bool t,.bool l,.int .i64 r,.bool u,.bool d,.int .i64 f] 70)).alloc (.cells #[.int .i64 lv] 3)).alloc (.cells #[.int .u64 0] 64)).heap.size)=w.heap.size+1+1+1:=by simp
    rw[this,k1]
    simp[go_sem]
   ·have:((((w.alloc (.cells #[.bool t,.bool l,.int .i64 r,.bool u,.bool d,.int .i64 f] 70)).alloc (.cells #[.int .i64 lv] 3)).alloc (.cells #[.int .u64 0] 64)).heap.size)=w.heap.size+1+1+1:=by simp
    rw[this,k2]
    simp[go_sem]
 ·rintro e w2 ⟨rfl,w1,⟨hb1,hc1⟩,hb2⟩
  have hc2:w2.cell? ⟨w.heap.size+1+1,0,none⟩=some (.int .u64 (Pg.enc t l r u d f lv)):=(hb2.cell (p:=⟨w.heap.size+1+1,0,none⟩) (by simp)).trans hc1
  have HB:Hid (Below w.heap.size w w2):=hb1.trans (hb2.mono (by simp;omega))
  clear hb1 hb2 hc1
  go_wp2_with fail
  go_ret2
  exact⟨rfl,HB.out⟩
theorem stored6k {w:World} {c:Nat} {u0 u1 u2 u3 u4 u5 v0 v1 v2 v3 v4 v5:Value} (h:w.cell? ⟨c,0,none⟩=some u0/\w.cell? ⟨c,1,none⟩=some u1/\w.cell? ⟨c,2,none⟩=some u2/\w.cell? ⟨c,3,none⟩=some u3/\w.cell? ⟨c,4,none⟩=some u4/\w.cell? ⟨c,5,none⟩=some u5):
 (((((((w.setCell ⟨c,0,none⟩ v0).setCell ⟨c,1,none⟩ v1).setCell ⟨c,2,none⟩ v2).setCell ⟨c,3,none⟩ v3).setCell ⟨c,4,none⟩ v4).setCell ⟨c,5,none⟩ v5).cell? ⟨c,0,none⟩=some v0/\((((((w.setCell ⟨c,0,none⟩ v0).setCell ⟨c,1,none⟩ v1).setCell ⟨c,2,none⟩ v2).setCell ⟨c,3,none⟩ v3).setCell ⟨c,4,none⟩ v4).setCell ⟨c,5,none⟩ v5).cell? ⟨c,1,none⟩=some v1/\((((((w.setCell ⟨c,0,none⟩ v0).setCell ⟨c,1,none⟩ v1).setCell ⟨c,2,none⟩ v2).setCell ⟨c,3,none⟩ v3).setCell ⟨c,4,none⟩ v4).setCell ⟨c,5,none⟩ v5).cell? ⟨c,2,none⟩=some v2/\((((((w.setCell ⟨c,0,none⟩ v0).setCell ⟨c,1,none⟩ v1).setCell ⟨c,2,none⟩ v2).setCell ⟨c,3,none⟩ v3).setCell ⟨c,4,none⟩ v4).setCell ⟨c,5,none⟩ v5).cell? ⟨c,3,none⟩=some v3/\((((((w.setCell ⟨c,0,none⟩ v0).setCell ⟨c,1,none⟩ v1).setCell ⟨c,2,none⟩ v2).setCell ⟨c,3,none⟩ v3).setCell ⟨c,4,none⟩ v4).setCell ⟨c,5,none⟩ v5).cell? ⟨c,4,none⟩=some v4/\((((((w.setCell ⟨c,0,none⟩ v0).setCell ⟨c,1,none⟩ v1).setCell ⟨c,2,none⟩ v2).setCell ⟨c,3,none⟩ v3).setCell ⟨c,4,none⟩ v4).setCell ⟨c,5,none⟩ v5).cell? ⟨c,5,none⟩=some v5)/\
 (∀k,k≠c->((((((w.setCell ⟨c,0,none⟩ v0).setCell ⟨c,1,none⟩ v1).setCell ⟨c,2,none⟩ v2).setCell ⟨c,3,none⟩ v3).setCell ⟨c,4,none⟩ v4).setCell ⟨c,5,none⟩ v5).cell? ⟨k,0,none⟩=w.cell? ⟨k,0,none⟩)/\
 (∀k,((((((w.setCell ⟨c,0,none⟩ v0).setCell ⟨c,1,none⟩ v1).setCell ⟨c,2,none⟩ v2).setCell ⟨c,3,none⟩ v3).setCell ⟨c,4,none⟩ v4).setCell ⟨c,5,none⟩ v5).frozen? ⟨k,0,none⟩=w.frozen? ⟨k,0,none⟩):=by
 refine⟨by simp[go_sem,h],fun k hk=> ?_,fun k=>by simp[go_sem]⟩
 have hn:∀o,(⟨c,o,none⟩:Addr)≠⟨k,0,none⟩:=fun o e=>hk (by cases e;rfl)
 rw[World.cell?_setCell_other _ _ _ _ (hn _),World.cell?_setCell_other _ _ _ _ (hn _),World.cell?_setCell_other _ _ _ _ (hn _),World.cell?_setCell_other _ _ _ _ (hn _),World.cell?_setCell_other _ _ _ _ (hn _),World.cell?_setCell_other _ _ _ _ (hn _)]
theorem decodeLook_any (W lv:Int) (h0:0<=W) (h1:W<18446744073709551616) (a b c:Nat) (w:World)
 (ha:w.cell? ⟨a,0,none⟩=some (.int .u64 W)) (hb:w.cell? ⟨b,0,none⟩=some (.int .i64 lv))
 (hc:w.cell? ⟨c,0,none⟩=some (.bool false)/\w.cell? ⟨c,1,none⟩=some (.bool false)/\w.cell? ⟨c,2,none⟩=some (.int .i64 0)/\w.cell? ⟨c,3,none⟩=some (.bool false)/\w.cell? ⟨c,4,none⟩=some (.bool false)/\w.cell? ⟨c,5,none⟩=some (.int .i64 0))
 (hz:∀o,w.frozen? ⟨c,o,none⟩=false):
 Calls Tryz.prog 228 #[.pointer (some ⟨a,0,none⟩),.pointer (some ⟨b,0,none⟩),.pointer (some ⟨c,0,none⟩)] w fun e w'=>
  e=give (Pg.dCode W lv)/\Below c w w'/\(w'.cell? ⟨c,0,none⟩=some (.bool (Pg.dGood W lv))/\w'.cell? ⟨c,1,none⟩=some (.bool (Pg.xL W lv))/\w'.cell? ⟨c,2,none⟩=some (.int .i64 (Pg.xR W lv))/\w'.cell? ⟨c,3,none⟩=some (.bool (Pg.xU W lv))/\w'.cell? ⟨c,4,none⟩=some (.bool (Pg.xD W lv))/\w'.cell? ⟨c,5,none⟩=some (.int .i64 (Pg.xF W lv)))/\
  ∀k,k≠c->k<w.heap.size->w'.cell? ⟨k,0,none⟩=w.cell? ⟨k,0,none⟩/\w'.frozen? ⟨k,0,none⟩=w.frozen? ⟨k,0,none⟩:=by
 have hlt:c<w.heap.size:=World.block_lt_of_cell? _ _ hc.1
 have HLT:Hid _:=hlt
 clear hlt
 have HM:=mustBeWord_any W lv h0 h1
 by_cases hm:(if lv<0\/3<lv then(1:Int)else if Pg.wBad W lv=true then 7 else 0)=0
 ·rw[hm,give_zero]at HM
  have hl:¬(lv<0\/3<lv):=by
   intro h
   rw[if_pos h]at hm
   exact absurd hm (by decide)
  rw[if_neg hl]at hm
  have hw:Pg.wBad W lv=false:=by
   cases h:Pg.wBad W lv
   ·rfl
   ·rw[h]at hm;exact absurd hm (by decide)
  clear hm
  by_cases hz0:W=0
  ·subst hz0
   have hd:Pg.dCode 0 lv=0:=by simp[Pg.dCode,hl,hw]
   have hg:Pg.dGood 0 lv=false:=by simp[Pg.dGood]
   have HF:Hid (Pg.eFault false false 0 false false 0 lv=0):=Pg.fault_none (by omega) (by omega)
   have HX:Hid (Pg.dGood 0 lv=false/\Pg.xL 0 lv=false/\Pg.xR 0 lv=0/\Pg.xU 0 lv=false/\Pg.xD 0 lv=false/\Pg.xF 0 lv=0):=by
    show _/\_
    simp[Pg.xL,Pg.xR,Pg.xU,Pg.xD,Pg.xF,hg]
   have HD:Hid (Pg.dCode 0 lv=0):=hd
   clear hd hg hl hw
   go_enter Tryz.func228,Tryz.ntmps228
   go_wp2_with fail
   refine(HM _).mono ?_
   rintro e w1 ⟨rfl,rfl⟩
   go_wp2_with fail
   refine(read_none _ _).mono ?_
   rintro e w2 ⟨rfl,hb2⟩
   have b2:∀o,(w2.alloc o).cell? ⟨b,0,none⟩=some (.int .i64 lv):=fun o=>cell_later (zA hb2 o) hb
   have cc2:=later6 hb2 hc
   go_wp2_with fail
   refine(mustStand_any _ _ _ _ _ _ _ _).mono ?_
   rintro e w3 ⟨rfl,hb3⟩
   have hB3:=zT (zA hb2 _) hb3
   obtain⟨hc3,hf3⟩:=bcell hb3
   obtain⟨c0,c1,c2,c3,c4,c5⟩:=later6 hB3 hc
   have z3:∀o,w3.frozen? ⟨c,o,none⟩=false:=fun o=>(hB3.frozen (p:=⟨c,o,none⟩) HLT.out).trans (hz o)
   rw[HF.out,give_zero]
   go_wp2_with fail
   go_end0
   obtain⟨s1,s2,s3⟩:=stored6k (v0:= .bool false) (v1:= .bool false) (v2:= .int .i64 0) (v3:= .bool false) (v4:= .bool false) (v5:= .int .i64 0) ⟨c0,c1,c2,c3,c4,c5⟩
   obtain⟨x0,x1,x2,x3,x4,x5⟩:=HX.out
   rw[HD.out,x0,x1,x2,x3,x4,x5]
   refine⟨rfl,((((((hB3.mono (Nat.le_of_lt HLT.out)).setCell (Nat.le_refl c) _).setCell (Nat.le_refl c) _).setCell (Nat.le_refl c) _).setCell (Nat.le_refl c) _).setCell (Nat.le_refl c) _).setCell (Nat.le_refl c) _,s1,?_⟩
   intro k hk hkl
   exact⟨(s2 k hk).trans (hB3.cell hkl),(s3 k).trans (hB3.frozen hkl)⟩
  ·have hw':W%2=1/\W<4294967296:=by
    simp only[Pg.wBad,decide_eq_false_iff_not]at hw
    omega
   have HD:Hid (Pg.dCode W lv=Pg.eFault true (Pg.dLeaf W lv) (W/2%8) (Pg.dUsed W) (Pg.dDirty W) (W/4096) lv):=by
    show Pg.dCode W lv=_
    rw[Pg.dCode,if_neg hl,if_neg (by rw[hw];decide),if_neg hz0]
   have HZ:Hid (W≠0):=hz0
   have HR:=read_any W lv h0 hw'.2 hw'.1
   clear hl hw hw' hz0
   go_enter Tryz.func228,Tryz.ntmps228
   go_wp2_with fail
   refine(HM _).mono ?_
   rintro e w1 ⟨rfl,rfl⟩
   go_wp2_with fail
   refine(HR _).mono ?_
   rintro e w2 ⟨rfl,hb2⟩
   have b2:∀o,(w2.alloc o).cell? ⟨b,0,none⟩=some (.int .i64 lv):=fun o=>cell_later (zA hb2 o) hb
   have cc2:=later6 hb2 hc
   go_wp2_with fail
   refine(mustStand_any _ _ _ _ _ _ _ _).mono ?_
   rintro e w3 ⟨rfl,hb3⟩
   have hB3:=zT (zA hb2 _) hb3
   obtain⟨hc3,hf3⟩:=bcell hb3
   obtain⟨c0,c1,c2,c3,c4,c5⟩:=later6 hB3 hc
   have z3:∀o,w3.frozen? ⟨c,o,none⟩=false:=fun o=>(hB3.frozen (p:=⟨c,o,none⟩) HLT.out).trans (hz o)
   rw[<-HD.out]
   by_cases hd:Pg.dCode W lv=0
   ·have hg:Pg.dGood W lv=true:=by simp[Pg.dGood,hd,HZ.out]
    have HX:Hid (Pg.dGood W lv=true/\Pg.xL W lv=Pg.dLeaf W lv/\Pg.xR W lv=W/2%8/\Pg.xU W lv=Pg.dUsed W/\Pg.xD W lv=Pg.dDirty W/\Pg.xF W lv=W/4096):=by
     show _/\_
     simp[Pg.xL,Pg.xR,Pg.xU,Pg.xD,Pg.xF,hg]
    rw[hd,give_zero]
    have HD0:Hid _:=hd
    clear hd hg
    go_wp2_with fail
    go_end0
    obtain⟨s1,s2,s3⟩:=stored6k (v0:= .bool true) (v1:= .bool (Pg.dLeaf W lv)) (v2:= .int .i64 (W/2%8)) (v3:= .bool (Pg.dUsed W)) (v4:= .bool (Pg.dDirty W)) (v5:= .int .i64 (W/4096)) ⟨c0,c1,c2,c3,c4,c5⟩
    obtain⟨x0,x1,x2,x3,x4,x5⟩:=HX.out
    rw[HD0.out,x0,x1,x2,x3,x4,x5]
    refine⟨rfl,((((((hB3.mono (Nat.le_of_lt HLT.out)).setCell (Nat.le_refl c) _).setCell (Nat.le_refl c) _).setCell (Nat.le_refl c) _).setCell (Nat.le_refl c) _).setCell (Nat.le_refl c) _).setCell (Nat.le_refl c) _,s1,?_⟩
    intro k hk hkl
    exact⟨(s2 k hk).trans (hB3.cell hkl),(s3 k).trans (hB3.frozen hkl)⟩
   ·have hg:Pg.dGood W lv=false:=by simp[Pg.dGood,hd]
    rw[give_code hd]
    go_wp2_with fail
    refine⟨rfl,(give_code hd).symm,hB3.mono (Nat.le_of_lt HLT.out),?_,fun k _ hkl=>⟨hB3.cell hkl,hB3.frozen hkl⟩⟩
    simp[Pg.xL,Pg.xR,Pg.xU,Pg.xD,Pg.xF,hg,c0,c1,c2,c3,c4,c5]
 ·have HC:Hid (Pg.dCode W lv=if lv<0\/3<lv then(1:Int)else if Pg.wBad W lv=true then 7 else 0):=by
   show Pg.dCode W lv=_
   unfold Pg.dCode
   split
   ·rfl
   ·rename_i hl
    rw[if_neg hl]at hm
    split
    ·rfl
    ·rename_i hb
     rw[if_neg hb]at hm
     exact absurd rfl hm
  generalize (if lv<0\/3<lv then(1:Int)else if Pg.wBad W lv=true then 7 else 0)=g at hm HM HC
  go_enter Tryz.func228,Tryz.ntmps228
  go_wp2_with fail
  refine(HM _).mono ?_
  rintro e w1 ⟨rfl,rfl⟩
  have hg:Pg.dGood W lv=false:=by simp[Pg.dGood,HC.out,hm]
  rw[give_code hm]
  go_wp2_with fail
  refine⟨rfl,by rw[HC.out,give_code hm],Below.refl _ _,?_,fun k _ _=>⟨rfl,rfl⟩⟩
  simpa[Pg.xL,Pg.xR,Pg.xU,Pg.xD,Pg.xF,hg]using hc
theorem decode_any (W lv:Int) (h0:0<=W) (h1:W<18446744073709551616) (w:World):
 Calls Tryz.prog 205 #[.int .u64 W,.int .i64 lv] w fun e w'=>e= .returned (Pg.decV W lv)/\Below w.heap.size w w':=by
 have hv:Pg.decV W lv= .tuple #[.agg #[.bool (Pg.dGood W lv),.bool (Pg.xL W lv),.int .i64 (Pg.xR W lv),.bool (Pg.xU W lv),.bool (Pg.xD W lv),.int .i64 (Pg.xF W lv)],.int .i64 (Pg.dCode W lv)]:=rfl
 have HV:Hid _:=hv
 clear hv
 have hmf:∀(fn:Fn) (first cap:Array Value) (w:World),(Instr.makeFunc fn first cap).run Tryz.prog w= .ok (.func fn first cap) w:=fun _ _ _ _=>rfl
 go_enter Tryz.func205,Tryz.ntmps205
 go_wp2_with fail
 refine(caught_any 228 _ (Pg.dCode W lv) (fun w'=>Below (w.heap.size+1+1+1) ((((w.alloc (.cells #[.int .u64 W] 64)).alloc (.cells #[.int .i64 lv] 3)).alloc (.cells #[.bool false,.bool false,.int .i64 0,.bool false,.bool false,.int .i64 0] 70)).alloc (.cells #[.bool false,.bool false,.int .i64 0,.bool false,.bool false,.int .i64 0] 70)) w'/\
  (w'.cell? ⟨w.heap.size+1+1+1,0,none⟩=some (.bool (Pg.dGood W lv))/\w'.cell? ⟨w.heap.size+1+1+1,1,none⟩=some (.bool (Pg.xL W lv))/\w'.cell? ⟨w.heap.size+1+1+1,2,none⟩=some (.int .i64 (Pg.xR W lv))/\w'.cell? ⟨w.heap.size+1+1+1,3,none⟩=some (.bool (Pg.xU W lv))/\w'.cell? ⟨w.heap.size+1+1+1,4,none⟩=some (.bool (Pg.xD W lv))/\w'.cell? ⟨w.heap.size+1+1+1,5,none⟩=some (.int .i64 (Pg.xF W lv)))) _ ?_ ?_).mono ?_
 ·intro w
  simp[go_sem]
 ·refine(decodeLook_any W lv h0 h1 w.heap.size (w.heap.size+1) (w.heap.size+1+1+1) _ ?_ ?_ ?_ ?_).mono ?_
  ·simp[go_sem]
  ·simp[go_sem]
  ·simp[go_sem]
  ·intro o
   simp[go_sem]
  ·rintro e w1 ⟨rfl,hb1,hc1,hk⟩
   obtain⟨k1,k2⟩:=hk (w.heap.size+1+1+1+1) (by omega) (by simp)
   have hs:((((w.alloc (.cells #[.int .u64 W] 64)).alloc (.cells #[.int .i64 lv] 3)).alloc (.cells #[.bool false,.bool false,.int .i64 0,.bool false,.bool false,.int .i64 0] 70)).alloc (.cells #[.bool false,.bool false,.int .i64 0,.bool false,.bool false,.int .i64 0] 70)).heap.size=w.heap.size+1+1+1+1:=by simp
   refine⟨rfl,⟨?_,hc1⟩,?_,?_⟩
   ·exact((Below.refl _ _).alloc (by simp) _).trans hb1
   ·rw[hs,k1]
    simp[go_sem]
   ·rw[hs,k2]
    simp[go_sem]
 ·rintro e w2 ⟨rfl,w1,⟨hb1,hc1⟩,hb2⟩
  have hc2:∀o,w2.cell? ⟨w.heap.size+1+1+1,o,none⟩=w1.cell? ⟨w.heap.size+1+1+1,o,none⟩:=fun o=>hb2.cell (p:=⟨w.heap.size+1+1+1,o,none⟩) (by simp)
  obtain⟨x0,x1,x2,x3,x4,x5⟩:=hc1
  have y0:=(hc2 0).trans x0
  have y1:=(hc2 1).trans x1
  have y2:=(hc2 2).trans x2
  have y3:=(hc2 3).trans x3
  have y4:=(hc2 4).trans x4
  have y5:=(hc2 5).trans x5
  clear x0 x1 x2 x3 x4 x5 hc2
  have hB2:=hb1.trans (hb2.mono (by simp))
  have r0:∀o,w2.cell? ⟨w.heap.size+1+1,o,none⟩=_:=fun o=>hB2.cell (p:=⟨w.heap.size+1+1,o,none⟩) (by simp)
  have f0:∀o,w2.frozen? ⟨w.heap.size+1+1,o,none⟩=_:=fun o=>hB2.frozen (p:=⟨w.heap.size+1+1,o,none⟩) (by simp)
  have HB:Hid _:=hB2
  clear hb1 hb2 hB2
  go_wp2_with fail
  rw[HV.out]
  refine bodyPost_ret (v:= .tuple #[.agg #[.bool (Pg.dGood W lv),.bool (Pg.xL W lv),.int .i64 (Pg.xR W lv),.bool (Pg.xU W lv),.bool (Pg.xD W lv),.int .i64 (Pg.xF W lv)],.int .i64 (Pg.dCode W lv)]) ?_ rfl ⟨rfl,?_⟩
  ·simp[results,Tryz.results205,go_sem,r0]
  ·have hA:=zA (zA (zA (zA (zR w) (.cells #[.int .u64 W] 64)) (.cells #[.int .i64 lv] 3)) (.cells #[.bool false,.bool false,.int .i64 0,.bool false,.bool false,.int .i64 0] 70)) (.cells #[.bool false,.bool false,.int .i64 0,.bool false,.bool false,.int .i64 0] 70)
   exact((((((hA.trans (HB.out.mono (by omega))).setCell (by simp;omega) _).setCell (by simp;omega) _).setCell (by simp;omega) _).setCell (by simp;omega) _).setCell (by simp;omega) _).setCell (by simp;omega) _
end Go.Proofs.YtkhnelgommaioaaGreat
