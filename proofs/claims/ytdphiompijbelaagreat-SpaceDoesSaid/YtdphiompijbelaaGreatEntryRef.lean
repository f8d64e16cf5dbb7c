import Derived.Test.YtdphiompijbelaaGreatPageRef
import Derived.BigGuardPart
set_option linter.all false
set_option maxHeartbeats 4000000
namespace Go.Proofs.YtdphiompijbelaaGreat
open Go.RowKit Go.Sort
theorem zJ (t l:Bool) (r:Int) (u d:Bool) (f lv:Int) (w:World):
 Calls Tryz.prog 122 #[.agg #[.bool t,.bool l,.int .i64 r,.bool u,.bool d,.int .i64 f],.int .i64 lv] w fun e w'=>e= .returned (.int .i64 (Pg.ygu t l r u d f lv))/\Below w.heap.size w w':=by
 by_cases hl:lv<0\/3<lv
 ·have HF:Hid (Pg.ygu t l r u d f lv=1):=by simp[Hid,Pg.ygu,hl]
  rcases hl with h|h
  all_goals
   go_enter Tryz.func122,Tryz.ntmps122
   go_wp2_with fail
   go_ret
   exact⟨by rw[HF.out];rfl,zA (zR _) _⟩
 ·have l0:0<=lv:=by omega
  have l3:lv<=3:=by omega
  clear hl;cases t
  ·go_enter Tryz.func122,Tryz.ntmps122
   go_wp2_with fail
   all_goals
    go_ret
    exact⟨xJ (by simp_all[Pg.ygu]<;>omega),zA (zR _) _⟩
  ·have hs:=Pg.ygV lv
   have hs1:1<=Pg.span lv\/lv=3:=by rcases Pg.ygF lv with h|h|h|h<;>omega
   go_enter Tryz.func122,Tryz.ntmps122
   go_wp2_with fail
   all_goals first
    | (go_ret;exact⟨xJ (by simp_all[Pg.ygu]<;>omega),zA (zR _) _⟩)
    | (have h1:1<=Pg.span lv:=by omega
       clear hs1
       go_quiet ((go_at_call 123;exact Calls.quiet_of_same (zn _ _)))
       go_wp2_with fail
       all_goals
        go_ret
        exact⟨xJ (by simp_all[Pg.ygu]<;>omega),below_drewN (zA (zR _) _) _⟩)
theorem qR (t l:Bool) (r:Int) (u d:Bool) (f lv:Int) (w:World):
 Calls Tryz.prog 108 #[.agg #[.bool t,.bool l,.int .i64 r,.bool u,.bool d,.int .i64 f],.int .i64 lv] w fun e w'=>
  e= .returned (.tuple #[.int .u64 (Pg.enc t l r u d f lv),.int .i64 (Pg.ygu t l r u d f lv)])/\Below w.heap.size w w':=by
 by_cases hf:Pg.ygu t l r u d f lv=0
 ·have hn:(Pg.ygu t l r u d f lv !=0)=false:=by simp[hf]
  have HW:Hid (Pg.enc t l r u d f lv=Pg.yg2 t l r u d f lv):=by simp[Hid,Pg.enc,hf]
  have HF:Hid (Pg.ygu t l r u d f lv=0):=hf
  have hb:t=false\/(t=true/\0<=r/\r<=7/\0<=f/\f<1048576):=by
   cases t
   ·exact .inl rfl
   ·right
    have:=hf;simp only[Pg.ygu]at this;refine⟨rfl,?_⟩;split at this
    ·omega
    ·rename_i hb
     simp only[Bool.true_eq_false,if_false]at this;split at this
     ·omega
     ·omega
  clear hf;rcases hb with rfl|⟨rfl,r0,r1,f0,f1⟩
  ·go_enter Tryz.func108,Tryz.ntmps108
   go_wp2_with fail
   refine(zJ _ _ _ _ _ _ _ _).mono ?_;rintro e w1 ⟨rfl,hb1⟩;obtain⟨hc1,hf1⟩:=xE hb1
   go_wp2_with fail
   go_ret2
   exact⟨yaR (by rw[HW.out];rfl) HF.out.symm,zT (zA (zR _) _) hb1⟩
  ·go_enter Tryz.func108,Tryz.ntmps108
   go_wp2_with fail
   refine(zJ _ _ _ _ _ _ _ _).mono ?_;rintro e w1 ⟨rfl,hb1⟩;obtain⟨hc1,hf1⟩:=xE hb1
   go_wp2_with fail
   all_goals
    go_ret2
    exact⟨yaR (by have:=HW.out;simp_all[Pg.yg2,Pg.b01]<;>omega) (by have:=HF.out;simp_all),zT (zA (zR _) _) hb1⟩
 ·have hn:(Pg.ygu t l r u d f lv !=0)=true:=by simp[hf]
  have HW:Hid (Pg.enc t l r u d f lv=0):=by simp[Hid,Pg.enc,hf]
  clear hf
  go_enter Tryz.func108,Tryz.ntmps108
  go_wp2_with fail
  refine(zJ _ _ _ _ _ _ _ _).mono ?_;rintro e w1 ⟨rfl,hb1⟩;obtain⟨hc1,hf1⟩:=xE hb1
  go_wp2_with fail
  go_ret2
  exact⟨yaR HW.out.symm rfl,zT (zA (zR _) _) hb1⟩
end Go.Proofs.YtdphiompijbelaaGreat
