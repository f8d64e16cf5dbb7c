import Derived.Test.YtdphiompijbelaaGreatPageRef
import Derived.BigGuardPart
set_option linter.all false
set_option maxHeartbeats 4000000
namespace Go.Proofs.YtdphiompijbelaaGreat
open Go.RowKit Go.Sort
theorem zX (t l:Bool) (r:Int) (u d:Bool) (f lv:Int) (w:World):
 Calls Tryz.prog 122 #[.agg #[.bool t,.bool l,.int .i64 r,.bool u,.bool d,.int .i64 f],.int .i64 lv] w fun e w'=>e= .returned (.int .i64 (Pg.yhj t l r u d f lv))/\Below w.heap.size w w':=by
 by_cases hl:lv<0\/3<lv
 ·have HF:Hid (Pg.yhj t l r u d f lv=1):=by simp[Hid,Pg.yhj,hl]
  rcases hl with h|h
  all_goals
   go_enter Tryz.func122,Tryz.ntmps122
   go_wp2_with fail
   go_ret
   exact⟨by rw[HF.out];rfl,zA (zR _) _⟩
 ·have l0:0<=lv:=by omega
  have l3:lv<=3:=by omega
  clear hl;cases t
  ·go_enter Tryz.func122,Tryz.ntmps122
   go_wp2_with fail
   all_goals
    go_ret
    exact⟨zJ (by simp_all[Pg.yhj]<;>omega),zA (zR _) _⟩
  ·have hs:=Pg.yhx lv
   have hs1:1<=Pg.span lv\/lv=3:=by rcases Pg.yht lv with h|h|h|h<;>omega
   go_enter Tryz.func122,Tryz.ntmps122
   go_wp2_with fail
   all_goals first
    | (go_ret;exact⟨zJ (by simp_all[Pg.yhj]<;>omega),zA (zR _) _⟩)
    | (have h1:1<=Pg.span lv:=by omega
       clear hs1
       go_quiet ((go_at_call 123;exact Calls.quiet_of_same (zr _ _)))
       go_wp2_with fail
       all_goals
        go_ret
        exact⟨zJ (by simp_all[Pg.yhj]<;>omega),below_drewN (zA (zR _) _) _⟩)
theorem jf (t l:Bool) (r:Int) (u d:Bool) (f lv:Int) (w:World):
 Calls Tryz.prog 108 #[.agg #[.bool t,.bool l,.int .i64 r,.bool u,.bool d,.int .i64 f],.int .i64 lv] w fun e w'=>
  e= .returned (.tuple #[.int .u64 (Pg.enc t l r u d f lv),.int .i64 (Pg.yhj t l r u d f lv)])/\Below w.heap.size w w':=by
 by_cases hf:Pg.yhj t l r u d f lv=0
 ·have hn:(Pg.yhj t l r u d f lv !=0)=false:=by simp[hf]
  have HW:Hid (Pg.enc t l r u d f lv=Pg.yiq t l r u d f lv):=by simp[Hid,Pg.enc,hf]
  have HF:Hid (Pg.yhj t l r u d f lv=0):=hf
  have hb:t=false\/(t=true/\0<=r/\r<=7/\0<=f/\f<1048576):=by
   cases t
   ·exact .inl rfl
   ·right
    have:=hf;simp only[Pg.yhj]at this;refine⟨rfl,?_⟩;split at this
    ·omega
    ·rename_i hb
     simp only[Bool.true_eq_false,if_false]at this;split at this
     ·omega
     ·omega
  clear hf;rcases hb with rfl|⟨rfl,r0,r1,f0,f1⟩
  ·go_enter Tryz.func108,Tryz.ntmps108
   go_wp2_with fail
   refine(zX _ _ _ _ _ _ _ _).mono ?_;rintro e w1 ⟨rfl,hb1⟩;obtain⟨hc1,hf1⟩:=xQ hb1
   go_wp2_with fail
   go_ret2
   exact⟨ybk (by rw[HW.out];rfl) HF.out.symm,zT (zA (zR _) _) hb1⟩
  ·go_enter Tryz.func108,Tryz.ntmps108
   go_wp2_with fail
   refine(zX _ _ _ _ _ _ _ _).mono ?_;rintro e w1 ⟨rfl,hb1⟩;obtain⟨hc1,hf1⟩:=xQ hb1
   go_wp2_with fail
   all_goals
    go_ret2
    exact⟨ybk (by have:=HW.out;simp_all[Pg.yiq,Pg.b01]<;>omega) (by have:=HF.out;simp_all),zT (zA (zR _) _) hb1⟩
 ·have hn:(Pg.yhj t l r u d f lv !=0)=true:=by simp[hf]
  have HW:Hid (Pg.enc t l r u d f lv=0):=by simp[Hid,Pg.enc,hf]
  clear hf
  go_enter Tryz.func108,Tryz.ntmps108
  go_wp2_with fail
  refine(zX _ _ _ _ _ _ _ _).mono ?_;rintro e w1 ⟨rfl,hb1⟩;obtain⟨hc1,hf1⟩:=xQ hb1
  go_wp2_with fail
  go_ret2
  exact⟨ybk HW.out.symm rfl,zT (zA (zR _) _) hb1⟩
end Go.Proofs.YtdphiompijbelaaGreat
