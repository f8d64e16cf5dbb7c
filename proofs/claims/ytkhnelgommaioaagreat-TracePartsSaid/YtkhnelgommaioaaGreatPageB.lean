import Derived.Test.YtkhnelgommaioaaGreatChecked
import Derived.Test.YtkhnelgommaioaaGreatHeap
namespace Go.Proofs.YtkhnelgommaioaaGreat
open Go.RowKit
set_option linter.unusedVariables false
theorem isBelow_any (n e:Int) (w:World):
 Calls Tryz.prog 174 #[.int .i64 n,.int .i64 e] w fun r w'=>r= .returned (.bool (Pg.below n e))/\w'=w:=by
 by_cases h:0<=n
 ·have hd:decide (0<=n)=true:=by simpa using h
  go_enter Tryz.func174,Tryz.ntmps174
  go_wp2
  go_ret
  exact⟨by simp[Pg.below,hd],rfl⟩
 ·have hd:decide (0<=n)=false:=by simpa using h
  go_enter Tryz.func174,Tryz.ntmps174
  go_wp2
  go_ret
  exact⟨by simp[Pg.below,hd],rfl⟩
theorem span_any (s:Int) (w:World):
 Calls Tryz.prog 154 #[.int .i64 s] w fun r w'=>r= .returned (.int .i64 (Pg.span s))/\w'=w:=by
 go_enter Tryz.func154,Tryz.ntmps154
 go_wp2
 all_goals
  go_ret
  exact⟨by simp_all[Pg.span],rfl⟩
theorem has_any (n:Int) (w:World):
 Calls Tryz.prog 173 #[.int .i64 n] w fun r w'=>r= .returned (.bool (Pg.below n 4096))/\w'=w:=by
 go_enter Tryz.func173,Tryz.ntmps173
 go_wp2_with (go_at_call 174;refine(isBelow_any _ _ _).mono ?_;rintro e w' ⟨rfl,rfl⟩)
 go_ret
 exact⟨rfl,rfl⟩
theorem areRights_any (n:Int) (w:World):
 Calls Tryz.prog 175 #[.int .i64 n] w fun r w'=>r= .returned (.bool (Pg.below n 8))/\w'=w:=by
 go_enter Tryz.func175,Tryz.ntmps175
 go_wp2_with (go_at_call 174;refine(isBelow_any _ _ _).mono ?_;rintro e w' ⟨rfl,rfl⟩)
 go_ret
 exact⟨rfl,rfl⟩
theorem isKind_any (k:Int) (w:World):
 Calls Tryz.prog 176 #[.int .i64 k] w fun r w'=>r= .returned (.bool (Pg.isKind k))/\w'=w:=by
 by_cases h0:(k==0)=true
 ·go_enter Tryz.func176,Tryz.ntmps176
  go_wp2
  go_ret
  exact⟨by simp[Pg.isKind,h0],rfl⟩
 ·have h0:(k==0)=false:=by simpa using h0
  by_cases h1:(k==1)=true
  ·go_enter Tryz.func176,Tryz.ntmps176
   go_wp2
   go_ret
   exact⟨by simp[Pg.isKind,h1],rfl⟩
  ·have h1:(k==1)=false:=by simpa using h1
   go_enter Tryz.func176,Tryz.ntmps176
   go_wp2
   go_ret
   exact⟨by simp[Pg.isKind,h0,h1],rfl⟩
theorem asks_any (p k:Int) (u:Bool) (w:World):
 Calls Tryz.prog 203 #[.agg #[.int .i64 p,.int .i64 k,.bool u]] w fun r w'=>r= .returned (.int .i64 (Pg.asks k u:Int))/\Below w.heap.size w w':=by
 cases u
 all_goals
  go_enter Tryz.func203,Tryz.ntmps203
  go_wp2
  all_goals
   go_ret
   exact⟨by simp_all[Pg.asks]<;>rfl,(Below.refl _ _).alloc (Nat.le_refl _) _⟩
theorem over_any (p s f r q:Int) (hp:Pg.fits p) (hq:Pg.fits q) (w:World):
 Calls Tryz.prog 179 #[.agg #[.int .i64 p,.int .i64 s,.int .i64 f,.int .i64 r],.int .i64 q] w fun e w'=>e= .returned (.bool (Pg.over p s q))/\Below w.heap.size w w':=by
 have hs:=Pg.span_bd s
 by_cases h:p<=q
 ·have hd:decide (p<=q)=true:=by simpa using h
  go_enter Tryz.func179,Tryz.ntmps179
  go_wp2
  go_quiet ((go_at_call 154;exact Calls.quiet_of_same (span_any _ _)))
  go_wp2
  go_ret
  exact⟨by rw[<-Pg.over_yes hp hq h];rfl,below_drewN ((Below.refl _ _).alloc (Nat.le_refl _) _) _⟩
 ·have hd:decide (p<=q)=false:=by simpa using h
  go_enter Tryz.func179,Tryz.ntmps179
  go_wp2
  go_quiet ((go_at_call 154;exact Calls.quiet_of_same (span_any _ _)))
  go_wp2
  go_ret
  exact⟨by rw[Pg.over_no hd];rfl,below_drewN ((Below.refl _ _).alloc (Nat.le_refl _) _) _⟩
theorem check_any (p s f r:Int) (w:World):
 Calls Tryz.prog 140 #[.agg #[.int .i64 p,.int .i64 s,.int .i64 f,.int .i64 r]] w fun e w'=>e= .returned (.int .i64 (Pg.check p s f r))/\Below w.heap.size w w':=by
 have hs:=Pg.span_bd s
 by_cases h0:Pg.span s=0
 ·have hb:(Pg.span s==0)=true:=by simpa using h0
  have H:Hid (Pg.span s=0):=h0
  clear h0
  go_enter Tryz.func140,Tryz.ntmps140
  go_wp2_with (first
   | (go_at_call 154;refine(span_any _ _).mono ?_;rintro e w' ⟨rfl,rfl⟩)
   | (go_at_call 173;refine(has_any _ _).mono ?_;rintro e w' ⟨rfl,rfl⟩)
   | (go_at_call 174;refine(isBelow_any _ _ _).mono ?_;rintro e w' ⟨rfl,rfl⟩)
   | (go_at_call 175;refine(areRights_any _ _).mono ?_;rintro e w' ⟨rfl,rfl⟩))
  go_ret
  exact⟨by rw[Pg.check_kind H.out];rfl,(Below.refl _ _).alloc (Nat.le_refl _) _⟩
 ·have hb:(Pg.span s==0)=false:=by simpa using h0
  have H:Hid (Pg.span s≠0):=h0
  have h1:1<=Pg.span s:=by omega
  clear h0
  by_cases hr:(!Pg.below p 4096|| !Pg.below f 1048576|| !Pg.below r 8)=true
  ·have HR:Hid ((!Pg.below p 4096|| !Pg.below f 1048576|| !Pg.below r 8)=true):=hr
   clear hr
   cases b1:Pg.below p 4096
   ·go_enter Tryz.func140,Tryz.ntmps140
    go_wp2_with (first
     | (go_at_call 154;refine(span_any _ _).mono ?_;rintro e w' ⟨rfl,rfl⟩)
     | (go_at_call 173;refine(has_any _ _).mono ?_;rintro e w' ⟨rfl,rfl⟩)
     | (go_at_call 174;refine(isBelow_any _ _ _).mono ?_;rintro e w' ⟨rfl,rfl⟩)
     | (go_at_call 175;refine(areRights_any _ _).mono ?_;rintro e w' ⟨rfl,rfl⟩))
    go_ret
    exact⟨by rw[Pg.check_range H.out HR.out];rfl,(Below.refl _ _).alloc (Nat.le_refl _) _⟩
   ·cases b2:Pg.below f 1048576
    ·go_enter Tryz.func140,Tryz.ntmps140
     go_wp2_with (first
      | (go_at_call 154;refine(span_any _ _).mono ?_;rintro e w' ⟨rfl,rfl⟩)
      | (go_at_call 173;refine(has_any _ _).mono ?_;rintro e w' ⟨rfl,rfl⟩)
      | (go_at_call 174;refine(isBelow_any _ _ _).mono ?_;rintro e w' ⟨rfl,rfl⟩)
      | (go_at_call 175;refine(areRights_any _ _).mono ?_;rintro e w' ⟨rfl,rfl⟩))
     go_ret
     exact⟨by rw[Pg.check_range H.out HR.out];rfl,(Below.refl _ _).alloc (Nat.le_refl _) _⟩
    ·cases b3:Pg.below r 8
     ·go_enter Tryz.func140,Tryz.ntmps140
      go_wp2_with (first
       | (go_at_call 154;refine(span_any _ _).mono ?_;rintro e w' ⟨rfl,rfl⟩)
       | (go_at_call 173;refine(has_any _ _).mono ?_;rintro e w' ⟨rfl,rfl⟩)
       | (go_at_call 174;refine(isBelow_any _ _ _).mono ?_;rintro e w' ⟨rfl,rfl⟩)
       | (go_at_call 175;refine(areRights_any _ _).mono ?_;rintro e w' ⟨rfl,rfl⟩))
      go_ret
      exact⟨by rw[Pg.check_range H.out HR.out];rfl,(Below.refl _ _).alloc (Nat.le_refl _) _⟩
     ·exact absurd HR.out (by simp[b1,b2,b3])
  ·have b1:Pg.below p 4096=true:=by cases h:Pg.below p 4096<;>simp_all
   have b2:Pg.below f 1048576=true:=by cases h:Pg.below f 1048576<;>simp_all
   have b3:Pg.below r 8=true:=by cases h:Pg.below r 8<;>simp_all
   clear hr
   have c1:=Pg.zB.1 b1
   have c2:=Pg.zB.1 b2
   have HA:Hid (Pg.check p s f r=if p%Pg.span s=0/\f%Pg.span s=0 then 0 else 3):=Pg.check_align H.out b1 b2 b3
   by_cases d1:p%Pg.span s=0
   ·have e1:(p%Pg.span s !=0)=false:=by simp[d1]
    have D1:Hid (p%Pg.span s=0):=d1
    clear d1
    by_cases d2:f%Pg.span s=0
    ·have e2:(f%Pg.span s !=0)=false:=by simp[d2]
     have D2:Hid (f%Pg.span s=0):=d2
     clear d2
     go_enter Tryz.func140,Tryz.ntmps140
     go_wp2_with (first
      | (go_at_call 154;refine(span_any _ _).mono ?_;rintro e w' ⟨rfl,rfl⟩)
      | (go_at_call 173;refine(has_any _ _).mono ?_;rintro e w' ⟨rfl,rfl⟩)
      | (go_at_call 174;refine(isBelow_any _ _ _).mono ?_;rintro e w' ⟨rfl,rfl⟩)
      | (go_at_call 175;refine(areRights_any _ _).mono ?_;rintro e w' ⟨rfl,rfl⟩))
     go_ret
     exact⟨by rw[HA.out,if_pos ⟨D1.out,D2.out⟩];rfl,(Below.refl _ _).alloc (Nat.le_refl _) _⟩
    ·have e2:(f%Pg.span s !=0)=true:=by simp[d2]
     have D2:Hid (¬f%Pg.span s=0):=d2
     clear d2
     go_enter Tryz.func140,Tryz.ntmps140
     go_wp2_with (first
      | (go_at_call 154;refine(span_any _ _).mono ?_;rintro e w' ⟨rfl,rfl⟩)
      | (go_at_call 173;refine(has_any _ _).mono ?_;rintro e w' ⟨rfl,rfl⟩)
      | (go_at_call 174;refine(isBelow_any _ _ _).mono ?_;rintro e w' ⟨rfl,rfl⟩)
      | (go_at_call 175;refine(areRights_any _ _).mono ?_;rintro e w' ⟨rfl,rfl⟩))
     go_ret
     exact⟨by rw[HA.out,if_neg (fun h=>D2.out h.2)];rfl,(Below.refl _ _).alloc (Nat.le_refl _) _⟩
   ·have e1:(p%Pg.span s !=0)=true:=by simp[d1]
    have D1:Hid (¬p%Pg.span s=0):=d1
    clear d1
    go_enter Tryz.func140,Tryz.ntmps140
    go_wp2_with (first
     | (go_at_call 154;refine(span_any _ _).mono ?_;rintro e w' ⟨rfl,rfl⟩)
     | (go_at_call 173;refine(has_any _ _).mono ?_;rintro e w' ⟨rfl,rfl⟩)
     | (go_at_call 174;refine(isBelow_any _ _ _).mono ?_;rintro e w' ⟨rfl,rfl⟩)
     | (go_at_call 175;refine(areRights_any _ _).mono ?_;rintro e w' ⟨rfl,rfl⟩))
    go_ret
    exact⟨by rw[HA.out,if_neg (fun h=>D1.out h.1)];rfl,(Below.refl _ _).alloc (Nat.le_refl _) _⟩
theorem meet_any (p s f r p' s' f' r':Int) (hp:Pg.fits p) (hq:Pg.fits p') (w:World):
 Calls Tryz.prog 213 #[.agg #[.int .i64 p,.int .i64 s,.int .i64 f,.int .i64 r],.agg #[.int .i64 p',.int .i64 s',.int .i64 f',.int .i64 r']] w fun e w'=>e= .returned (.bool (Pg.meet p s p' s'))/\Below w.heap.size w w':=by
 cases h:Pg.over p s p'
 ·have HM:Hid (Pg.meet p s p' s'=Pg.over p' s' p):=by simp[Hid,Pg.meet,h]
  go_enter Tryz.func213,Tryz.ntmps213
  go_wp2_with fail
  refine(over_any _ _ _ _ _ hp hq _).mono ?_
  rintro e w1 ⟨rfl,hb1⟩
  obtain⟨hc1,hf1⟩:=bcell hb1
  go_wp2_with fail
  refine(over_any _ _ _ _ _ hq hp _).mono ?_
  rintro e w2 ⟨rfl,hb2⟩
  go_wp2_with fail
  go_ret
  exact⟨by rw[HM.out];rfl,zT (zT (zA (zA (zR _) _) _) hb1) hb2⟩
 ·have HM:Hid (Pg.meet p s p' s'=true):=by simp[Hid,Pg.meet,h]
  go_enter Tryz.func213,Tryz.ntmps213
  go_wp2_with fail
  refine(over_any _ _ _ _ _ hp hq _).mono ?_
  rintro e w1 ⟨rfl,hb1⟩
  obtain⟨hc1,hf1⟩:=bcell hb1
  go_wp2_with fail
  go_ret
  exact⟨by rw[HM.out];rfl,zT (zA (zA (zR _) _) _) hb1⟩
theorem may_any (r p k:Int) (u:Bool) (w:World):
 Calls Tryz.prog 180 #[.int .i64 r,.agg #[.int .i64 p,.int .i64 k,.bool u]] w fun e w'=>e= .returned (.bool (Pg.may r k u))/\Below w.heap.size w w':=by
 have HM:Hid _:=Pg.may_eq r k u
 go_enter Tryz.func180,Tryz.ntmps180
 go_wp2_with fail
 refine(asks_any _ _ _ _).mono ?_
 rintro e w1 ⟨rfl,hb1⟩
 generalize ha:Pg.asks k u=a at*
 have HA:=ha
 clear ha
 go_wp2_with fail
 go_ret
 exact⟨by rw[<-HM.out];rfl,zT (zA (zR _) _) hb1⟩
theorem checkAccess_any (p k:Int) (u:Bool) (w:World):
 Calls Tryz.prog 141 #[.agg #[.int .i64 p,.int .i64 k,.bool u]] w fun e w'=>e= .returned (.int .i64 (Pg.zK p k))/\Below w.heap.size w w':=by
 cases h1:Pg.isKind k<;>cases h2:Pg.below p 4096
 all_goals
  go_enter Tryz.func141,Tryz.ntmps141
  go_wp2_with (first
   | (go_at_call 176;refine(isKind_any _ _).mono ?_;rintro e w' ⟨rfl,rfl⟩)
   | (go_at_call 173;refine(has_any _ _).mono ?_;rintro e w' ⟨rfl,rfl⟩))
  go_ret
  exact⟨by simp[Pg.zK,h1,h2],(Below.refl _ _).alloc (Nat.le_refl _) _⟩
theorem answer_any0 (p s f r q k:Int) (u:Bool) (w:World):
 Calls Tryz.prog 144 #[.agg #[.int .i64 p,.int .i64 s,.int .i64 f,.int .i64 r],.agg #[.int .i64 q,.int .i64 k,.bool u]] w fun e w'=>
  e= .returned (if Pg.may r k u=true then .agg #[.int .i64 0,.int .i64 (wrap64 (f+wrap64 (q-p))),.int .i64 r]else .agg #[.int .i64 2,.int .i64 0,.int .i64 0])/\Below w.heap.size w w':=by
 cases h:Pg.may r k u
 ·go_enter Tryz.func144,Tryz.ntmps144
  go_wp2_with fail
  refine(may_any _ _ _ _ _).mono ?_
  rintro e w1 ⟨rfl,hb1⟩
  obtain⟨hc1,hf1⟩:=bcell hb1
  have hz:w.heap.size+2<w1.heap.size:=by have:=hb1.size;simp at this;omega
  go_wp2_with fail
  refine bodyPost_ret (v:= .agg #[.int .i64 2,.int .i64 0,.int .i64 0]) ?_ rfl ⟨by simp,?_⟩
  ·simp[results,Tryz.results144,go_sem,hc1]
  ·exact(((zT (zA (zA (zA (zR _) _) _) _) hb1).setCell (by simp;omega) _).setCell (by simp;omega) _).setCell (by simp;omega) _
 ·go_enter Tryz.func144,Tryz.ntmps144
  go_wp2_with fail
  refine(may_any _ _ _ _ _).mono ?_
  rintro e w1 ⟨rfl,hb1⟩
  obtain⟨hc1,hf1⟩:=bcell hb1
  have hz:w.heap.size+2<w1.heap.size:=by have:=hb1.size;simp at this;omega
  go_wp2_with fail
  refine bodyPost_ret (v:= .agg #[.int .i64 0,.int .i64 (wrap64 (f+wrap64 (q-p))),.int .i64 r]) ?_ rfl ⟨by simp,?_⟩
  ·simp[results,Tryz.results144,go_sem,hc1]
  ·exact(((zT (zA (zA (zA (zR _) _) _) _) hb1).setCell (by simp;omega) _).setCell (by simp;omega) _).setCell (by simp;omega) _
theorem answer_any (p s f r q k:Int) (u:Bool) (w:World):
 Calls Tryz.prog 144 #[.agg #[.int .i64 p,.int .i64 s,.int .i64 f,.int .i64 r],.agg #[.int .i64 q,.int .i64 k,.bool u]] w fun e w'=>
  e= .returned (.agg #[.int .i64 (Pg.aEnd r k u),.int .i64 (Pg.aFrame p f r q k u),.int .i64 (Pg.aRights r k u)])/\Below w.heap.size w w':=by
 refine(answer_any0 p s f r q k u w).mono ?_
 rintro e w' ⟨rfl,hb⟩
 refine⟨?_,hb⟩
 unfold Pg.aEnd Pg.aFrame Pg.aRights
 split<;>rfl
theorem index_any (p l:Int) (w:World):
 Calls Tryz.prog 197 #[.int .i64 p,.int .i64 l] w fun e w'=>e= .returned (.int .i64 (Pg.index p l))/\w'=w:=by
 cases h1:Pg.below p 4096
 ·have HI:Hid (Pg.index p l= -1):=by simp[Hid,Pg.index,h1]
  go_enter Tryz.func197,Tryz.ntmps197
  go_wp2_with (first
   | (go_at_call 174;refine(isBelow_any _ _ _).mono ?_;rintro e w' ⟨rfl,rfl⟩)
   | (go_at_call 173;refine(has_any _ _).mono ?_;rintro e w' ⟨rfl,rfl⟩))
  go_ret
  exact⟨by rw[HI.out];rfl,rfl⟩
 ·cases h2:Pg.below l 4
  ·have HI:Hid (Pg.index p l= -1):=by simp[Hid,Pg.index,h2]
   go_enter Tryz.func197,Tryz.ntmps197
   go_wp2_with (first
    | (go_at_call 174;refine(isBelow_any _ _ _).mono ?_;rintro e w' ⟨rfl,rfl⟩)
    | (go_at_call 173;refine(has_any _ _).mono ?_;rintro e w' ⟨rfl,rfl⟩))
   go_ret
   exact⟨by rw[HI.out];rfl,rfl⟩
  ·have HI:Hid (Pg.index p l=p/8^l.toNat%8):=by simp[Hid,Pg.index,h1,h2]
   have c1:=Pg.zB.1 h1
   have c2:=Pg.zB.1 h2
   go_enter Tryz.func197,Tryz.ntmps197
   go_wp2_with (first
    | (go_at_call 174;refine(isBelow_any _ _ _).mono ?_;rintro e w' ⟨rfl,rfl⟩)
    | (go_at_call 173;refine(has_any _ _).mono ?_;rintro e w' ⟨rfl,rfl⟩))
   go_loop [0,14] (fun a i=>∃(k:Nat) (q:Int),(k:Int)<=l/\i= .int .i64 k/\a= .int .i64 q/\0<=q/\q<4096/\Hid (q=p/8^k)) (fun _ i=>(l-intOf i).toNat)
   case atStart=>exact⟨0,p,by omega,rfl,rfl,by omega,by omega,by simp[Hid]⟩
   case round=>
    obtain⟨k,q,hk,rfl,rfl,q0,q1,HQ⟩:=hrel
    by_cases hlt:(k:Int)<l
    ·go_wp2
     go_round
     case rel=>exact⟨k+1,q/8,by omega,by go_num,rfl,by omega,by omega,by simp only[Hid];rw[HQ.out,Int.ediv_ediv_of_nonneg (Int.pow_nonneg (by decide)),<-Int.pow_succ]⟩
     case measure=>simp[intOf];omega
    ·go_wp2
     go_ret
     have hkl:l.toNat=k:=by omega
     exact⟨by rw[HI.out,hkl,<-HQ.out];rfl,rfl⟩
end Go.Proofs.YtkhnelgommaioaaGreat
