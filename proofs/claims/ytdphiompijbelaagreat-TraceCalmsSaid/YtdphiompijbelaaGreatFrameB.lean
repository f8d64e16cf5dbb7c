import Derived.Test.YtdphiompijbelaaGreatMapInfo
import Derived.Defers
import Derived.Recover
import Derived.Laws.CopyRow
import Derived.Laws.AppendOwn
import Derived.Lib.AppendZerosOnto
import Derived.ArgAppend
import Derived.Test.YtdphiompijbelaaGreatRows
import Derived.ProofKit
import Derived.OpenShut
import Derived.Lib.SmallJoins
import Derived.Deep.Slices
import Derived.Laws.LoneSync
set_option linter.all false
set_option maxRecDepth 100000
open Int renaming natCast_add->yG
open Array renaming getElem?_eq_some_iff->yH,length_toList->yy
open Go.Obj renaming cells->yJ
open Go.RowKit renaming Hid->ue
open Nat renaming le_refl->ua,add_mul->yN,mul_le_mul_right->yZ,one_mul->yU,le_of_lt->yX,lt_of_lt_of_le->yj,add_sub_cancel->yq,add_zero->yr,le_trans->yw,min->gS
open Go.World renaming cell?_setCell_other->ud,block_lt_of_cell?->yC,cell?_setCell_same->yM,cells?_some->yv
open Go.Ending renaming returned->uv
open List renaming length_append->un,take_append_of_le_length->ur,take_of_length_le->uc,length_take->yP,findIdx?_eq_some_iff_getElem->yV,append_assoc->yQ,length_drop->yO,drop_eq_nil_of_le->yD,drop_append_of_le_length->yA,findIdx?_eq_none_iff->yL,take_take->yW,filter_append->yk,mem_singleton->yn,drop_sublist->yu,filter_cons->yo,map_toArray->yp,append_nil->yd,nil_append->yc,filter_nil->ya,drop_take->yb,map_cons->ym,map_nil->yh
open Go renaming World->ki,Value->kh,bodyPost_ret->yS,Calls->yR,cell_later->yT
open Go.Proofs.Tryz renaming prog->kO
open Bool renaming false->U,true->kp,true_eq_false->yz,false_eq_true->yi,eq_iff_iff->yg
open Go.IntKind renaming i64->Z,u64->yK
open Go.Value renaming int->J,bool->N,pointer->yI,slice->yB,agg->yY,tuple->yF,ownBlock->yE,okWide->yt,cells->ye
open Option renaming none->I,some->O
set_option maxHeartbeats 4000000
namespace Go.Proofs.YtdphiompijbelaaGreat
open Go.RowKit
section
open Go.Sort
def give (c:Int):Ending:=if c=0 then uv (yF #[])else .panicked [{v:= .iface 273 (yY #[J Z c]),recovered:=U}]
theorem zZ:give 0=uv (yF #[]):=rfl
theorem zO {c:Int} (h:c≠0):give c= .panicked [{v:= .iface 273 (yY #[J Z c]),recovered:=U}]:=iN h
theorem vM (c:Int) (w:ki):
 yR kO 224 #[N U,J Z c] w fun e w'=>e=uv (yF #[])/\w'=w:=by
 go_enter Tryz.func224,Tryz.ntmps224
 go_wp2
 go_end0
 exact⟨rfl,rfl⟩
theorem vd (c:Int) (w:ki):
 yR kO 224 #[N kp,J Z c] w fun e w'=>e= .panicked [{v:= .iface 273 (yY #[J Z c]),recovered:=U}]/\w'=w:=by
 go_enter Tryz.func224,Tryz.ntmps224
 go_wp2
 exact⟨rfl,rfl,rfl⟩
theorem ze (so:Bool) (c:Int) (w:ki):
 yR kO 224 #[N so,J Z c] w fun e w'=>e=(bif so then .panicked [{v:= .iface 273 (yY #[J Z c]),recovered:=U}]else uv (yF #[]))/\w'=w:=by
 cases so
 ·exact vM c w
 ·exact vd c w
theorem yaO (p:Addr) (v:kh):#[Value.pointer (O p)]++((Array.replicate 16 undef).setIfInBounds 3 v).setIfInBounds 0 v=#[yI (O p),v,undef,undef,v,undef,undef,undef,undef,undef,undef,undef,undef,undef,undef,undef,undef]:=rfl
theorem ydv (p:Addr) (w:ki):
 CallsD kO 222 #[yI (O p)] .returning w fun e u' w'=>e=uv (yF #[])/\u'= .returning/\w'=w:=by
 refine callsD_of_wpS Tryz.func222 rfl fun c₀ cs hu=> ?_
 apply wpS_seq
 apply wpS_region
 simp[wpOpsS,go_sem,recoverD,hu,Tryz.ntmps222,Exit.thenS];refine wpS_of_wp ?_;rw[yaO]
 go_wp2
 cases c₀
 simp_all[bodyPostS,results,Tryz.results222]
theorem yfB (p:Addr) (c:Int) (w:ki) (hc:w.cell? p=O (J Z 0)) (hz:w.frozen? p=U):
 CallsD kO 222 #[yI (O p)] (.panicking [{v:= .iface 273 (yY #[J Z c]),recovered:=U}]) w fun e u' w'=>
  e=uv (yF #[])/\u'= .panicking [{v:= .iface 273 (yY #[J Z c]),recovered:=kp}]/\w'.cell? p=O (J Z c)/\Below p.block w w':=by
 have hta:∀(v:kh) (w:ki),(Instr.typeAssert (.iface 273 v) 20 273 kp).run kO w= .ok (yF #[v,N kp]) w:=fun _ _=>by kernel_rfl
 have Hf:p.block<w.heap.size:=yC _ _ hc;have rX:∀o,(w.alloc o).frozen? p=U:=fun o=>((zA (zR w) o).frozen Hf).trans hz;have tY:∀o,(w.alloc o).cell? p=O (J Z 0):=fun o=>((zA (zR w) o).cell Hf).trans hc;refine callsD_of_wpS Tryz.func222 rfl fun c₀ cs hu=> ?_
 apply wpS_seq
 apply wpS_region
 simp[wpOpsS,go_sem,recoverD,hu,Tryz.ntmps222,Exit.thenS];refine wpS_of_wp ?_;rw[yaO]
 go_wp2
 refine⟨rfl,_,rfl,yF #[],by simp[results,Tryz.results222],rfl,rfl,yM _ _ _ (tY _),((Below.refl p.block w).alloc (by omega) _).setCell (ua _) _⟩
theorem jP (f:FuncId) (wV:Array kh) (c:Int) (R:ki->Prop) (w:ki)
 (hf:∀w,(callFunc f wV).run kO w= .ok (.enter f wV) w) (h:yR kO f wV (w.alloc (yJ #[J Z 0] 3)) fun e w'=>e=give c/\R w'/\w'.cell? ⟨w.heap.size,0,I⟩=O (J Z 0)/\w'.frozen? ⟨w.heap.size,0,I⟩=U):
 yR kO 197 #[.func (.func f) #[] wV] w fun e w'=>e=uv (J Z c)/\∃w1,R w1/\Below w.heap.size w1 w':=by
 have aU:∀(fn:Fn) (first cap:Array kh) (w:ki),(Instr.makeFunc fn first cap).run kO w= .ok (.func fn first cap) w:=fun _ _ _ _=>rfl
 go_enter_defers Tryz.func197,Tryz.ntmps197
 go_wp2_with fail
 refine h.mono ?_;rintro e w1 ⟨rfl,hR,hc,hz⟩
 by_cases h0:c=0
 ·rw[h0,zZ]
  go_wp2_with fail
  refine leaves_cons (f:=222) (args:=#[yI (O ⟨w.heap.size,0,I⟩)]) (by simp) (by simp[go_sem]) ?_;refine(ydv ⟨w.heap.size,0,I⟩ _).mono ?_;rintro e u' w'' ⟨rfl,rfl,rfl⟩;simp[Leaves,settle,results,Tryz.results197,go_sem,hc];exact⟨h0.symm,w1,hR,(Below.refl w.heap.size w1).setCell (p:=⟨w.heap.size,0,I⟩) (ua _) _⟩
 ·rw[zO h0]
  go_wp2_with fail
  refine leaves_cons (f:=222) (args:=#[yI (O ⟨w.heap.size,0,I⟩)]) (by simp) (by simp[go_sem]) ?_;refine(yfB ⟨w.heap.size,0,I⟩ c _ hc hz).mono ?_;rintro e u' w'' ⟨rfl,rfl,lM,hb⟩;simp[Leaves,settle,results,Tryz.results197,go_sem,lM];exact⟨w1,hR,hb⟩
theorem qT (lv:Int) (h:lv<0\/3<lv) (w:ki):
 yR kO 223 #[J Z lv] w fun e w'=>e= .panicked [{v:= .iface 273 (yY #[J Z 1]),recovered:=U}]/\w'=w:=by
 rcases h with h|h
 all_goals
  go_enter Tryz.func223,Tryz.ntmps223
  go_wp2_with (go_at_call 224;refine(vd _ _).mono ?_;rintro e w' ⟨rfl,rfl⟩)
  exact⟨rfl,rfl,rfl⟩
theorem zk (lv:Int) (h:0<=lv) (h':lv<=3) (w:ki):
 yR kO 223 #[J Z lv] w fun e w'=>e=uv (yF #[])/\w'=w:=by
 have d1:decide (lv<0)=U:=by simpa using h
 have d2:decide (3<lv)=U:=by simpa using h'
 clear h h'
 go_enter Tryz.func223,Tryz.ntmps223
 go_wp2_with (go_at_call 224;refine(vM _ _).mono ?_;rintro e w' ⟨rfl,rfl⟩)
 go_end0
 exact⟨rfl,rfl⟩
theorem xY (t l:Bool) (r:Int) (u d:Bool) (f lv:Int) (w:ki):
 yR kO 187 #[yY #[N t,N l,J Z r,N u,N d,J Z f],J Z lv] w fun e w'=>e=uv (yY #[J Z 0,J Z lv,J Z f,J Z r])/\Lw w w':=by
 go_enter Tryz.func187,Tryz.ntmps187
 go_wp2
 refine yS (v:=yY #[J Z 0,J Z lv,J Z f,J Z r]) ?_ rfl ⟨rfl,?_⟩
 ·simp[results,Tryz.results187,go_sem]
 ·exact zA (zA (zR _) _) _
theorem ydg (t l:Bool) (r:Int) (u d:Bool) (f lv:Int) (h:Pg.yhN t l r u d f lv=0) (w:ki):
 yR kO 200 #[yY #[N t,N l,J Z r,N u,N d,J Z f],J Z lv] w fun e w'=>e=uv (J yK (Pg.yiY t l r u d f lv))/\Lw w w':=by
 obtain⟨⟨l0,l3⟩,hc⟩:=Pg.yh0 h;clear h;rcases hc with ⟨rfl,rfl,rfl,rfl,rfl,rfl⟩|⟨rfl,r0,r1,f0,f1,hc⟩
 ·go_enter Tryz.func200,Tryz.ntmps200
  go_wp2
  go_ret
  exact⟨rfl,zA (zR _) _⟩
 ·clear hc
  have HO:ue _:=Pg.word_or r f r0 r1 f0 f1
  cases u<;>cases d<;>cases l
  all_goals
   go_enter Tryz.func200,Tryz.ntmps200
   go_wp2_with fail
  all_goals
   go_ret
   refine⟨zy ?_,zA (zR _) _⟩;obtain⟨o1,o2,o3,o4,o5,o6,o7,o8⟩:=HO.out;simp only[o1,o2,o3,o4,o5,o6,o7,o8]
   simp_all[Pg.yiY,Pg.b01]<;>omega
theorem yfW (W lv:Int) (h0:0<=W) (h1:W<4294967296) (h2:W%2=1) (w:ki):
 yR kO 229 #[J yK W,J Z lv] w fun e w'=>e=uv (yY #[N kp,N (Pg.yir W lv),J Z (W/2%8),N (Pg.yio W),N (Pg.yh3 W),J Z (W/4096)])/\Lw w w':=by
 have wW:W<18446744073709551616:=by omega
 have b0:(bits .and yK W 1==0)=U:=by rw[Pg.and1 W h0 wW,h2];rfl
 have b5:(bits .and yK W 32 !=0)=Pg.yio W:=by rw[Pg.and32 W h0 wW,yg];simp[Pg.yio];omega
 have b6:(bits .and yK W 64 !=0)=Pg.yh3 W:=by rw[Pg.and64 W h0 wW,yg];simp[Pg.yh3];omega
 have b1:wrap64 (bits .and yK W 14/2)=W/2%8:=by
  rw[Pg.and14 W h0 wW,wrap64];omega
 have bF:wrap64 (bits .and yK W 4294963200/4096)=W/4096:=by
  rw[Pg.andF W h0 wW,wrap64];omega
 by_cases h7:W/128%2=1
 ·have b7:(bits .and yK W 128 !=0)=kp:=by rw[Pg.ylA W h0 wW,h7];rfl
  have HL:ue (Pg.yir W lv=kp):=by simp[ue,Pg.yir,h7]
  clear h7 h2
  go_enter Tryz.func229,Tryz.ntmps229
  go_wp2
  refine yS (v:=yY #[N kp,N kp,J Z (W/2%8),N (Pg.yio W),N (Pg.yh3 W),J Z (W/4096)]) ?_ rfl ⟨by rw[HL.out],?_⟩
  ·simp[results,Tryz.results229,go_sem]
  ·exact zA (zR _) _
 ·have b7:(bits .and yK W 128 !=0)=U:=by
   have:W/128%2=0:=by omega
   rw[Pg.ylA W h0 wW,this];rfl
  have HL:ue (Pg.yir W lv=(lv==0)):=by
   simp only[ue,Pg.yir,h7,decide_false,Bool.or_false];rfl
  clear h7 h2
  go_enter Tryz.func229,Tryz.ntmps229
  go_wp2
  refine yS (v:=yY #[N kp,N (lv==0),J Z (W/2%8),N (Pg.yio W),N (Pg.yh3 W),J Z (W/4096)]) ?_ rfl ⟨by rw[HL.out],?_⟩
  ·simp[results,Tryz.results229,go_sem]
  ·exact zA (zR _) _
theorem yjY (lv:Int) (w:ki):
 yR kO 229 #[J yK 0,J Z lv] w fun e w'=>e=uv (yY #[N U,N U,J Z 0,N U,N U,J Z 0])/\Lw w w':=by
 have b0:(bits .and yK 0 1==0)=kp:=by decide
 go_enter Tryz.func229,Tryz.ntmps229
 go_wp2
 refine yS (v:=yY #[N U,N U,J Z 0,N U,N U,J Z 0]) ?_ rfl ⟨rfl,?_⟩
 ·simp[results,Tryz.results229,go_sem]
 ·exact zA (zR _) _
theorem yay (W lv:Int) (h0:0<=W) (h1:W<18446744073709551616) (w:ki):
 yR kO 228 #[J yK W,J Z lv] w fun e w'=>e=give (if lv<0\/3<lv then 1 else if Pg.wBad W lv=kp then 7 else 0)/\w'=w:=by
 by_cases hl:lv<0\/3<lv
 ·rw[iP hl]
  go_enter Tryz.func228,Tryz.ntmps228
  go_wp2_with (go_at_call 223;refine(qT _ hl _).mono ?_;rintro e w' ⟨rfl,rfl⟩)
  exact⟨rfl,rfl,rfl⟩
 ·rw[iN hl]
  have l0:0<=lv:=by omega
  have l3:lv<=3:=by omega
  clear hl;have hw:=Pg.wBad_eq W lv h0 h1;have HW:ue _:=hw;clear hw;generalize hg:(if Pg.wBad W lv=kp then(7:Int)else 0)=g;have HG:ue _:=hg;clear hg;cases c1:(bits .andNot yK W 4294963439 !=0)
  ·cases c2:(bits .and yK W 1==0)
   ·cases c4:(bits .and yK W 128 !=0)
    ·go_enter Tryz.func228,Tryz.ntmps228
     go_wp2_with (first
      | (go_at_call 223;refine(zk _ l0 l3 _).mono ?_;rintro e w' ⟨rfl,rfl⟩)
      | (go_at_call 224;refine(ze _ _ _).mono ?_;rintro e w' ⟨rfl,rfl⟩;simp only[cond]))
     go_end0
     exact⟨by rw[<-HG.out,HW.out,c1,c2,c4];rfl,rfl⟩
    ·cases c5:(lv==0)
     ·go_enter Tryz.func228,Tryz.ntmps228
      go_wp2_with (first
       | (go_at_call 223;refine(zk _ l0 l3 _).mono ?_;rintro e w' ⟨rfl,rfl⟩)
       | (go_at_call 224;refine(ze _ _ _).mono ?_;rintro e w' ⟨rfl,rfl⟩;simp only[cond]))
      go_end0
      exact⟨by rw[<-HG.out,HW.out,c1,c2,c4,c5];rfl,rfl⟩
     ·go_enter Tryz.func228,Tryz.ntmps228
      go_wp2_with (first
       | (go_at_call 223;refine(zk _ l0 l3 _).mono ?_;rintro e w' ⟨rfl,rfl⟩)
       | (go_at_call 224;refine(ze _ _ _).mono ?_;rintro e w' ⟨rfl,rfl⟩;simp only[cond]))
      exact⟨rfl,by rw[<-HG.out,HW.out,c1,c2,c4,c5];rfl,rfl⟩
   ·cases c3:(W !=0)
    ·have hz:W=0:=by simpa using c3
     subst hz
     go_enter Tryz.func228,Tryz.ntmps228
     go_wp2_with (first
      | (go_at_call 223;refine(zk _ l0 l3 _).mono ?_;rintro e w' ⟨rfl,rfl⟩)
      | (go_at_call 224;refine(ze _ _ _).mono ?_;rintro e w' ⟨rfl,rfl⟩;simp only[cond]))
     go_end0
     exact⟨by rw[<-HG.out];simp[Pg.wBad,give],rfl⟩
    ·go_enter Tryz.func228,Tryz.ntmps228
     go_wp2_with (first
      | (go_at_call 223;refine(zk _ l0 l3 _).mono ?_;rintro e w' ⟨rfl,rfl⟩)
      | (go_at_call 224;refine(ze _ _ _).mono ?_;rintro e w' ⟨rfl,rfl⟩;simp only[cond]))
     exact⟨rfl,by rw[<-HG.out,HW.out,c1,c2,c3];rfl,rfl⟩
  ·go_enter Tryz.func228,Tryz.ntmps228
   go_wp2_with (first
    | (go_at_call 223;refine(zk _ l0 l3 _).mono ?_;rintro e w' ⟨rfl,rfl⟩)
    | (go_at_call 224;refine(ze _ _ _).mono ?_;rintro e w' ⟨rfl,rfl⟩;simp only[cond]))
   exact⟨rfl,by rw[<-HG.out,HW.out,c1];rfl,rfl⟩
theorem yc4 (t l:Bool) (r:Int) (u d:Bool) (f lv:Int) (l0:0<=lv) (l3:lv<=3) (hr:¬(r<0\/7<r\/f<0\/1048576<=f)) (w:ki):
 yR kO 225 #[yY #[N t,N l,J Z r,N u,N d,J Z f],J Z lv] w fun e w'=>
  e=give (if lv=3 then 2 else if f%Pg.span lv=0 then 0 else 3)/\Lw w w':=by
 by_cases h3:lv=3
 ·subst h3
  clear hr
  go_enter Tryz.func225,Tryz.ntmps225
  go_wp2_with (go_at_call 224;refine(ze _ _ _).mono ?_;rintro e w' ⟨rfl,rfl⟩;simp only[cond])
  exact⟨rfl,rfl,zA (zR _) _⟩
 ·have e3:(lv==3)=U:=by simpa using h3
  have HC:ue _:=Pg.check_leaf hr l0 (by omega:lv<=2);rw[iN h3];clear h3 hr
  by_cases hm:f%Pg.span lv=0
  ·have hk:(Pg.check 0 lv f r !=0)=U:=by rw[HC.out,iP hm];rfl
   rw[iP hm];clear hm HC
   go_enter Tryz.func225,Tryz.ntmps225
   go_wp2_with (go_at_call 224;refine(ze _ _ _).mono ?_;rintro e w' ⟨rfl,rfl⟩;simp only[cond])
   refine(xY _ _ _ _ _ _ _ _).mono ?_;rintro e w1 ⟨rfl,Ha⟩
   go_wp2_with fail
   refine(zY _ _ _ _ _).mono ?_;rintro e w2 ⟨rfl,Hd⟩
   go_wp2_with (go_at_call 224;refine(ze _ _ _).mono ?_;rintro e w' ⟨rfl,rfl⟩;simp only[cond])
   go_end0
   exact⟨rfl,zT (zT (zA (zR _) _) Ha) Hd⟩
  ·have hk:(Pg.check 0 lv f r !=0)=kp:=by rw[HC.out,iN hm];rfl
   rw[iN hm];clear hm HC
   go_enter Tryz.func225,Tryz.ntmps225
   go_wp2_with (go_at_call 224;refine(ze _ _ _).mono ?_;rintro e w' ⟨rfl,rfl⟩;simp only[cond])
   refine(xY _ _ _ _ _ _ _ _).mono ?_;rintro e w1 ⟨rfl,Ha⟩
   go_wp2_with fail
   refine(zY _ _ _ _ _).mono ?_;rintro e w2 ⟨rfl,Hd⟩
   go_wp2_with (go_at_call 224;refine(ze _ _ _).mono ?_;rintro e w' ⟨rfl,rfl⟩;simp only[cond])
   exact⟨rfl,rfl,zT (zT (zA (zR _) _) Ha) Hd⟩
theorem ycd (t l:Bool) (r:Int) (u d:Bool) (f lv:Int) (w:ki):
 yR kO 226 #[yY #[N t,N l,J Z r,N u,N d,J Z f],J Z lv] w fun e w'=>
  e=give (if lv=0 then 2 else if r≠7\/u=kp\/d=kp then 7 else 0)/\Lw w w':=by
 by_cases h3:lv=0
 ·subst h3
  go_enter Tryz.func226,Tryz.ntmps226
  go_wp2_with (go_at_call 224;refine(ze _ _ _).mono ?_;rintro e w' ⟨rfl,rfl⟩;simp only[cond])
  exact⟨rfl,rfl,zA (zR _) _⟩
 ·have e3:(lv==0)=U:=by simpa using h3
  rw[iN h3];clear h3
  by_cases h7:r=7
  ·subst h7
   cases u<;>cases d
   all_goals
    go_enter Tryz.func226,Tryz.ntmps226
    go_wp2_with (first
     | (go_at_call 224;refine(ze _ _ _).mono ?_;rintro e w' ⟨rfl,rfl⟩;simp only[cond]))
    first
     | exact⟨rfl,rfl,zA (zR _) _⟩
     | (go_end0
        exact⟨rfl,zA (zR _) _⟩)
  ·have e7:(r !=7)=kp:=by simpa using h7
   rw[iP (.inl h7)];clear h7
   go_enter Tryz.func226,Tryz.ntmps226
   go_wp2_with (first
    | (go_at_call 224;refine(ze _ _ _).mono ?_;rintro e w' ⟨rfl,rfl⟩;simp only[cond]))
   exact⟨rfl,rfl,zA (zR _) _⟩
theorem yaz (l:Bool) (r:Int) (u d:Bool) (f lv:Int) (l0:0<=lv) (l3:lv<=3) (w:ki):
 yR kO 199 #[yY #[N U,N l,J Z r,N u,N d,J Z f],J Z lv] w fun e w'=>e=give (Pg.yhN U l r u d f lv)/\Lw w w':=by
 have hg:Pg.yhN U l r u d f lv=if l=kp\/r≠0\/u=kp\/d=kp\/f≠0 then 7 else 0:=by
  simp only[Pg.yhN,iN (by omega:¬(lv<0\/3<lv)),if_true]
 generalize Pg.yhN U l r u d f lv=g at hg;have HG:ue _:=hg;clear hg
 go_enter Tryz.func199,Tryz.ntmps199
 go_wp2_with (first
  | (go_at_call 223;refine(zk _ l0 l3 _).mono ?_;rintro e w' ⟨rfl,rfl⟩)
  | (go_at_call 224;refine(ze _ _ _).mono ?_;rintro e w' ⟨rfl,rfl⟩;simp only[cond]))
 all_goals
  first
   | (refine⟨rfl,?_,zA (zR _) _⟩
      rw[HG.out]
      simp_all[give])
   | (refine yS (results_none rfl _ _ _) rfl ⟨?_,zA (zR _) _⟩
      rw[HG.out]
      simp_all[give])
theorem vX (l:Bool) (r:Int) (u d:Bool) (f lv:Int) (l0:0<=lv) (l3:lv<=3) (w:ki):
 yR kO 199 #[yY #[N kp,N l,J Z r,N u,N d,J Z f],J Z lv] w fun e w'=>e=give (Pg.yhN kp l r u d f lv)/\Lw w w':=by
 have rQ:¬(lv<0\/3<lv):=by omega
 have HS:ue _:=Pg.check_small f r
 by_cases hr:r<0\/7<r\/f<0\/1048576<=f
 ·have hc:Pg.yhN kp l r u d f lv=1:=by simp[Pg.yhN,rQ,hr]
  rw[hc]
  have hk:(Pg.check 0 0 f r !=0)=kp:=by rw[HS.out,iP hr];rfl
  clear hc hr HS rQ
  go_enter Tryz.func199,Tryz.ntmps199
  go_wp2_with (go_at_call 223;refine(zk _ l0 l3 _).mono ?_;rintro e w' ⟨rfl,rfl⟩)
  refine(xY _ _ _ _ _ _ _ _).mono ?_;rintro e w1 ⟨rfl,Ha⟩
  go_wp2_with fail
  refine(zY _ _ _ _ _).mono ?_;rintro e w2 ⟨rfl,Hd⟩
  go_wp2_with (go_at_call 224;refine(ze _ _ _).mono ?_;rintro e w' ⟨rfl,rfl⟩;simp only[cond])
  exact⟨rfl,rfl,zT (zT (zA (zR _) _) Ha) Hd⟩
 ·have hk:(Pg.check 0 0 f r !=0)=U:=by rw[HS.out,iN hr];rfl
  have HR:ue _:=hr;cases l
  ·have HC:ue (Pg.yhN kp U r u d f lv=if lv=0 then 2 else if r≠7\/u=kp\/d=kp then 7 else 0):=by
    simp only[ue,Pg.yhN,iN rQ,iN hr,yz,yi,if_false,false_and,true_and,false_or]
   generalize hg:(if lv=0 then(2:Int)else if r≠7\/u=kp\/d=kp then 7 else 0)=g at HC;rw[HC.out];have HL:=ycd kp U r u d f lv;rw[hg]at HL;clear HC hr HS rQ hg
   go_enter Tryz.func199,Tryz.ntmps199
   go_wp2_with (go_at_call 223;refine(zk _ l0 l3 _).mono ?_;rintro e w' ⟨rfl,rfl⟩)
   refine(xY _ _ _ _ _ _ _ _).mono ?_;rintro e w1 ⟨rfl,Ha⟩;obtain⟨rO,si⟩:=xV Ha
   go_wp2_with fail
   refine(zY _ _ _ _ _).mono ?_;rintro e w2 ⟨rfl,Hd⟩;obtain⟨tY,iI⟩:=xV (zT Ha Hd)
   go_wp2_with (go_at_call 224;refine(ze _ _ _).mono ?_;rintro e w' ⟨rfl,rfl⟩;simp only[cond])
   refine(HL _).mono ?_;rintro e w3 ⟨rfl,He⟩
   by_cases h0:g=0
   ·rw[h0,zZ]
    go_wp2
    go_end0
    exact⟨by rw[h0,zZ],zT (zT (zT (zA (zR _) _) Ha) Hd) He⟩
   ·rw[zO h0]
    go_wp2_with fail
    exact⟨rfl,(zO h0).symm,zT (zT (zT (zA (zR _) _) Ha) Hd) He⟩
  ·have HC:ue (Pg.yhN kp kp r u d f lv=if lv=3 then 2 else if f%Pg.span lv=0 then 0 else 3):=by
    simp only[ue,Pg.yhN,iN rQ,iN hr,yz,if_false,if_true,false_and,true_and,or_false]
   generalize hg:(if lv=3 then(2:Int)else if f%Pg.span lv=0 then 0 else 3)=g at HC;rw[HC.out];have HL:=yc4 kp kp r u d f lv l0 l3 hr;rw[hg]at HL;clear HC hr HS rQ hg
   go_enter Tryz.func199,Tryz.ntmps199
   go_wp2_with (go_at_call 223;refine(zk _ l0 l3 _).mono ?_;rintro e w' ⟨rfl,rfl⟩)
   refine(xY _ _ _ _ _ _ _ _).mono ?_;rintro e w1 ⟨rfl,Ha⟩;obtain⟨rO,si⟩:=xV Ha
   go_wp2_with fail
   refine(zY _ _ _ _ _).mono ?_;rintro e w2 ⟨rfl,Hd⟩;obtain⟨tY,iI⟩:=xV (zT Ha Hd)
   go_wp2_with (go_at_call 224;refine(ze _ _ _).mono ?_;rintro e w' ⟨rfl,rfl⟩;simp only[cond])
   refine(HL _).mono ?_;rintro e w3 ⟨rfl,He⟩
   by_cases h0:g=0
   ·rw[h0,zZ]
    go_wp2
    go_end0
    exact⟨by rw[h0,zZ],zT (zT (zT (zA (zR _) _) Ha) Hd) He⟩
   ·rw[zO h0]
    go_wp2_with fail
    exact⟨rfl,(zO h0).symm,zT (zT (zT (zA (zR _) _) Ha) Hd) He⟩
theorem qd (t l:Bool) (r:Int) (u d:Bool) (f lv:Int) (w:ki):
 yR kO 199 #[yY #[N t,N l,J Z r,N u,N d,J Z f],J Z lv] w fun e w'=>e=give (Pg.yhN t l r u d f lv)/\Lw w w':=by
 by_cases hl:lv<0\/3<lv
 ·have hc:Pg.yhN t l r u d f lv=1:=by simp[Pg.yhN,hl]
  rw[hc]
  go_enter Tryz.func199,Tryz.ntmps199
  go_wp2_with (go_at_call 223;refine(qT _ hl _).mono ?_;rintro e w' ⟨rfl,rfl⟩)
  exact⟨rfl,rfl,zA (zR _) _⟩
 ·cases t
  ·exact yaz l r u d f lv (by omega) (by omega) w
  ·exact vX l r u d f lv (by omega) (by omega) w
theorem ybi (t l:Bool) (r:Int) (u d:Bool) (f lv:Int) (a b:Nat) (w:ki)
 (ha:w.cell? ⟨a,0,I⟩=O (N t)/\w.cell? ⟨a,1,I⟩=O (N l)/\w.cell? ⟨a,2,I⟩=O (J Z r)/\w.cell? ⟨a,3,I⟩=O (N u)/\w.cell? ⟨a,4,I⟩=O (N d)/\w.cell? ⟨a,5,I⟩=O (J Z f))
 (hb:w.cell? ⟨b,0,I⟩=O (J Z lv)):
 yR kO 213 #[yI (O ⟨a,0,I⟩),yI (O ⟨b,0,I⟩)] w fun e w'=>e=give (Pg.yhN t l r u d f lv)/\Lw w w':=by
 obtain⟨a0,a1,a2,a3,a4,a5⟩:=ha
 go_enter Tryz.func213,Tryz.ntmps213
 go_wp2_with fail
 refine(qd _ _ _ _ _ _ _ _).mono ?_;rintro e w1 ⟨rfl,Ha⟩
 by_cases h0:Pg.yhN t l r u d f lv=0
 ·rw[h0,zZ]
  go_wp2
  go_end0
  exact⟨by rw[h0,zZ],Ha⟩
 ·rw[zO h0]
  go_wp2_with fail
  exact⟨rfl,(zO h0).symm,Ha⟩
theorem jb (t l:Bool) (r:Int) (u d:Bool) (f lv:Int) (w:ki):
 yR kO 186 #[yY #[N t,N l,J Z r,N u,N d,J Z f],J Z lv] w fun e w'=>e=uv (J Z (Pg.yhN t l r u d f lv))/\Lw w w':=by
 have aU:∀(fn:Fn) (first cap:Array kh) (w:ki),(Instr.makeFunc fn first cap).run kO w= .ok (.func fn first cap) w:=fun _ _ _ _=>rfl
 go_enter Tryz.func186,Tryz.ntmps186
 go_wp2_with fail
 refine(jP 213 _ (Pg.yhN t l r u d f lv) (fun w'=>Lw w w') _ ?_ ?_).mono ?_
 ·intro w
  simp[go_sem]
 ·refine(ybi t l r u d f lv w.heap.size (w.heap.size+1) _ ?_ ?_).mono ?_
  ·simp[go_sem]
  ·simp[go_sem]
  ·rintro e w1 ⟨rfl,Ha⟩
   obtain⟨k1,k2⟩:=xV Ha;refine⟨rfl,?_,?_,?_⟩
   ·exact zT (zA (zA (zA (zR w) _) _) _) Ha
   ·rw[k1 _ _ (by simp)]
    simp[go_sem]
   ·rw[k2 _ _ (by simp)]
    simp[go_sem]
 ·rintro e w2 ⟨rfl,w1,Ha,Hd⟩
  have HB:ue (Lw w w2):=Ha.trans (Hd.mono (by simp;omega));clear Ha Hd
  go_wp2
  go_ret
  exact⟨rfl,HB.out⟩
theorem ybn (t l:Bool) (r:Int) (u d:Bool) (f lv q:Int) (w:ki):
 yR kO 152 #[yY #[N t,N l,J Z r,N u,N d,J Z f],J Z lv,J Z q] w fun e w'=>e=uv (Pg.mapV t l r u d f lv q)/\Lw w w':=by
 by_cases h0:Pg.yhN t l r u d f lv=0
 ·have e0:(Pg.yhN t l r u d f lv !=0)=U:=by simp[h0]
  have H0:ue _:=h0;cases l
  ·have HV:ue _:=Pg.ykq (at':=q) (by simp[Pg.lOk,h0]:Pg.lOk t U r u d f lv q=U)
   clear h0
   go_enter Tryz.func152,Tryz.ntmps152
   go_wp2_with fail
   refine(jb _ _ _ _ _ _ _ _).mono ?_;rintro e w1 ⟨rfl,Ha⟩;obtain⟨rO,si⟩:=xV Ha
   go_wp2
   refine yS (v:=yY #[J Z 0,J Z 0,J Z 0,J Z 0]) ?_ rfl ⟨by rw[HV.out],?_⟩
   ·simp[results,Tryz.results152,go_sem,rO]
   ·exact((((zT (zA (zA (zR _) _) _) Ha).setCell (by simp) _).setCell (by simp) _).setCell (by simp) _).setCell (by simp) _
  ·cases hq:Pg.below q 4096
   ·have HV:ue _:=Pg.ykq (at':=q) (by simp[Pg.lOk,hq]:Pg.lOk t kp r u d f lv q=U)
    clear h0
    go_enter Tryz.func152,Tryz.ntmps152
    go_wp2_with fail
    refine(jb _ _ _ _ _ _ _ _).mono ?_;rintro e w1 ⟨rfl,Ha⟩;obtain⟨rO,si⟩:=xV Ha
    go_wp2_with (go_at_call 172;refine(xj _ _).mono ?_;rintro e w' ⟨rfl,rfl⟩)
    refine yS (v:=yY #[J Z 0,J Z 0,J Z 0,J Z 0]) ?_ rfl ⟨by rw[HV.out],?_⟩
    ·simp[results,Tryz.results152,go_sem,rO]
    ·exact((((zT (zA (zA (zR _) _) _) Ha).setCell (by simp) _).setCell (by simp) _).setCell (by simp) _).setCell (by simp) _
   ·have HV:ue _:=Pg.yli (at':=q) (by simp[Pg.lOk,hq,h0]:Pg.lOk t kp r u d f lv q=kp)
    have rG:1<=Pg.span lv/\Pg.span lv<=64:=by
     obtain⟨⟨l0,l3⟩,hc⟩:=Pg.yh0 h0;have gM:=Pg.yhX lv;have hb:=Pg.yh2 lv;rcases hc with ⟨_,h,_⟩|⟨_,_,_,_,_,⟨_,h,_⟩|⟨h,_⟩⟩
     ·cases h
     ·omega
     ·cases h
    obtain⟨s1,s2⟩:=rG;obtain⟨q0,q1⟩:=Pg.zB.1 hq;clear h0
    go_enter Tryz.func152,Tryz.ntmps152
    go_wp2_with fail
    refine(jb _ _ _ _ _ _ _ _).mono ?_;rintro e w1 ⟨rfl,Ha⟩;obtain⟨rO,si⟩:=xV Ha
    go_wp2_with (go_at_call 172;refine(xj _ _).mono ?_;rintro e w' ⟨rfl,rfl⟩)
    refine(xY _ _ _ _ _ _ _ _).mono ?_;rintro e w2 ⟨rfl,Hd⟩;have hB:=zT Ha Hd;have fr:∀o k,(w2.alloc o).frozen? ⟨w.heap.size+1,k,I⟩=U:=fun o k=>((zA hB o).frozen (p:=⟨w.heap.size+1,k,I⟩) (by simp)).trans (by simp[go_sem]);have c0:∀o,(w2.alloc o).cell? ⟨w.heap.size+1,0,I⟩=O (J Z 0):=fun o=>((zA hB o).cell (p:=⟨w.heap.size+1,0,I⟩) (by simp)).trans (by simp[go_sem]);have c1:∀o,(w2.alloc o).cell? ⟨w.heap.size+1,1,I⟩=O (J Z 0):=fun o=>((zA hB o).cell (p:=⟨w.heap.size+1,1,I⟩) (by simp)).trans (by simp[go_sem]);have c2:∀o,(w2.alloc o).cell? ⟨w.heap.size+1,2,I⟩=O (J Z 0):=fun o=>((zA hB o).cell (p:=⟨w.heap.size+1,2,I⟩) (by simp)).trans (by simp[go_sem]);have c3:∀o,(w2.alloc o).cell? ⟨w.heap.size+1,3,I⟩=O (J Z 0):=fun o=>((zA hB o).cell (p:=⟨w.heap.size+1,3,I⟩) (by simp)).trans (by simp[go_sem])
    have UT:wrap64 (q-q%Pg.span lv)=q-q%Pg.span lv:=by
     have:=Int.emod_nonneg q (by omega:Pg.span lv≠0);have:=Int.emod_lt_of_pos q (by omega:0<Pg.span lv);rw[wrap64];omega
    have HB:ue (Lw w w2):=zT (zA (zA (zR w) _) _) hB;clear hB Ha Hd rO si
    go_wp2_with (go_at_call 153;refine(xO _ _).mono ?_;rintro e w' ⟨rfl,rfl⟩)
    refine yS (v:=yY #[J Z (q-q%Pg.span lv),J Z lv,J Z f,J Z r]) ?_ rfl ⟨by rw[HV.out],?_⟩
    ·simp[results,Tryz.results152,go_sem,c0,c1,c2,c3]
    ·exact((((zA HB.out _).setCell (by simp) _).setCell (by simp) _).setCell (by simp) _).setCell (by simp) _
 ·have e0:(Pg.yhN t l r u d f lv !=0)=kp:=by simp[h0]
  have HV:ue _:=Pg.ykq (at':=q) (by simp[Pg.lOk,h0]:Pg.lOk t l r u d f lv q=U);clear h0
  go_enter Tryz.func152,Tryz.ntmps152
  go_wp2_with fail
  refine(jb _ _ _ _ _ _ _ _).mono ?_;rintro e w1 ⟨rfl,Ha⟩;obtain⟨rO,si⟩:=xV Ha
  go_wp2
  refine yS (v:=yY #[J Z 0,J Z 0,J Z 0,J Z 0]) ?_ rfl ⟨by rw[HV.out],?_⟩
  ·simp[results,Tryz.results152,go_sem,rO]
  ·exact((((zT (zA (zA (zR _) _) _) Ha).setCell (by simp) _).setCell (by simp) _).setCell (by simp) _).setCell (by simp) _
theorem yap (t l:Bool) (r:Int) (u d:Bool) (f lv:Int) (a b c:Nat) (w:ki)
 (ha:w.cell? ⟨a,0,I⟩=O (N t)/\w.cell? ⟨a,1,I⟩=O (N l)/\w.cell? ⟨a,2,I⟩=O (J Z r)/\w.cell? ⟨a,3,I⟩=O (N u)/\w.cell? ⟨a,4,I⟩=O (N d)/\w.cell? ⟨a,5,I⟩=O (J Z f))
 (hb:w.cell? ⟨b,0,I⟩=O (J Z lv)) (hc:w.cell? ⟨c,0,I⟩=O (J yK 0)) (hz:w.frozen? ⟨c,0,I⟩=U):
 yR kO 198 #[yI (O ⟨a,0,I⟩),yI (O ⟨b,0,I⟩),yI (O ⟨c,0,I⟩)] w fun e w'=>
  e=give (Pg.yhN t l r u d f lv)/\Below c w w'/\w'.cell? ⟨c,0,I⟩=O (J yK (Pg.enc t l r u d f lv))/\
  ∀k,k≠c->k<w.heap.size->w'.cell? ⟨k,0,I⟩=w.cell? ⟨k,0,I⟩/\w'.frozen? ⟨k,0,I⟩=w.frozen? ⟨k,0,I⟩:=by
 have Hf:c<w.heap.size:=yC _ _ hc;have gK:ue _:=Hf;obtain⟨a0,a1,a2,a3,a4,a5⟩:=ha;clear Hf
 go_enter Tryz.func198,Tryz.ntmps198
 go_wp2_with fail
 refine(qd _ _ _ _ _ _ _ _).mono ?_;rintro e w1 ⟨rfl,Ha⟩
 by_cases h0:Pg.yhN t l r u d f lv=0
 ·have HE:ue (Pg.enc t l r u d f lv=Pg.yiY t l r u d f lv):=Pg.yi9 h0
  have HW:=ydg t l r u d f lv h0;rw[h0,zZ];have HG:ue _:=h0;clear h0;have a0':=yT Ha a0;have a1':=yT Ha a1;have a2':=yT Ha a2;have a3':=yT Ha a3;have a4':=yT Ha a4;have a5':=yT Ha a5;have b':=yT Ha hb
  go_wp2_with fail
  refine(HW _).mono ?_;rintro e w2 ⟨rfl,Hd⟩;have hB:=zT Ha Hd;have c':=yT hB hc;have z':=yb4 hB hc hz
  go_wp2
  go_end0
  refine⟨by rw[HG.out,zZ],(hB.mono (yX gK.out)).setCell (ua c) _,?_,?_⟩
  ·rw[HE.out]
   exact yM _ _ _ c'
  ·intro k hk gp
   have e1:∀v,(w2.setCell ⟨c,0,I⟩ v).frozen? ⟨k,0,I⟩=w2.frozen? ⟨k,0,I⟩:=fun v=>by simp[go_sem]
   have e2:∀v,(w2.setCell ⟨c,0,I⟩ v).cell? ⟨k,0,I⟩=w2.cell? ⟨k,0,I⟩:=fun v=>ud _ _ _ _ (fun e=>hk (by cases e;rfl));exact⟨(e2 _).trans (hB.cell gp),(e1 _).trans (hB.frozen gp)⟩
 ·rw[zO h0]
  go_wp2_with fail
  refine⟨rfl,(zO h0).symm,Ha.mono (yX gK.out),?_,?_⟩
  ·rw[Pg.enc,iN h0]
   exact yT Ha hc
  ·intro k hk gp
   exact⟨Ha.cell gp,Ha.frozen gp⟩
theorem yaS (t l:Bool) (r:Int) (u d:Bool) (f lv:Int) (w:ki):
 yR kO 168 #[yY #[N t,N l,J Z r,N u,N d,J Z f],J Z lv] w fun e w'=>e=uv (yF #[J yK (Pg.enc t l r u d f lv),J Z (Pg.yhN t l r u d f lv)])/\Lw w w':=by
 have aU:∀(fn:Fn) (first cap:Array kh) (w:ki),(Instr.makeFunc fn first cap).run kO w= .ok (.func fn first cap) w:=fun _ _ _ _=>rfl
 go_enter Tryz.func168,Tryz.ntmps168
 go_wp2_with fail
 refine(jP 198 _ (Pg.yhN t l r u d f lv) (fun w'=>Lw w w'/\w'.cell? ⟨w.heap.size+1+1,0,I⟩=O (J yK (Pg.enc t l r u d f lv))) _ ?_ ?_).mono ?_
 ·intro w
  simp[go_sem]
 ·refine(yap t l r u d f lv w.heap.size (w.heap.size+1) (w.heap.size+1+1) _ ?_ ?_ ?_ ?_).mono ?_
  ·simp[go_sem]
  ·simp[go_sem]
  ·simp[go_sem]
  ·simp[go_sem]
  ·rintro e w1 ⟨rfl,Ha,rO,hk⟩
   obtain⟨k1,k2⟩:=hk (w.heap.size+1+1+1) (by omega) (by simp);refine⟨rfl,⟨?_,rO⟩,?_,?_⟩
   ·exact(zA (zA (zA (zA (zR w) _) _) _) _).trans (Ha.mono (by omega))
   ·have:((((w.alloc (yJ #[N t,N l,J Z r,N u,N d,J Z f] 70)).alloc (yJ #[J Z lv] 3)).alloc (yJ #[J yK 0] 64)).heap.size)=w.heap.size+1+1+1:=by simp
    rw[this,k1];simp[go_sem]
   ·have:((((w.alloc (yJ #[N t,N l,J Z r,N u,N d,J Z f] 70)).alloc (yJ #[J Z lv] 3)).alloc (yJ #[J yK 0] 64)).heap.size)=w.heap.size+1+1+1:=by simp
    rw[this,k2];simp[go_sem]
 ·rintro e w2 ⟨rfl,w1,⟨Ha,rO⟩,Hd⟩
  have tY:w2.cell? ⟨w.heap.size+1+1,0,I⟩=O (J yK (Pg.enc t l r u d f lv)):=(Hd.cell (p:=⟨w.heap.size+1+1,0,I⟩) (by simp)).trans rO;have HB:ue (Lw w w2):=Ha.trans (Hd.mono (by simp;omega));clear Ha Hd rO
  go_wp2
  go_ret2
  exact⟨rfl,HB.out⟩
theorem ydr {w:ki} {c:Nat} {u0 u1 u2 u3 u4 u5 v0 v1 v2 v3 v4 v5:kh} (h:w.cell? ⟨c,0,I⟩=O u0/\w.cell? ⟨c,1,I⟩=O u1/\w.cell? ⟨c,2,I⟩=O u2/\w.cell? ⟨c,3,I⟩=O u3/\w.cell? ⟨c,4,I⟩=O u4/\w.cell? ⟨c,5,I⟩=O u5):
 (((((((w.setCell ⟨c,0,I⟩ v0).setCell ⟨c,1,I⟩ v1).setCell ⟨c,2,I⟩ v2).setCell ⟨c,3,I⟩ v3).setCell ⟨c,4,I⟩ v4).setCell ⟨c,5,I⟩ v5).cell? ⟨c,0,I⟩=O v0/\((((((w.setCell ⟨c,0,I⟩ v0).setCell ⟨c,1,I⟩ v1).setCell ⟨c,2,I⟩ v2).setCell ⟨c,3,I⟩ v3).setCell ⟨c,4,I⟩ v4).setCell ⟨c,5,I⟩ v5).cell? ⟨c,1,I⟩=O v1/\((((((w.setCell ⟨c,0,I⟩ v0).setCell ⟨c,1,I⟩ v1).setCell ⟨c,2,I⟩ v2).setCell ⟨c,3,I⟩ v3).setCell ⟨c,4,I⟩ v4).setCell ⟨c,5,I⟩ v5).cell? ⟨c,2,I⟩=O v2/\((((((w.setCell ⟨c,0,I⟩ v0).setCell ⟨c,1,I⟩ v1).setCell ⟨c,2,I⟩ v2).setCell ⟨c,3,I⟩ v3).setCell ⟨c,4,I⟩ v4).setCell ⟨c,5,I⟩ v5).cell? ⟨c,3,I⟩=O v3/\((((((w.setCell ⟨c,0,I⟩ v0).setCell ⟨c,1,I⟩ v1).setCell ⟨c,2,I⟩ v2).setCell ⟨c,3,I⟩ v3).setCell ⟨c,4,I⟩ v4).setCell ⟨c,5,I⟩ v5).cell? ⟨c,4,I⟩=O v4/\((((((w.setCell ⟨c,0,I⟩ v0).setCell ⟨c,1,I⟩ v1).setCell ⟨c,2,I⟩ v2).setCell ⟨c,3,I⟩ v3).setCell ⟨c,4,I⟩ v4).setCell ⟨c,5,I⟩ v5).cell? ⟨c,5,I⟩=O v5)/\
 (∀k,k≠c->((((((w.setCell ⟨c,0,I⟩ v0).setCell ⟨c,1,I⟩ v1).setCell ⟨c,2,I⟩ v2).setCell ⟨c,3,I⟩ v3).setCell ⟨c,4,I⟩ v4).setCell ⟨c,5,I⟩ v5).cell? ⟨k,0,I⟩=w.cell? ⟨k,0,I⟩)/\
 (∀k,((((((w.setCell ⟨c,0,I⟩ v0).setCell ⟨c,1,I⟩ v1).setCell ⟨c,2,I⟩ v2).setCell ⟨c,3,I⟩ v3).setCell ⟨c,4,I⟩ v4).setCell ⟨c,5,I⟩ v5).frozen? ⟨k,0,I⟩=w.frozen? ⟨k,0,I⟩):=by
 refine⟨by simp[go_sem,h],fun k hk=> ?_,fun k=>by simp[go_sem]⟩;have hn:∀o,(⟨c,o,I⟩:Addr)≠⟨k,0,I⟩:=fun o e=>hk (by cases e;rfl);rw[ud _ _ _ _ (hn _),ud _ _ _ _ (hn _),ud _ _ _ _ (hn _),ud _ _ _ _ (hn _),ud _ _ _ _ (hn _),ud _ _ _ _ (hn _)]
theorem yan (W lv:Int) (h0:0<=W) (h1:W<18446744073709551616) (a b c:Nat) (w:ki)
 (ha:w.cell? ⟨a,0,I⟩=O (J yK W)) (hb:w.cell? ⟨b,0,I⟩=O (J Z lv))
 (hc:w.cell? ⟨c,0,I⟩=O (N U)/\w.cell? ⟨c,1,I⟩=O (N U)/\w.cell? ⟨c,2,I⟩=O (J Z 0)/\w.cell? ⟨c,3,I⟩=O (N U)/\w.cell? ⟨c,4,I⟩=O (N U)/\w.cell? ⟨c,5,I⟩=O (J Z 0))
 (hz:∀o,w.frozen? ⟨c,o,I⟩=U):
 yR kO 227 #[yI (O ⟨a,0,I⟩),yI (O ⟨b,0,I⟩),yI (O ⟨c,0,I⟩)] w fun e w'=>
  e=give (Pg.yhV W lv)/\Below c w w'/\(w'.cell? ⟨c,0,I⟩=O (N (Pg.yhZ W lv))/\w'.cell? ⟨c,1,I⟩=O (N (Pg.xL W lv))/\w'.cell? ⟨c,2,I⟩=O (J Z (Pg.xR W lv))/\w'.cell? ⟨c,3,I⟩=O (N (Pg.xU W lv))/\w'.cell? ⟨c,4,I⟩=O (N (Pg.xD W lv))/\w'.cell? ⟨c,5,I⟩=O (J Z (Pg.xF W lv)))/\
  ∀k,k≠c->k<w.heap.size->w'.cell? ⟨k,0,I⟩=w.cell? ⟨k,0,I⟩/\w'.frozen? ⟨k,0,I⟩=w.frozen? ⟨k,0,I⟩:=by
 have Hf:c<w.heap.size:=yC _ _ hc.1;have gK:ue _:=Hf;clear Hf;have HM:=yay W lv h0 h1
 by_cases hm:(if lv<0\/3<lv then(1:Int)else if Pg.wBad W lv=kp then 7 else 0)=0
 ·rw[hm,zZ]at HM
  have hl:¬(lv<0\/3<lv):=by
   intro h;rw[iP h]at hm;exact absurd hm (by decide)
  rw[iN hl]at hm
  have hw:Pg.wBad W lv=U:=by
   cases h:Pg.wBad W lv
   ·rfl
   ·rw[h]at hm;exact absurd hm (by decide)
  clear hm
  by_cases rW:W=0
  ·subst rW
   have hd:Pg.yhV 0 lv=0:=by simp[Pg.yhV,hl,hw]
   have hg:Pg.yhZ 0 lv=U:=by simp[Pg.yhZ]
   have HF:ue (Pg.yhN U U 0 U U 0 lv=0):=Pg.yj9 (by omega) (by omega)
   have HX:ue (Pg.yhZ 0 lv=U/\Pg.xL 0 lv=U/\Pg.xR 0 lv=0/\Pg.xU 0 lv=U/\Pg.xD 0 lv=U/\Pg.xF 0 lv=0):=by
    show _/\_
    simp[Pg.xL,Pg.xR,Pg.xU,Pg.xD,Pg.xF,hg]
   have HD:ue (Pg.yhV 0 lv=0):=hd;clear hd hg hl hw
   go_enter Tryz.func227,Tryz.ntmps227
   go_wp2_with fail
   refine(HM _).mono ?_;rintro e w1 ⟨rfl,rfl⟩
   go_wp2_with fail
   refine(yjY _ _).mono ?_;rintro e w2 ⟨rfl,Hd⟩;have b2:∀o,(w2.alloc o).cell? ⟨b,0,I⟩=O (J Z lv):=fun o=>yT (zA Hd o) hb;have FU:=xC Hd hc
   go_wp2_with fail
   refine(qd _ _ _ _ _ _ _ _).mono ?_;rintro e w3 ⟨rfl,He⟩;have pE:=zT (zA Hd _) He;obtain⟨fU,Iw⟩:=xV He;obtain⟨c0,c1,c2,c3,c4,c5⟩:=xC pE hc;have z3:∀o,w3.frozen? ⟨c,o,I⟩=U:=fun o=>(pE.frozen (p:=⟨c,o,I⟩) gK.out).trans (hz o);rw[HF.out,zZ]
   go_wp2
   go_end0
   obtain⟨s1,s2,s3⟩:=ydr (v0:=N U) (v1:=N U) (v2:=J Z 0) (v3:=N U) (v4:=N U) (v5:=J Z 0) ⟨c0,c1,c2,c3,c4,c5⟩;obtain⟨x0,x1,x2,x3,x4,x5⟩:=HX.out;rw[HD.out,x0,x1,x2,x3,x4,x5];refine⟨rfl,((((((pE.mono (yX gK.out)).setCell (ua c) _).setCell (ua c) _).setCell (ua c) _).setCell (ua c) _).setCell (ua c) _).setCell (ua c) _,s1,?_⟩;intro k hk gp;exact⟨(s2 k hk).trans (pE.cell gp),(s3 k).trans (pE.frozen gp)⟩
  ·have sF:W%2=1/\W<4294967296:=by
    simp only[Pg.wBad,decide_eq_false_iff_not]at hw;omega
   have HD:ue (Pg.yhV W lv=Pg.yhN kp (Pg.yir W lv) (W/2%8) (Pg.yio W) (Pg.yh3 W) (W/4096) lv):=by
    show Pg.yhV W lv=_
    rw[Pg.yhV,iN hl,iN (by rw[hw];decide),iN rW]
   have HZ:ue (W≠0):=rW;have HR:=yfW W lv h0 sF.2 sF.1;clear hl hw sF rW
   go_enter Tryz.func227,Tryz.ntmps227
   go_wp2_with fail
   refine(HM _).mono ?_;rintro e w1 ⟨rfl,rfl⟩
   go_wp2_with fail
   refine(HR _).mono ?_;rintro e w2 ⟨rfl,Hd⟩;have b2:∀o,(w2.alloc o).cell? ⟨b,0,I⟩=O (J Z lv):=fun o=>yT (zA Hd o) hb;have FU:=xC Hd hc
   go_wp2_with fail
   refine(qd _ _ _ _ _ _ _ _).mono ?_;rintro e w3 ⟨rfl,He⟩;have pE:=zT (zA Hd _) He;obtain⟨fU,Iw⟩:=xV He;obtain⟨c0,c1,c2,c3,c4,c5⟩:=xC pE hc;have z3:∀o,w3.frozen? ⟨c,o,I⟩=U:=fun o=>(pE.frozen (p:=⟨c,o,I⟩) gK.out).trans (hz o);rw[<-HD.out]
   by_cases hd:Pg.yhV W lv=0
   ·have hg:Pg.yhZ W lv=kp:=by simp[Pg.yhZ,hd,HZ.out]
    have HX:ue (Pg.yhZ W lv=kp/\Pg.xL W lv=Pg.yir W lv/\Pg.xR W lv=W/2%8/\Pg.xU W lv=Pg.yio W/\Pg.xD W lv=Pg.yh3 W/\Pg.xF W lv=W/4096):=by
     show _/\_
     simp[Pg.xL,Pg.xR,Pg.xU,Pg.xD,Pg.xF,hg]
    rw[hd,zZ];have Ww:ue _:=hd;clear hd hg
    go_wp2
    go_end0
    obtain⟨s1,s2,s3⟩:=ydr (v0:=N kp) (v1:=N (Pg.yir W lv)) (v2:=J Z (W/2%8)) (v3:=N (Pg.yio W)) (v4:=N (Pg.yh3 W)) (v5:=J Z (W/4096)) ⟨c0,c1,c2,c3,c4,c5⟩;obtain⟨x0,x1,x2,x3,x4,x5⟩:=HX.out;rw[Ww.out,x0,x1,x2,x3,x4,x5];refine⟨rfl,((((((pE.mono (yX gK.out)).setCell (ua c) _).setCell (ua c) _).setCell (ua c) _).setCell (ua c) _).setCell (ua c) _).setCell (ua c) _,s1,?_⟩;intro k hk gp;exact⟨(s2 k hk).trans (pE.cell gp),(s3 k).trans (pE.frozen gp)⟩
   ·have hg:Pg.yhZ W lv=U:=by simp[Pg.yhZ,hd]
    rw[zO hd]
    go_wp2_with fail
    refine⟨rfl,(zO hd).symm,pE.mono (yX gK.out),?_,fun k _ gp=>⟨pE.cell gp,pE.frozen gp⟩⟩;simp[Pg.xL,Pg.xR,Pg.xU,Pg.xD,Pg.xF,hg,c0,c1,c2,c3,c4,c5]
 ·have HC:ue (Pg.yhV W lv=if lv<0\/3<lv then(1:Int)else if Pg.wBad W lv=kp then 7 else 0):=by
   show Pg.yhV W lv=_
   unfold Pg.yhV;split
   ·rfl
   ·rename_i hl
    rw[iN hl]at hm;split
    ·rfl
    ·rename_i hb
     rw[iN hb]at hm;exact absurd rfl hm
  generalize (if lv<0\/3<lv then(1:Int)else if Pg.wBad W lv=kp then 7 else 0)=g at hm HM HC
  go_enter Tryz.func227,Tryz.ntmps227
  go_wp2_with fail
  refine(HM _).mono ?_;rintro e w1 ⟨rfl,rfl⟩
  have hg:Pg.yhZ W lv=U:=by simp[Pg.yhZ,HC.out,hm]
  rw[zO hm]
  go_wp2_with fail
  refine⟨rfl,by rw[HC.out,zO hm],Below.refl _ _,?_,fun k _ _=>⟨rfl,rfl⟩⟩
  simpa[Pg.xL,Pg.xR,Pg.xU,Pg.xD,Pg.xF,hg]using hc
theorem jR (W lv:Int) (h0:0<=W) (h1:W<18446744073709551616) (w:ki):
 yR kO 204 #[J yK W,J Z lv] w fun e w'=>e=uv (Pg.decV W lv)/\Lw w w':=by
 have hv:Pg.decV W lv=yF #[yY #[N (Pg.yhZ W lv),N (Pg.xL W lv),J Z (Pg.xR W lv),N (Pg.xU W lv),N (Pg.xD W lv),J Z (Pg.xF W lv)],J Z (Pg.yhV W lv)]:=rfl;have HV:ue _:=hv;clear hv;have aU:∀(fn:Fn) (first cap:Array kh) (w:ki),(Instr.makeFunc fn first cap).run kO w= .ok (.func fn first cap) w:=fun _ _ _ _=>rfl
 go_enter Tryz.func204,Tryz.ntmps204
 go_wp2_with fail
 refine(jP 227 _ (Pg.yhV W lv) (fun w'=>Below (w.heap.size+1+1+1) ((((w.alloc (yJ #[J yK W] 64)).alloc (yJ #[J Z lv] 3)).alloc (yJ #[N U,N U,J Z 0,N U,N U,J Z 0] 70)).alloc (yJ #[N U,N U,J Z 0,N U,N U,J Z 0] 70)) w'/\
  (w'.cell? ⟨w.heap.size+1+1+1,0,I⟩=O (N (Pg.yhZ W lv))/\w'.cell? ⟨w.heap.size+1+1+1,1,I⟩=O (N (Pg.xL W lv))/\w'.cell? ⟨w.heap.size+1+1+1,2,I⟩=O (J Z (Pg.xR W lv))/\w'.cell? ⟨w.heap.size+1+1+1,3,I⟩=O (N (Pg.xU W lv))/\w'.cell? ⟨w.heap.size+1+1+1,4,I⟩=O (N (Pg.xD W lv))/\w'.cell? ⟨w.heap.size+1+1+1,5,I⟩=O (J Z (Pg.xF W lv)))) _ ?_ ?_).mono ?_
 ·intro w
  simp[go_sem]
 ·refine(yan W lv h0 h1 w.heap.size (w.heap.size+1) (w.heap.size+1+1+1) _ ?_ ?_ ?_ ?_).mono ?_
  ·simp[go_sem]
  ·simp[go_sem]
  ·simp[go_sem]
  ·intro o
   simp[go_sem]
  ·rintro e w1 ⟨rfl,Ha,rO,hk⟩
   obtain⟨k1,k2⟩:=hk (w.heap.size+1+1+1+1) (by omega) (by simp)
   have hs:((((w.alloc (yJ #[J yK W] 64)).alloc (yJ #[J Z lv] 3)).alloc (yJ #[N U,N U,J Z 0,N U,N U,J Z 0] 70)).alloc (yJ #[N U,N U,J Z 0,N U,N U,J Z 0] 70)).heap.size=w.heap.size+1+1+1+1:=by simp
   refine⟨rfl,⟨?_,rO⟩,?_,?_⟩
   ·exact((Below.refl _ _).alloc (by simp) _).trans Ha
   ·rw[hs,k1]
    simp[go_sem]
   ·rw[hs,k2]
    simp[go_sem]
 ·rintro e w2 ⟨rfl,w1,⟨Ha,rO⟩,Hd⟩
  have tY:∀o,w2.cell? ⟨w.heap.size+1+1+1,o,I⟩=w1.cell? ⟨w.heap.size+1+1+1,o,I⟩:=fun o=>Hd.cell (p:=⟨w.heap.size+1+1+1,o,I⟩) (by simp);obtain⟨x0,x1,x2,x3,x4,x5⟩:=rO;have y0:=(tY 0).trans x0;have y1:=(tY 1).trans x1;have y2:=(tY 2).trans x2;have y3:=(tY 3).trans x3;have y4:=(tY 4).trans x4;have y5:=(tY 5).trans x5;clear x0 x1 x2 x3 x4 x5 tY;have tL:=Ha.trans (Hd.mono (by simp));have r0:∀o,w2.cell? ⟨w.heap.size+1+1,o,I⟩=_:=fun o=>tL.cell (p:=⟨w.heap.size+1+1,o,I⟩) (by simp);have f0:∀o,w2.frozen? ⟨w.heap.size+1+1,o,I⟩=_:=fun o=>tL.frozen (p:=⟨w.heap.size+1+1,o,I⟩) (by simp);have HB:ue _:=tL;clear Ha Hd tL
  go_wp2_with fail
  rw[HV.out];refine yS (v:=yF #[yY #[N (Pg.yhZ W lv),N (Pg.xL W lv),J Z (Pg.xR W lv),N (Pg.xU W lv),N (Pg.xD W lv),J Z (Pg.xF W lv)],J Z (Pg.yhV W lv)]) ?_ rfl ⟨rfl,?_⟩
  ·simp[results,Tryz.results204,go_sem,r0]
  ·have hA:=zA (zA (zA (zA (zR w) (yJ #[J yK W] 64)) (yJ #[J Z lv] 3)) (yJ #[N U,N U,J Z 0,N U,N U,J Z 0] 70)) (yJ #[N U,N U,J Z 0,N U,N U,J Z 0] 70)
   exact((((((hA.trans (HB.out.mono (by omega))).setCell (by simp;omega) _).setCell (by simp;omega) _).setCell (by simp;omega) _).setCell (by simp;omega) _).setCell (by simp;omega) _).setCell (by simp;omega) _
end
namespace Pg
structure En where
 t:Bool
 l:Bool
 r:Int
 u:Bool
 d:Bool
 f:Int
namespace En
def zero:En:=⟨U,U,0,U,U,0⟩
def of (W lv:Int):En:=⟨yhZ W lv,xL W lv,xR W lv,xU W lv,xD W lv,xF W lv⟩
def val (e:En):kh:=yY #[N e.t,N e.l,J Z e.r,N e.u,N e.d,J Z e.f]
def on (e:En):Bool:=e.t&& !e.l
def map (e:En) (lv q:Int):Mp:=⟨ykn e.t e.l e.r e.u e.d e.f lv q,ykX e.t e.l e.r e.u e.d e.f lv q,yjR e.t e.l e.r e.u e.d e.f lv q,yiU e.t e.l e.r e.u e.d e.f lv q⟩
def fault (e:En) (lv:Int):Int:=yhN e.t e.l e.r e.u e.d e.f lv
end En
theorem yjw (W lv:Int):decV W lv=yF #[(En.of W lv).val,J Z (yhV W lv)]:=rfl
theorem ylJ (e:En) (lv q:Int):mapV e.t e.l e.r e.u e.d e.f lv q=(e.map lv q).val:=rfl
def yhR (S:Fs) (t:Int) (i lv:Nat):Int:=if S.has t=kp then yhV (S.word t.toNat i) lv else 12
def rEn (S:Fs) (t:Int) (i lv:Nat):En:=if S.has t=kp then En.of (S.word t.toNat i) lv else En.zero
structure Sp where
 table:Int
 place:Nat
 level:Nat
 ahead:Nat
 e:En
def spt (S:Fs) (t:Int) (i lv a:Nat):Sp:=⟨t,i,lv,a+i,rEn S t i lv⟩
section
variable (S:Fs) (L:Nat->Nat->Bool)
def out (lv:Nat) (rec:Int->Nat->List Sp×Int) (t:Int) (a i:Nat):List Sp×Int:=
 if L i lv=U then([],0)
 else if yhR S t i lv≠0 then([],yhR S t i lv)
 else if (rEn S t i lv).on=U then([spt S t i lv a],0)
 else(spt S t i lv a::(rec (rEn S t i lv).f ((a+i)*8)).1,(rec (rEn S t i lv).f ((a+i)*8)).2)
def scan (lv:Nat) (rec:Int->Nat->List Sp×Int) (t:Int) (a:Nat):Nat->Nat->List Sp×Int
 | 0,_=>([],0)
 | n+1,i=>if (out S L lv rec t a i).2≠0 then out S L lv rec t a i
   else((out S L lv rec t a i).1++(scan lv rec t a n (i+1)).1,(scan lv rec t a n (i+1)).2)
def thr:Nat->Int->Nat->List Sp×Int
 | 0,t,a=>scan S L 0 (fun _ _=>([],0)) t a 8 0
 | lv+1,t,a=>scan S L (lv+1) (thr lv) t a 8 0
def sub:Nat->Int->Nat->List Sp×Int
 | 0=>fun _ _=>([],0)
 | lv+1=>thr S L lv
end
theorem yiQ (S:Fs) (L:Nat->Nat->Bool) (lv:Nat) (t:Int) (a:Nat):thr S L lv t a=scan S L lv (sub S L lv) t a 8 0:=by
 cases lv<;>rfl
def cnt':Nat->Nat
 | 0=>0
 | lv+1=>8*(1+cnt' lv)
theorem out_len {S:Fs} {L:Nat->Nat->Bool} {lv:Nat} {rec:Int->Nat->List Sp×Int} {t:Int} {a i c:Nat} (h:∀t a,(rec t a).1.length<=c):(out S L lv rec t a i).1.length<=1+c:=by
 unfold out;split
 ·simp
 ·split
  ·simp
  ·split
   ·simp
   ·have:=h (rEn S t i lv).f ((a+i)*8)
    simp;omega
theorem yls {S:Fs} {L:Nat->Nat->Bool} {lv:Nat} {rec:Int->Nat->List Sp×Int} {t:Int} {a c:Nat} (h:∀t a,(rec t a).1.length<=c):∀n i,(scan S L lv rec t a n i).1.length<=n*(1+c)
 | 0,_=>by simp[scan]
 | n+1,i=>by
   have h1:=out_len (S:=S) (L:=L) (lv:=lv) (t:=t) (a:=a) (i:=i) h;have h2:=yls (S:=S) (L:=L) (lv:=lv) (t:=t) (a:=a) h n (i+1);unfold scan;rw[yN];split
   ·omega
   ·simp
    omega
theorem ylR (S:Fs) (L:Nat->Nat->Bool):∀lv t a,(sub S L lv t a).1.length<=cnt' lv
 | 0,_,_=>by simp[sub]
 | lv+1,t,a=>by
   show(thr S L lv t a).1.length<=_
   rw[yiQ];exact yls (fun t a=>ylR S L lv t a) 8 0
theorem ylT (S:Fs) (L:Nat->Nat->Bool) (lv:Nat) (t:Int) (a:Nat):(thr S L lv t a).1.length<=cnt' (lv+1):=ylR S L (lv+1) t a
def ix (p:Int) (lv:Nat):Nat:=(p/8^lv%8).toNat
theorem yiw (p:Int) (lv:Nat):ix p lv<8:=by unfold ix;omega
theorem yhY {p:Int} (h:below p 4096=kp) {lv:Nat} (hl:lv<4):index p (lv:Int)=(ix p lv:Nat):=by
 have hb:below (lv:Int) 4=kp:=zB.2 ⟨by omega,by omega⟩;simp only[index,h,hb,Bool.and_self,if_true,Int.toNat_natCast,ix];omega
def onW (p:Int) (i lv:Nat):Bool:=decide (i=ix p lv)
def zW (_ _:Nat):Bool:=kp
def Sp.mp (s:Sp):Mp:=s.e.map s.level (s.ahead*span s.level)
def zM (X:List Sp):List Mp:=X.flatMap fun s=>if s.e.l=kp then [s.mp]else []
def zU (X:List Sp):List Int:=X.flatMap fun s=>if s.e.on=kp then [s.e.f]else []
theorem yhP (X Y:List Sp):zM (X++Y)=zM X++zM Y:=by simp[zM]
theorem yhK (X Y:List Sp):zU (X++Y)=zU X++zU Y:=by simp[zU]
theorem mapsOf_len (X:List Sp):(zM X).length<=X.length:=by
 induction X with
 | nil=>simp[zM]
 | cons s X ih=>
   have:zM (s::X)=(if s.e.l=kp then [s.mp]else [])++zM X:=by simp[zM]
   rw[this]
   split<;>simp<;>omega
theorem tabsOf_len (X:List Sp):(zU X).length<=X.length:=by
 induction X with
 | nil=>simp[zU]
 | cons s X ih=>
   have:zU (s::X)=(if s.e.on=kp then [s.e.f]else [])++zU X:=by simp[zU]
   rw[this]
   split<;>simp<;>omega
section
variable {S:Fs}
theorem yih (h:S.Ok) {t:Int} {i lv:Nat} (hc:yhR S t i lv=0):(rEn S t i lv).fault lv=0:=by
 unfold yhR at hc;split at hc
 ·rename_i hh
  unfold rEn;rw[iP hh];exact(ykR (h.low _ _) hc).1
 ·omega
theorem yh6 (h:S.Ok) {t:Int} {i lv:Nat} (hl:(rEn S t i lv).l=kp):yhR S t i lv=0/\(rEn S t i lv).t=kp/\lv<=2:=by
 have hc:yhR S t i lv=0:=by
  unfold rEn at hl;unfold yhR;split at hl
  ·rename_i hh
   rw[iP hh];simp[En.of,xL,yhZ]at hl;exact hl.1.1
  ·simp[En.zero]at hl
 have hf:=yih h hc;obtain⟨_,hx⟩:=yh0 hf;rcases hx with ⟨_,h1,_⟩|⟨h0,_,_,_,_,⟨_,h2,_⟩|⟨h1,_⟩⟩
 ·rw[h1]at hl;cases hl
 ·exact⟨hc,h0,by omega⟩
 ·rw[h1]at hl;cases hl
end
theorem yib {S:Fs} {t:Int} {i lv:Nat} (ho:(rEn S t i lv).on=kp):∃m,lv=m+1:=by
 cases lv with
 | succ m=>exact⟨m,rfl⟩
 | zero=>
   exfalso
   unfold rEn at ho;split at ho
   ·simp[En.on,En.of,xL,yir]at ho
   ·simp[En.on,En.zero]at ho
theorem yhU {S:Fs} {t:Int} {i lv:Nat} (hc:yhR S t i lv=0):S.has t=kp:=by
 unfold yhR at hc;split at hc
 ·assumption
 ·omega
theorem ylt {S:Fs} {L:Nat->Nat->Bool} {lv:Nat} {rec:Int->Nat->List Sp×Int} {t:Int} {a k:Nat} (hL:∀i,L i lv=decide (i=k)):∀n i,scan S L lv rec t a n i=if i<=k/\k<i+n then out S L lv rec t a k else([],0)
 | 0,i=>by rw[iN (by omega)];rfl
 | n+1,i=>by
   have ih:=ylt (S:=S) (rec:=rec) (t:=t) (a:=a) hL n (i+1);unfold scan;rw[ih]
   by_cases e:i=k
   ·subst e
    have e1:(if i+1<=i/\i<i+1+n then out S L lv rec t a i else([],0))=([],0):=iN (by omega);have e2:(if i<=i/\i<i+(n+1)then out S L lv rec t a i else([],0))=out S L lv rec t a i:=iP (by omega);rw[e1,e2];split
    ·rfl
    ·rename_i h0
     have h0:(out S L lv rec t a i).2=0:=by simpa using h0
     simp only[yd];rw[<-h0]
   ·have ho:out S L lv rec t a i=([],0):=by
     unfold out;rw[iP (by rw[hL];simpa using e)]
    rw[ho];simp only[ne_eq,not_true_eq_false,if_false,yc]
    by_cases hk:i+1<=k/\k<i+1+n
    ·rw[iP hk,iP (by omega)]
    ·rw[iN hk,iN (by omega)]
theorem yid (S:Fs) (p:Int) (lv:Nat) (t:Int) (a:Nat):thr S (onW p) lv t a=
 if yhR S t (ix p lv) lv≠0 then([],yhR S t (ix p lv) lv)
 else if (rEn S t (ix p lv) lv).on=U then([spt S t (ix p lv) lv a],0)
 else(spt S t (ix p lv) lv a::(sub S (onW p) lv (rEn S t (ix p lv) lv).f ((a+ix p lv)*8)).1,(sub S (onW p) lv (rEn S t (ix p lv) lv).f ((a+ix p lv)*8)).2):=by
 have:=yiw p lv;rw[yiQ,ylt (k:=ix p lv) (fun i=>rfl),iP (by omega)];unfold out;rw[iN (by simp[onW])]
theorem yju {S:Fs} {L:Nat->Nat->Bool} {lv:Nat} {rec:Int->Nat->List Sp×Int} {t:Int} {a:Nat}:∀n i,(scan S L lv rec t a n i).2=0->
 (∀j,i<=j->j<i+n->(out S L lv rec t a j).2=0)/\(scan S L lv rec t a n i).1=(List.range' i n).flatMap fun j=>(out S L lv rec t a j).1
 | 0,i,_=>⟨fun j h1 h2=>by omega,by simp[scan]⟩
 | n+1,i,hz=>by
   unfold scan at hz ⊢;split at hz
   ·rename_i hh
    exact absurd hz hh
   ·rename_i hh
    have h0:(out S L lv rec t a i).2=0:=by simpa using hh
    obtain⟨ih1,ih2⟩:=yju n (i+1) hz;refine⟨fun j h1 h2=> ?_,?_⟩
    ·by_cases e:j=i
     ·rw[e];exact h0
     ·exact ih1 j (by omega) (by omega)
    ·rw[iN hh,ih2,List.range'_succ,List.flatMap_cons]
end Pg
section
open Go.Sort
theorem jv (e:Pg.En) (w:ki):
 yR kO 118 #[e.val] w fun x w'=>x=uv (N e.on)/\Lw w w':=by
 obtain⟨t,l,r,u,d,f⟩:=e;simp only[Pg.En.val,Pg.En.on];cases t
 ·go_enter Tryz.func118,Tryz.ntmps118
  go_wp2
  go_ret
  exact⟨rfl,zA (zR w) _⟩
 ·go_enter Tryz.func118,Tryz.ntmps118
  go_wp2
  go_ret
  exact⟨rfl,zA (zR w) _⟩
theorem jm (i lv:Int) (w:ki):
 yR kO 113 #[J Z i,J Z lv] w fun x w'=>x=uv (N kp)/\w'=w:=by
 go_enter Tryz.func113,Tryz.ntmps113
 go_wp2
 go_ret
 exact⟨rfl,rfl⟩
theorem yfp {b:Nat} {S:Pg.Fs} {F:Nat->Prop} (t:Int) (i lv:Nat) (hi:i<8) (w:ki) (h:zh w b S F):
 yR kO 188 #[yI (O ⟨b,0,I⟩),J Z t,J Z (i:Int),J Z (lv:Int)] w fun x w'=>x=uv (yF #[(Pg.rEn S t i lv).val,J Z (Pg.yhR S t i lv)])/\Lw w w':=by
 have hA:zh (w.alloc (yJ #[N U,N U,J Z 0,N U,N U,J Z 0] 70)) b S F:=h.keep (F:=F) (G:=fun _=>False) (But.yhJ (zA (zR w) _)) (fun _ _=>id);have HL:=jt t (i:Int) _ hA;have h0:=h.ok.low t.toNat i;have h1:=h.ok.high t.toNat i;cases hh:S.has t
 ·have ha:S.at' t (i:Int)=U:=by simp[Pg.Fs.at',hh]
  have e1:Pg.rEn S t i lv=Pg.En.zero:=by simp[Pg.rEn,hh]
  have e2:Pg.yhR S t i lv=12:=by simp[Pg.yhR,hh]
  rw[e1,e2]
  have e3:S.load t (i:Int)=0:=by simp[Pg.Fs.load,ha]
  rw[ha,e3]at HL;clear h hA
  go_enter Tryz.func188,Tryz.ntmps188
  go_wp2_with fail
  refine HL.mono ?_;rintro e w' ⟨rfl,hw⟩;subst w'
  go_wp2
  refine yS (v:=yF #[Pg.En.zero.val,J Z 12]) ?_ rfl ⟨rfl,?_⟩
  ·simp[results,Tryz.results188,go_sem,Pg.En.zero,Pg.En.val]
  ·exact zA (zR w) _
 ·have ha:S.at' t (i:Int)=kp:=by simp[Pg.Fs.at',hh];omega
  have e1:Pg.rEn S t i lv=Pg.En.of (S.word t.toNat i) lv:=by simp[Pg.rEn,hh]
  have e2:Pg.yhR S t i lv=Pg.yhV (S.word t.toNat i) lv:=by simp[Pg.yhR,hh]
  have e3:S.load t (i:Int)=S.word t.toNat i:=by simp[Pg.Fs.load,ha]
  rw[e1,e2];rw[ha,e3]at HL;clear h hA e1 e2 e3;generalize S.word t.toNat i=W at*;have HD:=jR W (lv:Int) h0 h1;rw[Pg.yjw]at HD;generalize Pg.En.of W (lv:Int)=e at*;obtain⟨t',l,r,u,d,f⟩:=e;simp only[Pg.En.val]at HD ⊢;generalize Pg.yhV W (lv:Int)=c at*
  go_enter Tryz.func188,Tryz.ntmps188
  go_wp2_with fail
  refine HL.mono ?_;rintro e w' ⟨rfl,hw⟩;subst w'
  go_wp2_with fail
  refine(HD _).mono ?_;rintro e w1 ⟨rfl,Ha⟩;have hB:Lw w w1:=zT (zA (zR w) _) Ha;obtain⟨rO,si⟩:=xV Ha
  go_wp2
  refine yS (v:=yF #[yY #[N t',N l,J Z r,N u,N d,J Z f],J Z c]) ?_ rfl ⟨rfl,?_⟩
  ·simp[results,Tryz.results188,go_sem,rO]
  ·exact(((((hB.setCell (by simp) _).setCell (by simp) _).setCell (by simp) _).setCell (by simp) _).setCell (by simp) _).setCell (by simp) _
def Pg.Sp.val (s:Pg.Sp):kh:=yY #[J Z s.table,J Z (s.place:Int),J Z (s.level:Int),J Z (s.ahead:Int),N s.e.t,N s.e.l,J Z s.e.r,N s.e.u,N s.e.d,J Z s.e.f]
structure ycx (b:Nat) (S:Pg.Fs) (F:Nat->Prop) (g h:FuncId) (ca cb:Array kh) (L:Nat->Nat->Bool) (R:List Pg.Sp->(Nat->Prop)->ki->Prop):Prop where
 eg:∀args w,(callFunc g args).run kO w= .ok (.enter g args) w
 eh:∀args w,(callFunc h args).run kO w= .ok (.enter h args) w
 fr:∀X V w,R X V w->zh w b S F
 lt:∀X V w,R X V w->∀k,V k->k<w.heap.size
 grow:∀X V w w',R X V w->Lw w w'->R X V w'
 looks:∀(i lv:Nat) X V w,i<8->lv<4->R X V w->yR kO g (#[J Z (i:Int),J Z (lv:Int)]++ca) w fun e w'=>e=uv (N (L i lv))/\Lw w w'
 meets:∀(s:Pg.Sp) X V w,s.place<8->s.level<4->s.ahead<4096->X.length<4680->R X V w->yR kO h (#[s.val]++cb) w fun e w'=>e=uv (yF #[])/\∃V',R (X++[s]) V' w'/\But V w w'/\∀k,V' k->V k\/w.heap.size<=k
structure vB (R:List Pg.Sp->(Nat->Prop)->ki->Prop) (V:Nat->Prop) (w:ki) (v0 v1 v2:kh) (X:List Pg.Sp) (V':Nat->Prop) (wr:ki):Prop where
 r:R X V' wr
 but:But V w wr
 new:∀k,V' k->V k\/w.heap.size<k
 c:wr.cell? ⟨w.heap.size,0,I⟩=O v0/\wr.cell? ⟨w.heap.size,1,I⟩=O v1/\wr.cell? ⟨w.heap.size,2,I⟩=O v2
namespace vB
variable {b:Nat} {S:Pg.Fs} {F:Nat->Prop} {g h:FuncId} {ca cb:Array kh} {L:Nat->Nat->Bool} {R:List Pg.Sp->(Nat->Prop)->ki->Prop} {V V' LK:Nat->Prop} {w wr wr':ki} {v0 v1 v2:kh} {X X':List Pg.Sp}
theorem grow (T:ycx b S F g h ca cb L R) (G:vB R V w v0 v1 v2 X V' wr) (hb:Lw wr wr'):vB R V w v0 v1 v2 X V' wr':=
 ⟨T.grow _ _ _ _ G.r hb,G.but.trans (But.yhJ (F:=fun _=>False) hb) (fun _ _ h=>h.elim),G.new,qc hb G.c⟩
theorem lb (G:vB R V w v0 v1 v2 X V' wr):w.heap.size<wr.heap.size:=yC _ _ G.c.1
theorem step (hV:∀k,V k->k<w.heap.size) (G:vB R V w v0 v1 v2 X V' wr) (hr:R X' LK wr') (hb:But V' wr wr') (hn:∀k,LK k->V' k\/wr.heap.size<=k):vB R V w v0 v1 v2 X' LK wr':=by
 have hl:=G.lb
 have bX:¬V' w.heap.size:=fun hk=>by
  rcases G.new _ hk with h1|h1
  ·have:=hV _ h1;omega
  ·omega
 refine⟨hr,G.but.trans hb (fun i hi hk=> ?_),fun k hk=> ?_,?_,?_,?_⟩
 ·rcases G.new i hk with h1|h1
  ·exact h1
  ·omega
 ·rcases hn k hk with h1|h1
  ·exact G.new k h1
  ·exact .inr (by omega)
 ·exact(hb.cell (a:=⟨w.heap.size,0,I⟩) hl bX).trans G.c.1
 ·exact(hb.cell (a:=⟨w.heap.size,1,I⟩) hl bX).trans G.c.2.1
 ·exact(hb.cell (a:=⟨w.heap.size,2,I⟩) hl bX).trans G.c.2.2
theorem box6 (T:ycx b S F g h ca cb L R) (G:vB R V w v0 v1 v2 X V' wr) {u0 u1 u2 u3 u4 u5:kh} {ty:TypeId} (hb:But V' (wr.alloc (yJ #[u0,u1,u2,u3,u4,u5] ty)) wr'):
 wr'.cell? ⟨wr.heap.size,0,I⟩=O u0/\wr'.cell? ⟨wr.heap.size,1,I⟩=O u1/\wr'.cell? ⟨wr.heap.size,2,I⟩=O u2/\wr'.cell? ⟨wr.heap.size,3,I⟩=O u3/\wr'.cell? ⟨wr.heap.size,4,I⟩=O u4/\wr'.cell? ⟨wr.heap.size,5,I⟩=O u5:=by
 have hn:¬V' wr.heap.size:=fun hk=>by have:=T.lt _ _ _ G.r _ hk;omega
 have hk:∀o,wr'.cell? ⟨wr.heap.size,o,I⟩=(wr.alloc (yJ #[u0,u1,u2,u3,u4,u5] ty)).cell? ⟨wr.heap.size,o,I⟩:=fun o=>hb.cell (a:=⟨wr.heap.size,o,I⟩) (by simp) hn
 refine⟨?_,?_,?_,?_,?_,?_⟩<;>rw[hk]<;>simp[go_sem]
theorem done (G:vB R V w v0 v1 v2 X' V' wr) {A:List Pg.Sp} (e:X++A=X'):∃V',R (X++A) V' wr/\But V w wr/\∀k,V' k->V k\/w.heap.size<=k:=
 ⟨V',e▸G.r,G.but,fun k hk=>(G.new k hk).imp id yX⟩
end vB
theorem jE {X:List Pg.Sp} {s:Pg.Sp} {j c:Nat} (hj:j<8) (h:X.length+(8-j)*(1+c)<=4680):X.length<4680/\(X++[s]).length+(8-(j+1))*(1+c)+c<=4680/\(X++[s]).length+c<=4680:=by
 have e:(8-j)*(1+c)=(8-(j+1))*(1+c)+(1+c):=by
  rw[show 8-j=(8-(j+1))+1 by omega,yN,yU]
 rw[e]at h;rw[un,List.length_singleton];generalize (8-(j+1))*(1+c)=x at*;omega
theorem yfe {S:Pg.Fs} {L:Nat->Nat->Bool} {lv:Nat} {rec:Int->Nat->List Pg.Sp×Int} {t:Int} {a j:Nat} (hj:j<8):
 Pg.scan S L lv rec t a (8-j) j=if (Pg.out S L lv rec t a j).2≠0 then Pg.out S L lv rec t a j
  else((Pg.out S L lv rec t a j).1++(Pg.scan S L lv rec t a (8-(j+1)) (j+1)).1,(Pg.scan S L lv rec t a (8-(j+1)) (j+1)).2):=by
 have e:8-j=(8-(j+1))+1:=by omega
 rw[e];rfl
theorem yde {b:Nat} {S:Pg.Fs} {F:Nat->Prop} {g h:FuncId} {ca cb:Array kh} {L:Nat->Nat->Bool} {R:List Pg.Sp->(Nat->Prop)->ki->Prop} (T:ycx b S F g h ca cb L R):
 ∀(lv:Nat),lv<4->∀(t:Int) (a:Nat) (X:List Pg.Sp) (V:Nat->Prop) (w:ki),a+8<=8^(4-lv)->X.length+Pg.cnt' (lv+1)<=4680->R X V w->
  yR kO 154 #[yY #[yI (O ⟨b,0,I⟩),.func (.func g) #[] ca,.func (.func h) #[] cb],J Z t,J Z (lv:Int),J Z (a:Int)] w fun e w'=>
   e=uv (J Z (Pg.thr S L lv t a).2)/\∃V',R (X++(Pg.thr S L lv t a).1) V' w'/\But V w w'/\∀k,V' k->V k\/w.heap.size<=k:=by
 intro lv
 induction lv using Nat.strongRecOn with
 | _ lv IH=>
 intro rQ t a X V w ha hX hR;have hV:=T.lt _ _ _ hR;rw[Pg.yiQ];have Ik:a+8<=4096:=yw ha (by have:=Nat.pow_le_pow_right (n:=8) (by decide) (show 4-lv<=4 by omega);simpa using this);have HI:ue _:=IH;have HT:ue _:=T;have HV:ue _:=hV;have HX:ue _:=hX;have HA:ue _:=ha
 have HG:ue (vB R V w (yI (O ⟨b,0,I⟩)) (.func (.func g) #[] ca) (.func (.func h) #[] cb) X V (w.alloc (yJ #[yI (O ⟨b,0,I⟩),.func (.func g) #[] ca,.func (.func h) #[] cb] 202))):=
  ⟨T.grow _ _ _ _ hR (zA (zR w) _),But.yhJ (zA (zR w) _),fun k hk=> .inl hk,by simp[go_sem],by simp[go_sem],by simp[go_sem]⟩
 clear IH T hV hX ha hR
 go_enter Tryz.func154,Tryz.ntmps154
 go_wp2
 go_loopw [13] (fun i wr=>∃(j:Nat) (X':List Pg.Sp) (V':Nat->Prop),j<=8/\i=J Z j/\ue (vB R V w (yI (O ⟨b,0,I⟩)) (.func (.func g) #[] ca) (.func (.func h) #[] cb) X' V' wr/\X++(Pg.scan S L lv (Pg.sub S L lv) t a 8 0).1=X'++(Pg.scan S L lv (Pg.sub S L lv) t a (8-j) j).1/\(Pg.scan S L lv (Pg.sub S L lv) t a 8 0).2=(Pg.scan S L lv (Pg.sub S L lv) t a (8-j) j).2/\X'.length+(8-j)*(1+Pg.cnt' lv)<=4680)) (fun i _=>8-(intOf i).toNat)
 case atStart=>exact⟨0,X,V,by omega,rfl,HG.out,rfl,rfl,HX.out⟩
 case round=>
  obtain⟨j,X',V',hj,rfl,HR⟩:=hrel;clear HG;have hc:=HR.out.1.c;obtain⟨c0,c1,c2⟩:=hc
  by_cases Hf:j<8
  ·have sM:=yfe (S:=S) (L:=L) (lv:=lv) (rec:=Pg.sub S L lv) (t:=t) (a:=a) Hf
   have eg:=HT.out.eg;have eh:=HT.out.eh
   have hlI:(j:Int)<8:=by omega
   cases hL:L j lv
   ·have HL:=HT.out.looks j lv X' V' wr Hf rQ HR.out.1.r
    rw[hL]at HL
    have ho:Pg.out S L lv (Pg.sub S L lv) t a j=([],0):=by simp[Pg.out,hL]
    have HS:ue (Pg.scan S L lv (Pg.sub S L lv) t a (8-j) j=Pg.scan S L lv (Pg.sub S L lv) t a (8-(j+1)) (j+1)):=by
     rw[ue,sM,ho];simp
    clear sM ho hL
    go_wp2_with fail
    refine HL.mono ?_;rintro e w1 ⟨rfl,Ha⟩;have G1:ue _:=HR.out.1.grow HT.out Ha;clear Ha
    go_wp2_with fail
    obtain⟨_,h1,h2,h3⟩:=HR.out;rw[HS.out]at h1 h2;refine⟨⟨j+1,X',V',by omega,by go_num,G1.out,h1,h2,?_⟩,?_⟩
    ·have:(8-(j+1))*(1+Pg.cnt' lv)<=(8-j)*(1+Pg.cnt' lv):=yZ _ (by omega)
     omega
    ·simp[intOf];omega
   ·have HL:=HT.out.looks j lv X' V' wr Hf rQ HR.out.1.r
    rw[hL]at HL;have HD:=fun w=>yfp (b:=b) (S:=S) (F:=F) t j lv Hf w;have HE:ue (Pg.spt S t j lv a=⟨t,j,lv,a+j,Pg.rEn S t j lv⟩):=rfl;have HO:ue _:= @Pg.yib S t j lv
    by_cases sJ:Pg.yhR S t j lv=0
    ·cases Hu:(Pg.rEn S t j lv).on
     ·have ho:Pg.out S L lv (Pg.sub S L lv) t a j=([Pg.spt S t j lv a],0):=by simp[Pg.out,hL,sJ,Hu]
      have HS:ue (Pg.scan S L lv (Pg.sub S L lv) t a (8-j) j=(Pg.spt S t j lv a::(Pg.scan S L lv (Pg.sub S L lv) t a (8-(j+1)) (j+1)).1,(Pg.scan S L lv (Pg.sub S L lv) t a (8-(j+1)) (j+1)).2)):=by
       rw[ue,sM,ho];simp
      rw[sJ]at HD;clear sM ho hL sJ HO;generalize Pg.rEn S t j lv=E at*;generalize Pg.spt S t j lv a=sp at*;have lJ:=jv E;rw[Hu]at lJ;have HM:=HT.out.meets sp;rw[HE.out]at HM;obtain⟨et,el,er,eu,ed,ef⟩:=E;simp only[Pg.Sp.val,Pg.En.val,yG]at HM lJ HD;clear Hu
      go_wp2_with fail
      refine HL.mono ?_;rintro e w1 ⟨rfl,Ha⟩;have G1:ue _:=HR.out.1.grow HT.out Ha;clear Ha HL c0 c1 c2;obtain⟨c0,c1,c2⟩:=G1.out.c
      go_wp2_with fail
      refine(HD _ (HT.out.fr _ _ _ G1.out.r)).mono ?_;rintro e w2 ⟨rfl,Hd⟩;have G2:ue _:=G1.out.grow HT.out Hd;clear Hd HD c0 c1 c2 G1;obtain⟨c0,c1,c2⟩:=G2.out.c;have su:=G2.out.lb
      go_wp2_with fail
      refine(HM X' V' _ Hf rQ (show a+j<4096 by omega) ?_ (G2.out.grow HT.out (zA (zR w2) _)).r).mono ?_
      ·exact(jE (s:=sp) Hf HR.out.2.2.2).1
      rintro e w4 ⟨rfl,V4,gH,Hl,lT⟩;have G4:ue _:=(G2.out.grow HT.out (zA (zR w2) _)).step HV.out gH Hl lT;obtain⟨x0,x1,x2,x3,x4,x5⟩:=G2.out.box6 HT.out Hl;clear c0 c1 c2 gH Hl lT HM
      go_wp2_with fail
      refine(lJ _).mono ?_;rintro e w5 ⟨rfl,rD⟩;have G5:ue _:=G4.out.grow HT.out rD;clear rD x0 x1 x2 x3 x4 x5 lJ
      go_wp2_with fail
      obtain⟨_,h1,h2,h3⟩:=HR.out;rw[HS.out]at h1 h2;refine⟨⟨j+1,X'++[sp],V4,by omega,by go_num,by rw[HE.out];exact G5.out,by simpa using h1,h2,?_⟩,?_⟩
      ·have:=(jE (s:=sp) Hf HR.out.2.2.2).2.1
       omega
      ·simp[intOf];omega
     ·obtain⟨m,hm⟩:=HO.out Hu
      have pG:Pg.sub S L lv=Pg.thr S L m:=by rw[hm];rfl
      have ho:Pg.out S L lv (Pg.sub S L lv) t a j=(Pg.spt S t j lv a::(Pg.thr S L m (Pg.rEn S t j lv).f ((a+j)*8)).1,(Pg.thr S L m (Pg.rEn S t j lv).f ((a+j)*8)).2):=by simp[Pg.out,hL,sJ,Hu,pG]
      rw[ho]at sM;rw[sJ]at HD;have iq:ue (lv=m+1):=hm
      have uy:(lv:Int)-1=(m:Int):=by omega
      have iT:(1:Int)<=(lv:Int):=by omega
      clear ho hL sJ HO hm pG;generalize Pg.rEn S t j lv=E at*;generalize Pg.spt S t j lv a=sp at*;have lJ:=jv E;rw[Hu]at lJ;have HM:=HT.out.meets sp;rw[HE.out]at HM;obtain⟨et,el,er,eu,ed,ef⟩:=E;simp only[Pg.Sp.val,Pg.En.val,yG]at HM lJ HD;simp only at sM;clear Hu;have NP:=HI.out m (by have:=iq.out;omega) (by have:=iq.out;omega) ef ((a+j)*8) (X'++[sp]);have fe:=Pg.ylT S L m ef ((a+j)*8);generalize aY:Pg.thr S L m ef ((a+j)*8)=th at*;have iA:ue _:=sM
      have NV:ue (th.1.length<=Pg.cnt' lv):=by
       have:=iq.out;rw[ue,this];exact fe
      clear sM fe aY;simp only[Int.natCast_mul,yG]at NP
      go_wp2_with fail
      refine HL.mono ?_;rintro e w1 ⟨rfl,Ha⟩;have G1:ue _:=HR.out.1.grow HT.out Ha;clear Ha HL c0 c1 c2;obtain⟨c0,c1,c2⟩:=G1.out.c
      go_wp2_with fail
      refine(HD _ (HT.out.fr _ _ _ G1.out.r)).mono ?_;rintro e w2 ⟨rfl,Hd⟩;have G2:ue _:=G1.out.grow HT.out Hd;clear Hd HD c0 c1 c2 G1;obtain⟨c0,c1,c2⟩:=G2.out.c;have su:=G2.out.lb
      go_wp2_with fail
      refine(HM X' V' _ Hf rQ (show a+j<4096 by omega) ?_ (G2.out.grow HT.out (zA (zR w2) _)).r).mono ?_
      ·exact(jE (s:=sp) Hf HR.out.2.2.2).1
      rintro e w4 ⟨rfl,V4,gH,Hl,lT⟩;have G4:ue _:=(G2.out.grow HT.out (zA (zR w2) _)).step HV.out gH Hl lT;have X4:ue _:=G2.out.box6 HT.out Hl;obtain⟨x0,x1,x2,x3,x4,x5⟩:=X4.out;clear c0 c1 c2 gH Hl lT HM
      go_wp2_with fail
      refine(lJ _).mono ?_;rintro e w5 ⟨rfl,rD⟩;have G5:ue _:=G4.out.grow HT.out rD;have y5:=(xC rD X4.out).2.2.2.2.2;clear rD x0 x1 x2 x3 x4 x5 lJ X4;obtain⟨c0,c1,c2⟩:=G5.out.c
      go_wp2_with fail
      refine(NP V4 w5 ?_ ?_ (by rw[HE.out];exact G5.out.r)).mono ?_
      ·have:=HA.out
       have:=iq.out;rw[show 4-m=(4-lv)+1 by omega,Nat.pow_succ];omega
      ·have:=(jE (s:=sp) Hf HR.out.2.2.2).2.2
       rw[<-iq.out];exact this
      rintro e w6 ⟨rfl,V6,uB,ru,IZ⟩;have G6:ue _:=G5.out.step HV.out uB ru IZ;clear uB ru IZ NP c0 c1 c2
      by_cases hc:th.2=0
      ·have bB:(th.2 !=0)=U:=by simp[hc]
       go_wp2_with fail
       obtain⟨_,h1,h2,h3⟩:=HR.out;rw[iA.out,iN (by simpa using hc)]at h1 h2;refine⟨⟨j+1,X'++[sp]++th.1,V6,by omega,by go_num,G6.out,by simpa using h1,h2,?_⟩,?_⟩
       ·have:=(jE (s:=sp) Hf HR.out.2.2.2).2.1
        have:=NV.out;rw[un];omega
       ·simp[intOf];omega
      ·have bB:(th.2 !=0)=kp:=by simp[hc]
       go_wp2
       go_ret
       obtain⟨_,h1,h2,h3⟩:=HR.out;rw[iA.out,iP (by simpa using hc)]at h1 h2;exact⟨zy h2.symm,G6.out.done (by simpa using h1)⟩
    ·have ho:Pg.out S L lv (Pg.sub S L lv) t a j=([],Pg.yhR S t j lv):=by simp[Pg.out,hL,sJ]
     rw[ho]at sM;have iA:ue _:=sM
     have bB:(Pg.yhR S t j lv !=0)=kp:=by simp[sJ]
     have HC:ue _:=sJ;clear sM ho hL HO HE sJ;generalize Pg.rEn S t j lv=E at*;generalize Pg.yhR S t j lv=c at*;obtain⟨et,el,er,eu,ed,ef⟩:=E;simp only[Pg.En.val]at HD
     go_wp2_with fail
     refine HL.mono ?_;rintro e w1 ⟨rfl,Ha⟩;have G1:ue _:=HR.out.1.grow HT.out Ha;clear Ha HL c0 c1 c2;obtain⟨c0,c1,c2⟩:=G1.out.c
     go_wp2_with fail
     refine(HD _ (HT.out.fr _ _ _ G1.out.r)).mono ?_;rintro e w2 ⟨rfl,Hd⟩;have G2:ue _:=G1.out.grow HT.out Hd;clear Hd HD c0 c1 c2 G1
     go_wp2
     go_ret
     obtain⟨_,h1,h2,h3⟩:=HR.out;rw[iA.out,iP (by simpa using HC.out)]at h1 h2;exact⟨zy h2.symm,(G2.out.grow HT.out (zA (zR w2) _)).done (by simpa using h1)⟩
  ·have Dl:j=8:=by omega
   subst Dl
   have hlI:¬((8:Nat):Int)<8:=by omega
   go_wp2
   go_ret
   obtain⟨G,h1,h2,h3⟩:=HR.out;exact⟨zy h2.symm,G.done (by simpa[Pg.scan]using h1)⟩
theorem ybq {b:Nat} {S:Pg.Fs} {F:Nat->Prop} {g h:FuncId} {ca cb:Array kh} {L:Nat->Nat->Bool} {R:List Pg.Sp->(Nat->Prop)->ki->Prop} (T:ycx b S F g h ca cb L R) (t:Int) (V:Nat->Prop) (w:ki) (hR:R [] V w):
 yR kO 116 #[yY #[yI (O ⟨b,0,I⟩),.func (.func g) #[] ca,.func (.func h) #[] cb],J Z t] w fun e w'=>
  e=uv (J Z (Pg.thr S L 3 t 0).2)/\∃V',R (Pg.thr S L 3 t 0).1 V' w'/\But V w w'/\∀k,V' k->V k\/w.heap.size<=k:=by
 have HT:ue _:=yde T 3 (by omega) t 0 [] V _ (by decide) (by decide) (T.grow _ _ _ _ hR (zA (zR w) (yJ #[yI (O ⟨b,0,I⟩),.func (.func g) #[] ca,.func (.func h) #[] cb] 202)));clear hR T
 go_enter Tryz.func116,Tryz.ntmps116
 go_wp2_with fail
 refine Calls.mono HT.out ?_;rintro e w1 ⟨rfl,V',hr,hb,hn⟩
 have fin:ue (∃V',R (Pg.thr S L 3 t 0).1 V' w1/\But V w w1/\∀k,V' k->V k\/w.heap.size<=k):=
  ⟨V',hr,((But.refl V w).alloc _).trans hb (fun _ _ h=>h),fun k hk=>(hn k hk).imp id (fun h=>by simp at h;omega)⟩
 clear hr hb hn
 go_wp2
 go_ret
 exact⟨rfl,fin.out⟩
def xn (l:List Int):List kh:=l.map fun k:Int=>Value.int Z k
theorem ygt (l:List Int) (j:Nat) (hj:j<l.length):(xn l)[j]?=O (J Z (l.getD j 0)):=by
 simp[xn,List.getD,hj]
def zq (w:ki) (ad:Option Addr) (L:List Int):Prop:=∀j,j<L.length->∃g,ad=O ⟨g,0,I⟩/\g<w.heap.size/\w.cell? ⟨g,j,I⟩=O (J Z (L.getD j 0))
theorem zq.below {w w':ki} {ad:Option Addr} {L:List Int} (h:zq w ad L) (hb:Lw w w'):zq w' ad L:=by
 intro j hj;obtain⟨g,e,hg,hm⟩:=h j hj;exact⟨g,e,yj hg hb.size,(hb.cell (p:=⟨g,j,I⟩) hg).trans hm⟩
theorem qk {w:ki} {base:Nat} {ad:Option Addr} {n cap:Nat} {L:List Int} (h:w.ownsRow base 3 1 (yB ad n cap) L.length (xn L)):zq w ad L:=by
 intro j hj;obtain⟨g,cap',e,_,hg⟩:=h.form (by omega);cases e;refine⟨g,rfl,hg,?_⟩;rw[h.cellAt _ (by omega)];exact ygt L j hj
structure Var (B:Nat) (c o:Nat) (e:TypeId) (size:Nat) (vb:kh) (n:Nat) (xs:List kh) (w:ki):Prop where
 cell:w.cell? ⟨c,o,I⟩=O vb
 own:w.ownsRow B e size vb n xs
 ne:vb.ownBlock≠O c
namespace Var
variable {B c o:Nat} {e:TypeId} {size:Nat} {vb:kh} {n:Nat} {xs:List kh} {w w':ki}
theorem grow (h:Var B c o e size vb n xs w) (hb:Lw w w'):Var B c o e size vb n xs w':=
 ⟨yT hb h.cell,zn h.own hb,h.ne⟩
theorem lt (h:Var B c o e size vb n xs w) {k:Nat} (hk:vb.ownBlock=O k):k<w.heap.size:=(h.own.lt k hk).2
theorem lb (h:Var B c o e size vb n xs w):c<w.heap.size:=yC _ _ h.cell
theorem push {wA w3:ki} {g cap n':Nat} {xs':List kh} (h:Var B c o e size vb n xs w) (hA:Lw w wA) (hg:wA.grownBy w3 vb.ownBlock)
 (Hq:w3.ownsRow B e size (yB (O ⟨g,0,I⟩) n' cap) n' xs') (hat:vb.ownBlock=O g\/g=wA.heap.size):
 w3.cell? ⟨c,o,I⟩=O vb/\(∀o,w3.frozen? ⟨c,o,I⟩=w.frozen? ⟨c,o,I⟩)/\(∀o,w3.cell? ⟨c,o,I⟩=w.cell? ⟨c,o,I⟩)/\g≠c/\Var B c o e size (yB (O ⟨g,0,I⟩) n' cap) n' xs' (w3.setCell ⟨c,o,I⟩ (yB (O ⟨g,0,I⟩) n' cap))/\
  But (fun k=>k=c\/vb.ownBlock=O k) w (w3.setCell ⟨c,o,I⟩ (yB (O ⟨g,0,I⟩) n' cap))/\(vb.ownBlock=O g\/w.heap.size<=g):=by
 have hl:=h.lb
 have gB:g≠c:=by
  rintro rfl;rcases hat with e1|e1
  ·exact h.ne e1
  ·have:=hA.size;omega
 have hB:But (fun k=>k=c\/vb.ownBlock=O k) w w3:=(But.yhJ hA).grown hg fun k hk=> .inr (.inr hk);have tL:But (fun k=>vb.ownBlock=O k) w w3:=(But.yhJ hA).grown hg fun k hk=> .inr hk;have hc:w3.cell? ⟨c,o,I⟩=O vb:=(tL.cell (a:=⟨c,o,I⟩) hl (fun e=>h.ne e)).trans h.cell;refine⟨hc,fun o=>tL.frozen (a:=⟨c,o,I⟩) hl (fun e=>h.ne e),fun o=>tL.cell (a:=⟨c,o,I⟩) hl (fun e=>h.ne e),gB,⟨yM _ _ _ hc,?_,?_⟩,hB.setCell (.inr (.inl rfl)) _,?_⟩
 ·exact zb Hq fun k hk=>Below.heap_setCell _ _ _ _ (fun e=>gB ((show g=k by simpa[yE]using hk).trans e))
 ·simpa[yE]using gB
 ·exact hat.imp id fun e=>by have:=hA.size;omega
end Var
structure qr (w0:ki) (c:Nat) (e:TypeId) (size:Nat) (len:List Pg.Sp->Nat) (row:List Pg.Sp->List kh) (X:List Pg.Sp) (V:Nat->Prop) (w:ki):Prop where
 bel:Lw w0 w
 hi:w0.heap.size<=c
 fz:∀o,w.frozen? ⟨c,o,I⟩=U
 var:∃vb,Var w0.heap.size c 0 e size vb (len X) (row X) w/\V=fun k=>k=c\/vb.ownBlock=O k
namespace qr
variable {w0:ki} {c:Nat} {e:TypeId} {size:Nat} {len:List Pg.Sp->Nat} {row:List Pg.Sp->List kh} {X X':List Pg.Sp} {V:Nat->Prop} {w w':ki}
theorem grow (h:qr w0 c e size len row X V w) (hb:Lw w w'):qr w0 c e size len row X V w':=by
 obtain⟨h1,h2,h3,vb,hv,rfl⟩:=h;exact⟨h1.trans (hb.mono h1.size),h2,fun o=>(hb.frozen (p:=⟨c,o,I⟩) hv.lb).trans (h3 o),vb,hv.grow hb,rfl⟩
theorem lt (h:qr w0 c e size len row X V w) {k:Nat} (hk:V k):k<w.heap.size:=by
 obtain⟨h1,h2,h3,vb,hv,rfl⟩:=h;rcases hk with rfl|hk
 ·exact hv.lb
 ·exact hv.lt hk
theorem same (h:qr w0 c e size len row X V w) (h1:len X'=len X) (h2:row X'=row X):qr w0 c e size len row X' V w:=
 ⟨h.bel,h.hi,h.fz,by rw[h1,h2];exact h.var⟩
theorem stay (h:qr w0 c e size len row X V w) (hb:Lw w w') (h1:len X'=len X) (h2:row X'=row X):∃V',qr w0 c e size len row X' V' w'/\But V w w'/\∀k,V' k->V k\/w.heap.size<=k:=
 ⟨V,(h.grow hb).same h1 h2,But.yhJ hb,fun k hk=> .inl hk⟩
theorem fr {b:Nat} {S:Pg.Fs} {F:Nat->Prop} (hf:zh w0 b S F) (h:qr w0 c e size len row X V w):zh w b S F:=
 hf.keep (G:=fun k=>w0.heap.size<=k) (w':=w) ⟨h.bel.os,h.bel.tape,h.bel.output,h.bel.size,fun k hk _=>h.bel.block k hk⟩ (fun k hk=>by have:=hf.lt hk;omega)
theorem push (h:qr w0 c e size len row X V w) {vb:kh} (hv:Var w0.heap.size c 0 e size vb (len X) (row X) w) (hV:V=fun k=>k=c\/vb.ownBlock=O k) {wA w3:ki} {g cap n':Nat} {xs':List kh} (hA:Lw w wA) (hg:wA.grownBy w3 vb.ownBlock)
 (Hq:w3.ownsRow w0.heap.size e size (yB (O ⟨g,0,I⟩) n' cap) n' xs') (hat:vb.ownBlock=O g\/g=wA.heap.size) (h1:len X'=n') (h2:row X'=xs'):
 ∃V',qr w0 c e size len row X' V' (w3.setCell ⟨c,0,I⟩ (yB (O ⟨g,0,I⟩) n' cap))/\But V w (w3.setCell ⟨c,0,I⟩ (yB (O ⟨g,0,I⟩) n' cap))/\∀k,V' k->V k\/w.heap.size<=k:=by
 obtain⟨p1,p2,p2',p3,p4,p5,p6⟩:=hv.push hA hg Hq hat;subst hV;refine⟨_,⟨?_,h.hi,fun o=>by rw[World.frozen?_setCell,p2];exact h.fz o,_,by rw[h1,h2];exact p4,rfl⟩,p5,fun k hk=> ?_⟩
 ·have MM:∀k,(k=c\/vb.ownBlock=O k)->w0.heap.size<=k:=fun k hk=>by
   rcases hk with rfl|hk
   ·exact h.hi
   ·exact(hv.own.lt k hk).1
  exact h.bel.trans (p5.below h.bel.size MM)
 ·rcases hk with rfl|hk
  ·exact .inl (.inl rfl)
  ·have e1:g=k:=by simpa[yE]using hk
   subst e1;exact p6.imp .inr id
end qr
theorem qE:(Tryz.prog.info? 3).map (fun i=>(i.zero,i.size,i.bytes))=O (O (J Z 0),1,8):=by kernel_rfl
theorem ydd {w0:ki} {c:Nat} {t:Int} (s:Pg.Sp) (X:List Pg.Sp) (V:Nat->Prop) (w:ki) (Hg:X.length<4680)
 (hR:qr w0 c 3 1 (fun X=>(t::Pg.zU X).length) (fun X=>xn (t::Pg.zU X)) X V w):
 yR kO 117 #[s.val,yI (O ⟨c,0,I⟩)] w fun e w'=>e=uv (yF #[])/\∃V',qr w0 c 3 1 (fun X=>(t::Pg.zU X).length) (fun X=>xn (t::Pg.zU X)) (X++[s]) V' w'/\But V w w'/\∀k,V' k->V k\/w.heap.size<=k:=by
 have HT:ue (Pg.zU (X++[s])=Pg.zU X++if s.e.on=kp then [s.e.f]else []):=by simp[ue,Pg.zU]
 have HR:ue _:=hR;have hl:=Pg.tabsOf_len X;obtain⟨st,sp,sl,sa,⟨et,el,er,eu,ed,ef⟩⟩:=s;have lJ:=jv ⟨et,el,er,eu,ed,ef⟩;simp only[Pg.Sp.val,Pg.En.val]at lJ ⊢;simp only at HT;cases Hu:Pg.En.on ⟨et,el,er,eu,ed,ef⟩
 ·rw[Hu]at lJ HT
  clear hR Hu
  go_enter Tryz.func117,Tryz.ntmps117
  go_wp2_with fail
  refine(lJ _).mono ?_;rintro e w1 ⟨rfl,Ha⟩;have fin:ue _:=HR.out.stay (X':=X++[⟨st,sp,sl,sa,⟨et,el,er,eu,ed,ef⟩⟩]) (zT (zA (zR w) _) Ha) (by rw[HT.out];simp) (by rw[HT.out];simp);clear Ha
  go_wp2
  go_end0
  exact⟨rfl,fin.out⟩
 ·rw[Hu]at lJ HT
  obtain⟨vb,hv,hV⟩:=hR.var;obtain⟨q0,hq,rW,tJ,rX⟩:=info_parts qE;have wQ:ue _:=hv;have Ro:=hR.fz;have Dt:=hR.bel.size;have nV:=hv.lb;clear hR Hu hv
  go_enter Tryz.func117,Tryz.ntmps117
  go_wp2_with fail
  refine(lJ _).mono ?_;rintro e w1 ⟨rfl,Ha⟩;have hB:Lw w w1:=zT (zA (zR w) _) Ha;have x9:w1.cell? ⟨w.heap.size,9,I⟩=O (J Z ef):=(Ha.cell (p:=⟨w.heap.size,9,I⟩) (by simp)).trans (by simp[go_sem]);have v1:=wQ.out.grow hB;have cc:=v1.cell
  have dE:w.heap.size<w1.heap.size:=by have:=Ha.size;simp at this;omega
  have Hq:=v1.own;have HB:ue _:=hB;clear Ha hB v1 lJ
  go_wp2_with (first
   | (at_builtin;refine wpList_append_lies _ rfl _ _ 45 rfl w0.heap.size 3 q0 (J Z 0) 1 8 Tryz.underlying45 hq rW tJ rX rfl (by decide) _ _ _ rfl (Hq.alloc _) ⟨w1.heap.size,0,I⟩ 1 1 [J Z ef] rfl rfl ?c1 ?c2 (by decide) ?c3 ?c4 ?c5 (w1.heap.size+1) (by simp) ?_))
  case c1=>
   intro j u hj
   match j,hj with
   | 0,hj=>simp at hj;subst hj;simp[Addr.add,go_sem]
  case c2=>intro u hu;simp at hu;subst hu;rfl
  case c3=>simp[maxLen];omega
  case c4=>simp;omega
  case c5=>have:=HB.out.size;simp;omega
  intro g cap w3 tC Hr hat fC;have PG:=zA HB.out (yJ #[J Z ef] 3)
  have Pz:vb.ownBlock=O g\/g=(w1.alloc (yJ #[J Z ef] 3)).heap.size:=by simpa using hat
  obtain⟨p1,p2,p3,p4,_⟩:=wQ.out.push PG Hr tC Pz;have kf:w3.frozen? ⟨c,0,I⟩=U:=(p2 0).trans (Ro 0);have fin:ue _:=HR.out.push (X':=X++[⟨st,sp,sl,sa,⟨et,el,er,eu,ed,ef⟩⟩]) wQ.out hV PG Hr tC Pz (by rw[HT.out];simp) (by rw[HT.out];simp[xn]);clear PG Pz p2 p3 p4 tC Hr hat fC Hq Ro wQ HR
  go_wp2
  go_end0
  exact⟨rfl,fin.out⟩
theorem yau:∀args w,(callFunc 117 args).run kO w= .ok (.enter 117 args) w:=fun args w=>by simp[go_sem]
theorem qz:∀args w,(callFunc 113 args).run kO w= .ok (.enter 113 args) w:=fun args w=>by simp[go_sem]
theorem ycp {b:Nat} {S:Pg.Fs} {F:Nat->Prop} {w0:ki} {c:Nat} {t:Int} (h:zh w0 b S F):
 ycx b S F 113 117 #[] #[yI (O ⟨c,0,I⟩)] Pg.zW (qr w0 c 3 1 (fun X=>(t::Pg.zU X).length) (fun X=>xn (t::Pg.zU X))):=
 ⟨qz,yau,fun _ _ _ hR=>hR.fr h,fun _ _ _ hR _ hk=>hR.lt hk,fun _ _ _ _ hR hb=>hR.grow hb,
  fun i lv _ _ w _ _ _=>xy (jm (i:Int) (lv:Int) w),fun s X V w _ _ _ hl hR=>ydd s X V w hl hR⟩
end
namespace Pg
structure Wk where
 on:Bool
 q:Int
 k:Int
 u:Bool
 t:Int
 lv:Nat
 x:Int
namespace Wk
def off:Wk:=⟨U,0,0,U,0,0,0⟩
def start (root q k:Int) (u:Bool):Wk:=⟨kp,q,k,u,root,3,0⟩
def again (root:Int) (K:Wk):Wk:=if K.on=kp then{K with t:=root,lv:=3,x:=0}else K
def mark (K:Wk) (e:En):En:={e with u:=kp,d:=e.d||K.k==1}
def ready (K:Wk) (e:En):Bool:=e.u&&(e.d||K.k !=1)
structure Ok (K:Wk):Prop where
 page:K.on=kp->below K.q 4096=kp
 lv:K.lv<4
 leaf:K.x≠0->0<=K.x/\K.x<18446744073709551616/\yhV K.x K.lv=0/\(En.of K.x K.lv).l=kp/\may (En.of K.x K.lv).r K.k K.u=kp/\ready K (En.of K.x K.lv)=U
 idle:K.on=U->K=Wk.off
def word (S:Fs) (K:Wk):Int:=S.word K.t.toNat (ix K.q K.lv)
end Wk
abbrev Wo:Type:=Int ⊕ Wk ⊕ Int ⊕ (En×Bool)
abbrev Wo.code (c:Int):Wo:= .inl c
abbrev Wo.go (K:Wk):Wo:= .inr (.inl K)
abbrev Wo.stop (r:Int):Wo:= .inr (.inr (.inl r))
abbrev Wo.done (e:En) (m:Bool):Wo:= .inr (.inr (.inr (e,m)))
def kOut (S:Fs) (root:Int) (K:Wk):Wo:=
 if K.on=U then .code 9
 else if S.has K.t=U then .code 12
 else if K.x≠0 then(if K.word S=K.x then .done (K.mark (En.of K.x K.lv)) kp else .go (K.again root))
 else if yhV (K.word S) K.lv≠0 then .code (yhV (K.word S) K.lv)
 else if (En.of (K.word S) K.lv).t=U then .stop 1
 else if (En.of (K.word S) K.lv).l=U then .go {K with t:=(En.of (K.word S) K.lv).f,lv:=K.lv-1}
 else if may (En.of (K.word S) K.lv).r K.k K.u=U then .stop 2
 else if K.ready (En.of (K.word S) K.lv)=U then .go {K with x:=K.word S}
 else .done (En.of (K.word S) K.lv) U
structure Rs where
 ended:Bool
 a:Int
 f:Int
 r:Int
 m:Mp
 d:Bool
def Rs.zero:Rs:=⟨U,0,0,0,⟨0,0,0,0⟩,U⟩
def Rs.val (R:Rs):kh:=yY #[N R.ended,J Z R.a,J Z R.f,J Z R.r,J Z R.m.p,J Z R.m.s,J Z R.m.f,J Z R.m.r,N R.d]
namespace Wo
def cd:Wo->Int
 | .inl c=>c
 | _=>0
def ended:Wo->Bool
 | .inr (.inr _)=>kp
 | _=>U
def res (K:Wk):Wo->Rs
 | .inl _=>Rs.zero
 | .inr (.inl _)=>Rs.zero
 | .inr (.inr (.inl r))=>⟨kp,r,0,0,⟨0,0,0,0⟩,U⟩
 | .inr (.inr (.inr (e,_)))=>⟨kp,aEnd (e.map K.lv K.q).r K.k K.u,yie (e.map K.lv K.q).p (e.map K.lv K.q).f (e.map K.lv K.q).r K.q K.k K.u,yh1 (e.map K.lv K.q).r K.k K.u,e.map K.lv K.q,e.d⟩
def next (K:Wk):Wo->Wk
 | .inl _=>K
 | .inr (.inl K')=>K'
 | _=>Wk.off
def fs (S:Fs) (K:Wk):Wo->Fs
 | .inr (.inr (.inr (e,kp)))=>S.store K.t (index K.q K.lv) (enc e.t e.l e.r e.u e.d e.f K.lv)
 | _=>S
end Wo
theorem ykl (t l:Bool) (r:Int) (u d:Bool) (f lv:Int):0<=enc t l r u d f lv/\enc t l r u d f lv<18446744073709551616:=by
 unfold enc;split
 ·rename_i h
  obtain⟨_,hc⟩:=yh0 h;unfold yiY b01;rcases hc with ⟨rfl,_⟩|⟨rfl,r0,r1,f0,f1,_⟩
  ·simp
  ·simp only[if_true]
   split<;>split<;>split<;>omega
 ·omega
theorem Wk.yjs:Wk.off.Ok:=⟨fun h=>(by cases h),(by decide),fun h=>absurd rfl h,fun _=>rfl⟩
theorem Wk.yjc {root q k:Int} {u:Bool} (h:below q 4096=kp):(Wk.start root q k u).Ok:=⟨fun _=>h,by show 3<4;omega,fun h=>absurd rfl h,fun h=>by cases h⟩
theorem Wk.Ok.again {K:Wk} (h:K.Ok) (root:Int):(K.again root).Ok:=by
 unfold Wk.again;split
 ·rename_i ho
  exact⟨fun _=>h.page ho,by show 3<4;omega,fun h=>absurd rfl h,fun h=>by rw[ho]at h;cases h⟩
 ·exact h
theorem ykW {S:Fs} (hS:S.Ok) {K:Wk} (h:K.Ok) (root:Int):((kOut S root K).next K).Ok:=by
 unfold kOut;split
 ·exact h
 ·rename_i ho
  have ho:K.on=kp:=by simpa using ho
  split
  ·exact h
  ·split
   ·split
    ·exact Wk.yjs
    ·exact h.again root
   ·rename_i hx
    have hx:K.x=0:=by simpa using hx
    split
    ·exact h
    ·rename_i hc
     have hc:yhV (K.word S) K.lv=0:=by simpa using hc
     split
     ·exact Wk.yjs
     ·rename_i ht
      split
      ·exact⟨fun _=>h.page ho,by show K.lv-1<4;have:=h.lv;omega,fun h=>absurd hx h,fun h=>by rw[ho]at h;cases h⟩
      ·rename_i hl
       have hl:(En.of (K.word S) K.lv).l=kp:=by simpa using hl
       split
       ·exact Wk.yjs
       ·rename_i hm
        have hm:may (En.of (K.word S) K.lv).r K.k K.u=kp:=by simpa using hm
        split
        ·rename_i hr
         exact⟨fun _=>h.page ho,h.lv,fun _=>⟨hS.low _ _,hS.high _ _,hc,hl,hm,hr⟩,fun h=>by rw[ho]at h;cases h⟩
        ·exact Wk.yjs
theorem kOut_fs {S:Fs} (hS:S.Ok) {K:Wk} (root:Int):((kOut S root K).fs S K).Ok:=by
 rcases kOut S root K with c|K'|r|⟨e,m⟩
 ·exact hS
 ·exact hS
 ·exact hS
 ·cases m
  ·exact hS
  ·have hb:=ykl e.t e.l e.r e.u e.d e.f K.lv
   exact hS.store _ _ hb.1 hb.2
end Pg
namespace Pg
structure Ln where
 m:Mp
 d:Bool
def Ln.zz:Ln:=⟨.zz,U⟩
namespace Ln
def val (l:Ln):kh:=yY #[J Z l.m.p,J Z l.m.s,J Z l.m.f,J Z l.m.r,N l.d]
def has (l:Ln) (q:Int):Bool:=l.m.has q
def meets (l:Ln) (m:Mp):Bool:=l.m.meets m
end Ln
structure Kept (L:List Ln):Prop where
 ok:∀l,l ∈ L->l.m.code=0
 ap:L.Pairwise fun a b=>a.m.meets b.m=U
 le:L.length<=6
theorem Kept.nil:Kept []:=⟨fun _ h=>by simp at h,List.Pairwise.nil,by simp⟩
def kFnd (L:List Ln) (q:Int):Option Nat:=L.findIdx? fun l=>l.has q
def yjz (L:List Ln) (q:Int):Int:=match kFnd L q with
 | some k=>(k:Int)
 | none=> -1
def kAt (L:List Ln) (q:Int):Ln:=match kFnd L q with
 | some k=>L.getD k .zz
 | none=> .zz
def yiI (L:List Ln) (m:Mp):List Ln:=L.filter fun l=> !l.meets m
def yjr (L:List Ln):List Ln:=if L.length=6 then L.drop 1 else L
def kPut (L:List Ln) (l:Ln):List Ln:=if l.m.code=0 then yjr (yiI L l.m)++[l]else L
theorem yj6 {L:List Ln} {j:Nat} (hj:j<L.length):L.getD j .zz=L[j]:=by simp[List.getD,hj]
theorem yl8 {L:List Ln} {j:Nat} (hj:j<L.length):L.getD j .zz ∈ L:=by rw[yj6 hj];exact List.getElem_mem _
theorem yjq {L:List Ln} {q:Int} {k:Nat} (h:kFnd L q=O k):k<L.length/\(L.getD k .zz).has q=kp/\∀j,j<k->(L.getD j .zz).has q=U:=by
 obtain⟨hk,h1,h2⟩:=yV.1 h;refine⟨hk,by rw[yj6 hk];exact h1,fun j hj=> ?_⟩;rw[yj6 (by omega)]
 simpa using h2 j hj
theorem yld {L:List Ln} {P:Ln->Bool} {k:Nat} (hk:k<L.length) (h1:P (L.getD k .zz)=kp) (h2:∀j,j<k->P (L.getD j .zz)=U):L.findIdx? P=O k:=by
 refine yV.2 ⟨hk,by rw[<-yj6 hk];exact h1,fun j hj=> ?_⟩;have:=h2 j hj;rw[yj6 (by omega)]at this
 simpa using this
theorem ylc {L:List Ln} {P:Ln->Bool} (h:∀j,j<L.length->P (L.getD j .zz)=U):L.findIdx? P=I:=by
 refine yL.2 fun m hm=> ?_;obtain⟨j,hj,rfl⟩:=List.mem_iff_getElem.1 hm;have:=h j hj;rw[yj6 hj]at this
 simpa using this
theorem idx_of_some {L:List Ln} {P:Ln->Bool} {k:Nat} (h:L.findIdx? P=O k):k<L.length/\P (L.getD k .zz)=kp/\∀j,j<k->P (L.getD j .zz)=U:=by
 obtain⟨hk,h1,h2⟩:=yV.1 h;refine⟨hk,by rw[yj6 hk];exact h1,fun j hj=> ?_⟩;rw[yj6 (by omega)]
 simpa using h2 j hj
theorem idx_of_none {L:List Ln} {P:Ln->Bool} (h:L.findIdx? P=I):∀l,l ∈ L->P l=U:=fun l hl=>by
 simpa using yL.1 h l hl
def idxN (L:List Ln) (P:Ln->Bool):Int:=match L.findIdx? P with
 | some k=>(k:Int)
 | none=> -1
theorem ykN {L:List Ln} {j:Nat} (hj:j<L.length):L.take (j+1)=L.take j++[L.getD j .zz]:=by
 rw[List.take_succ_eq_append_getElem hj,yj6 hj]
theorem yiZ {L:List Ln} {P:Ln->Bool} {j:Nat} (hj:j<L.length) (h:P (L.getD j .zz)=kp):(L.take (j+1)).filter P=(L.take j).filter P++[L.getD j .zz]:=by
 rw[ykN hj,yk];simp only[yo,h,if_true,ya]
theorem yiM {L:List Ln} {P:Ln->Bool} {j:Nat} (hj:j<L.length) (h:P (L.getD j .zz)=U):(L.take (j+1)).filter P=(L.take j).filter P:=by
 rw[ykN hj,yk];simp only[yo,h,yi,if_false,ya,yd]
theorem Kept.fits {L:List Ln} (h:Kept L) {j:Nat} (hj:j<L.length):Pg.fits (L.getD j .zz).m.p:=(yjW (h.ok _ (yl8 hj))).2.2.1
theorem Kept.sub {L M:List Ln} (h:Kept L) (hs:M.Sublist L):Kept M:=
 ⟨fun l hl=>h.ok l (hs.subset hl),h.ap.sublist hs,yw hs.length_le h.le⟩
theorem Kept.drop {L:List Ln} (h:Kept L) (m:Mp):Kept (yiI L m):=h.sub List.filter_sublist
theorem Kept.tail {L:List Ln} (h:Kept L):Kept (L.drop 1):=h.sub (yu _ _)
theorem yjQ (L:List Ln):(yjr L).Sublist L:=by
 unfold yjr;split
 ·exact yu _ _
 ·exact List.Sublist.refl _
theorem yjP {L:List Ln} (h:L.length<=6):(yjr L).length<=5:=by
 unfold yjr;split
 ·simp;omega
 ·omega
theorem ykF {L:List Ln} {m:Mp} {l:Ln} (h:l ∈ yiI L m):l.m.meets m=U:=by
 have:=(List.mem_filter.1 h).2
 simpa[Ln.meets]using this
theorem Kept.put {L:List Ln} (h:Kept L) (l:Ln):Kept (kPut L l):=by
 unfold kPut;split
 ·rename_i hc
  have hd:=(h.drop l.m).sub (yjQ _);refine⟨fun x hx=> ?_,?_,?_⟩
  ·rcases List.mem_append.1 hx with hx|hx
   ·exact hd.ok x hx
   ·rw[yn.1 hx];exact hc
  ·refine List.pairwise_append.2 ⟨hd.ap,by simp,fun a ha b hb=> ?_⟩
   rw[yn.1 hb];exact ykF ((yjQ _).subset ha)
  ·have:=yjP (h.drop l.m).le
   simp only[un,List.length_cons,List.length_nil];omega
 ·exact h
theorem ylI {L:List Ln} {l:Ln} (h:l.m.code≠0):kPut L l=L:=by simp[kPut,h]
theorem ylg {L:List Ln} {l:Ln} (h:l.m.code=0):kPut L l=yjr (yiI L l.m)++[l]:=by simp[kPut,h]
end Pg
namespace Pg
structure Tl where
 a:Int
 f:Int
 r:Int
 ended:Bool
 c:Int
def Tl.val (T:Tl):kh:=yF #[yY #[J Z T.a,J Z T.f,J Z T.r],N T.ended,J Z T.c]
def Tl.code (c:Int):Tl:=⟨0,0,0,U,c⟩
def Ln.ans (l:Ln) (q k:Int) (u:Bool):Tl:=⟨aEnd l.m.r k u,yie l.m.p l.m.f l.m.r q k u,yh1 l.m.r k u,kp,0⟩
def Ln.wants (l:Ln) (k:Int) (u:Bool):Bool:=k==1&&(!l.d&&may l.m.r k u)
structure Cr where
 L:List Ln
 K:Wk
namespace Cr
def new:Cr:=⟨[],Wk.off⟩
structure Ok (C:Cr):Prop where
 kept:Kept C.L
 walk:C.K.Ok
def hit (C:Cr) (q k:Int) (u:Bool):Bool:=(kFnd C.L q).isSome&& !(kAt C.L q).wants k u
def bgT (C:Cr) (q k:Int) (u:Bool):Tl:=if zK q k≠0 then .code (zK q k)else if C.K.on=kp then .code 8 else if C.hit q k u=kp then(kAt C.L q).ans q k u else .code 0
def bgN (root:Int) (C:Cr) (q k:Int) (u:Bool):Cr:=if zK q k=0/\C.K.on=U/\C.hit q k u=U then⟨C.L,Wk.start root q k u⟩else C
end Cr
def Wo.tl (K:Wk) (o:Wo):Tl:=⟨(o.res K).a,(o.res K).f,(o.res K).r,(o.res K).ended,o.cd⟩
def rPut (L:List Ln) (R:Rs):List Ln:=if (R.ended&&R.a==0)=kp then kPut L ⟨R.m,R.d⟩else L
namespace Cr
def stT (S:Fs) (root:Int) (C:Cr):Tl:=Wo.tl C.K (kOut S root C.K)
def stN (S:Fs) (root:Int) (C:Cr):Cr:=⟨rPut C.L ((kOut S root C.K).res C.K),(kOut S root C.K).next C.K⟩
def stS (S:Fs) (root:Int) (C:Cr):Fs:=(kOut S root C.K).fs S C.K
def told (root:Int) (C:Cr) (m:Mp):Cr:=⟨yiI C.L m,C.K.again root⟩
def yiy (C:Cr):Cr:=⟨C.L.drop 1,C.K⟩
end Cr
theorem yh8 {q k:Int} (h:zK q k=0):below q 4096=kp:=by
 unfold zK at h;split at h
 ·split at h
  ·assumption
  ·omega
 ·omega
theorem yim {q k:Int} (h:zK q k=0):fits q:=by
 have:=zB.1 (yh8 h);unfold fits;omega
theorem ylj (e:En) (lv q:Int):fits (e.map lv q).p:=by
 show fits (ykn e.t e.l e.r e.u e.d e.f lv q)
 unfold ykn;split
 ·rename_i h
  have hq:below q 4096=kp:=by
   unfold lOk at h;simp only[Bool.and_eq_true]at h;exact h.2
  have hq:=zB.1 hq;unfold span fits;split
  ·omega
  ·split
   ·omega
   ·split<;>omega
 ·unfold fits;omega
theorem ylq (K:Wk) (o:Wo):fits (o.res K).m.p:=by
 rcases o with c|K'|r|⟨e,m⟩
 ·show fits 0;unfold fits;omega
 ·show fits 0;unfold fits;omega
 ·show fits 0;unfold fits;omega
 ·exact ylj e K.lv K.q
namespace Cr.Ok
variable {C:Cr} {S:Fs}
theorem new:Cr.new.Ok:=⟨Kept.nil,Wk.yjs⟩
theorem begin (h:C.Ok) (root q k:Int) (u:Bool):(C.bgN root q k u).Ok:=by
 unfold Cr.bgN;split
 ·rename_i hc
  exact⟨h.kept,Wk.yjc (yh8 hc.1)⟩
 ·exact h
theorem step (h:C.Ok) (hS:S.Ok) (root:Int):(C.stN S root).Ok:=by
 refine⟨?_,ykW hS h.walk root⟩
 show Kept (rPut _ _)
 unfold rPut;split
 ·exact h.kept.put _
 ·exact h.kept
theorem told (h:C.Ok) (root:Int) (m:Mp):(C.told root m).Ok:=⟨h.kept.drop m,h.walk.again root⟩
theorem yiy (h:C.Ok):C.yiy.Ok:=⟨h.kept.tail,h.walk⟩
end Cr.Ok
end Pg
namespace Pg
def Wk.at' (q k:Int) (u:Bool) (t:Int) (lv:Nat) (x:Int):Wk:=⟨kp,q,k,u,t,lv,x⟩
theorem yik {S:Fs} {t:Int} {i lv:Nat} (h:S.has t=kp):yhR S t i lv=yhV (S.word t.toNat i) lv/\rEn S t i lv=En.of (S.word t.toNat i) lv:=by
 unfold yhR rEn;rw[iP h,iP h];exact⟨rfl,rfl⟩
theorem yly (S:Fs) (root q k:Int) (u:Bool) (t:Int) (lv:Nat):
 kOut S root (Wk.at' q k u t lv 0)=
  if yhR S t (ix q lv) lv≠0 then .code (yhR S t (ix q lv) lv)
  else if (rEn S t (ix q lv) lv).t=U then .stop 1
  else if (rEn S t (ix q lv) lv).l=U then .go (Wk.at' q k u (rEn S t (ix q lv) lv).f (lv-1) 0)
  else if may (rEn S t (ix q lv) lv).r k u=U then .stop 2
  else if (Wk.at' q k u t lv 0).ready (rEn S t (ix q lv) lv)=U then .go (Wk.at' q k u t lv (S.word t.toNat (ix q lv)))
  else .done (rEn S t (ix q lv) lv) U:=by
 unfold kOut;rw[iN (by simp[Wk.at'])];cases h:S.has t
 ·have hr:yhR S t (ix q lv) lv=12:=by simp[yhR,h]
  rw[iP (show S.has (Wk.at' q k u t lv 0).t=U from h),hr,iP (by decide)]
 ·obtain⟨h1,h2⟩:=yik (i:=ix q lv) (lv:=lv) h
  rw[iN (show ¬S.has (Wk.at' q k u t lv 0).t=U by rw[show(Wk.at' q k u t lv 0).t=t from rfl,h];decide),iN (show ¬(Wk.at' q k u t lv 0).x≠0 from fun h=>h rfl),h1,h2];rfl
theorem ylH {S:Fs} {root q k:Int} {u:Bool} {t:Int} {lv:Nat} {x:Int} (hx:x≠0) (hh:S.has t=kp) (hw:S.word t.toNat (ix q lv)=x):
 kOut S root (Wk.at' q k u t lv x)= .done ((Wk.at' q k u t lv x).mark (En.of x lv)) kp:=by
 unfold kOut;rw[iN (by simp[Wk.at']),iN (show ¬S.has (Wk.at' q k u t lv x).t=U by rw[show(Wk.at' q k u t lv x).t=t from rfl,hh];decide),iP (show(Wk.at' q k u t lv x).x≠0 from hx),iP (show(Wk.at' q k u t lv x).word S=(Wk.at' q k u t lv x).x from hw)];rfl
theorem yjU {K:Wk} {e:En} {lv:Int} (hl:e.l=kp) (hf:e.fault lv=0):(K.mark e).fault lv=0/\∀q,(K.mark e).map lv q=e.map lv q:=by
 obtain⟨t,l,r,u,d,f⟩:=e;simp only at hl;subst hl;have h:=(marks kp (d||K.k==1) hf).2.1;refine⟨h,fun q=> ?_⟩;unfold En.map ykn ykX yjR yiU lOk;have h0:yhN t kp r u d f lv=0:=hf
 show(⟨_,_,_,_⟩:Mp)=_
 simp only[Wk.mark,h,h0]
theorem mark_same {K:Wk} {e:En} (h:K.ready e=kp):K.mark e=e:=by
 obtain⟨t,l,r,u,d,f⟩:=e;unfold Wk.ready at h;unfold Wk.mark
 cases hk:(K.k==1)<;>simp_all
structure Fin where
 R:Rs
 n:Int
 c:Int
 S:Fs
 K:Wk
def fin (root:Int):Nat->Int->Fs->Wk->Fin
 | 0,_,S,K=>⟨Rs.zero,20,-1,S,K⟩
 | f+1,i,S,K=>if (kOut S root K).cd≠0\/(kOut S root K).ended=kp then⟨(kOut S root K).res K,i,(kOut S root K).cd,(kOut S root K).fs S K,(kOut S root K).next K⟩
   else fin root f (i+1) ((kOut S root K).fs S K) ((kOut S root K).next K)
theorem kst_word {S:Fs} {t i v:Int} (x j:Nat) (h:x≠t.toNat):(S.store t i v).word x j=S.word x j:=by
 unfold Fs.store;split
 ·show Fs.put S.word t.toNat i.toNat v x j=_
  unfold Fs.put;rw[iN (fun e=>h e.1)]
 ·rfl
end Pg
section
open Go.Sort
variable {P:Program}
theorem qe (w:ki) (dT sT ty elem:TypeId) (size g o dLen dCap:Nat) (a:Addr) (sLen sCap:Nat) (cur:Array kh) (t:TypeId) (cs:List kh)
 (hu:P.underlying dT=O (.slice elem)) (hs:(P.info? elem).map (·.size)=O size)
 (hg:w.heap[g]?=O (yJ cur t (0,0))) (hn:cs.length=gS sLen dLen*size)
 (UF:∀j v,cs[j]?=O v->w.cell? (a.add j)=O v) (cK:o+cs.length<=cur.size) (h1:∀v ∈ cs,v.oneCell'=kp):
 (Builtin.copy_ #[dT,sT] ty #[yB (O ⟨g,o,I⟩) dLen dCap,yB (O a) sLen sCap]).run P w=
   .ok (goInt (gS sLen dLen)) (w.setRow g (cur.toList.take o++cs++cur.toList.drop (o+cs.length)).toArray):=by
 have hf:=run_firstCells_some (P:=P) w size (gS sLen dLen) a sLen sCap cs hn UF;have sM:=run_storeCells_at P g o t cs 0 cur w hg (by simpa using cK) h1
 cases hq:P.info? elem with
 | none=>simp[hq]at hs
 | some i=>
   have hi:i.size=size:=by simpa[hq]using hs
   simp[Builtin.copy_,run_underlying hu,Builtin.lenOf,sizeOf,typeInfo,hq,hi,hf,sM]
theorem qp (w:ki) (t e ty t':TypeId) (z:kh) (ht:P.underlying t=O (.slice e)) (hv:∀w,(zeroValue e).run P w= .ok z w) (g o n c:Nat) (hn:0<n) (cur:Array kh)
 (hg:w.heap[g]?=O (yJ cur t' (0,0))) (cK:o+n*z.cells.size<=cur.size) (h1:∀v ∈ (Builtin.zeroCells z.cells n).toList,v.oneCell'=kp):
 (Builtin.clear_ #[t] ty #[yB (O ⟨g,o,I⟩) n c]).run P w= .ok (yF #[]) (w.setRow g (cur.toList.take o++(Builtin.zeroCells z.cells n).toList++cur.toList.drop (o+n*z.cells.size)).toArray):=by
 have hl:(Builtin.zeroCells z.cells n).toList.length=n*z.cells.size:=by simp[size_zeroCells]
 have sM:=run_storeCells_at P g o t' (Builtin.zeroCells z.cells n).toList 0 cur w hg (by rw[hl];simpa using cK) h1;rw[hl]at sM;simp only[yr]at sM;obtain⟨m,rfl⟩:∃m,n=m+1:=⟨n-1,by omega⟩;simp[Builtin.clear_,run_underlying ht,hv,sM]
theorem ybD (w:ki) {o:Oper} {a:Act} {K:Act->ki->Prop} {Q:Exit->Act->ki->Prop} (d s:Operand) (t t':TypeId)
 (ho:o.op= .call {callee:= .builtin .copy,args:=#[d,s],argTypes:=#[t,t']}) (v u:kh) (hd:a.eval d=v) (hs:a.eval s=u) {v':kh} {w':ki}
 (hr:(Builtin.copy_ #[t,t'] o.type #[v,u]).run P w= .ok v' w') (h:K (a.put o.dst v') w'):o.wp P a w K Q:=by
 unfold Oper.wp execOp;simp only[ho,resolve,invoke,builtin,Sem.run_bind,Sem.run_pure,Result.andThen_ok,yp,ym,yh,hd,hs,hr];exact h
theorem qB (w:ki) {ops:Array Oper} {rest:List Oper} {o:Oper} {a:Act} {Q:Exit->Act->ki->Prop} (GU:o.guard=I) (d s:Operand) (t t':TypeId)
 (ho:o.op= .call {callee:= .builtin .copy,args:=#[d,s],argTypes:=#[t,t']}) (v u:kh) (hd:a.eval d=v) (hs:a.eval s=u) {v':kh} {w':ki}
 (hr:(Builtin.copy_ #[t,t'] o.type #[v,u]).run P w= .ok v' w') (h:wpList P ops Q rest (a.put o.dst v') w'):wpList P ops Q (o::rest) a w:=
 wpList_plain GU fun _ hK=>ybD w d s t t' ho v u hd hs hr (hK _ _ h)
theorem qW {ops:Array Oper} {o:Oper} {a:Act} {w:ki} {K:Act->ki->Prop} {Q:Exit->Act->ki->Prop} {E:Prop}
 (hg:o.guard=I) (d x:Operand) (dT sT:TypeId) (Uq:o.op=Op.call {callee:=Callee.builtin Builtin.copy,args:=#[d,x],argTypes:=#[dT,sT]})
 (v u:kh) (hd:a.eval d=v) (hx:a.eval x=u) {v':kh} {w':ki} (hr:(Builtin.copy_ #[dT,sT] o.type #[v,u]).run P w= .ok v' w') (hK:K (a.put o.dst v') w'):
 if Region.wanted o (yielded ops a.tmps)=kp then Oper.wp P o a w K Q else E:=by
 have hw:Region.wanted o (yielded ops a.tmps)=kp:=by simp[Region.wanted,hg]
 rw[iP hw];unfold Oper.wp;simp[execOp,Uq,resolve,invoke,builtin,hd,hx,hr,Result.andThen];exact hK
theorem zw {ops:Array Oper} {o:Oper} {a:Act} {w:ki} {K:Act->ki->Prop} {Q:Exit->Act->ki->Prop} {E:Prop}
 (hg:o.guard=I) (d x:Operand) (dT sT:TypeId) (Uq:o.op=Op.call {callee:=Callee.builtin Builtin.append,args:=#[d,x],argTypes:=#[dT,sT]})
 (v u:kh) (hd:a.eval d=v) (hx:a.eval x=u) {v':kh} {w':ki} (hr:(Builtin.append_ #[dT,sT] o.type #[v,u]).run P w= .ok v' w') (hK:K (a.put o.dst v') w'):
 if Region.wanted o (yielded ops a.tmps)=kp then Oper.wp P o a w K Q else E:=by
 have hw:Region.wanted o (yielded ops a.tmps)=kp:=by simp[Region.wanted,hg]
 rw[iP hw];unfold Oper.wp;simp[execOp,Uq,resolve,invoke,builtin,hd,hx,hr,Result.andThen];exact hK
theorem yaF (w:ki) {o:Oper} {a:Act} {K:Act->ki->Prop} {Q:Exit->Act->ki->Prop} (d:Operand) (t:TypeId)
 (ho:o.op= .call {callee:= .builtin .clear,args:=#[d],argTypes:=#[t]}) (v:kh) (hd:a.eval d=v) {v':kh} {w':ki}
 (hr:(Builtin.clear_ #[t] o.type #[v]).run P w= .ok v' w') (h:K (a.put o.dst v') w'):o.wp P a w K Q:=by
 unfold Oper.wp execOp;simp only[ho,resolve,invoke,builtin,Sem.run_bind,Sem.run_pure,Result.andThen_ok,yp,ym,yh,hd,hr];exact h
theorem zG (w:ki) {ops:Array Oper} {rest:List Oper} {o:Oper} {a:Act} {Q:Exit->Act->ki->Prop} (GU:o.guard=I) (d:Operand) (t:TypeId)
 (ho:o.op= .call {callee:= .builtin .clear,args:=#[d],argTypes:=#[t]}) (v:kh) (hd:a.eval d=v) {v':kh} {w':ki}
 (hr:(Builtin.clear_ #[t] o.type #[v]).run P w= .ok v' w') (h:wpList P ops Q rest (a.put o.dst v') w'):wpList P ops Q (o::rest) a w:=
 wpList_plain GU fun _ hK=>yaF w d t ho v hd hr (hK _ _ h)
theorem But.setRow {F:Nat->Prop} {w w1:ki} (h:But F w w1) {g:Nat} (ha:w.heap.size<=g\/F g) (cs:Array kh):But F w (w1.setRow g cs):=
 ⟨h.os,h.tape,h.output,by simpa using h.size,fun i hi hF=>by
  rw[setRow_other _ _ _ _ (fun e=>by subst e;exact ha.elim (fun h'=>by omega) hF)]
  exact h.block i hi hF⟩
theorem yd8 {c xs news:List kh} {z n k:Nat} (hk:k<=n) (hc:(n+1)*z<=c.length) (hx:c.take (n*z)=xs) (hn:news.length=z):
 let c1:=c.take ((k+1)*z)++xs.drop (k*z)++c.drop ((k+1)*z+(xs.drop (k*z)).length)
 (c1.take (k*z)++news++c1.drop (k*z+news.length)).take ((n+1)*z)=xs.take (k*z)++news++xs.drop (k*z):=by
 intro c1
 have e1:(n+1)*z=n*z+z:=by rw[yN,yU]
 have e2:(k+1)*z=k*z+z:=by rw[yN,yU]
 have e3:k*z<=n*z:=yZ _ hk
 have pM:xs.length=n*z:=by rw[<-hx,yP];omega
 have hd:(xs.drop (k*z)).length=n*z-k*z:=by rw[yO,pM]
 have ht:(c.take ((k+1)*z)).length=k*z+z:=by rw[yP];omega
 have h1:c1.take (k*z)=xs.take (k*z):=by
  show(c.take ((k+1)*z)++xs.drop (k*z)++_).take (k*z)=_
  rw[yQ,ur (by omega),yW,<-hx,yW]
  congr 1
  omega
 have h2:c1.drop (k*z+news.length)=xs.drop (k*z)++c.drop ((k+1)*z+(xs.drop (k*z)).length):=by
  show(c.take ((k+1)*z)++xs.drop (k*z)++_).drop (k*z+news.length)=_
  rw[yQ,yA (by omega),yD (by omega),yc]
 have hp:(xs.take (k*z)).length=k*z:=by rw[yP];omega
 rw[h1,h2,<-yQ,ur (by simp only[un,hp,hd,hn];omega),uc (by simp only[un,hp,hd,hn];omega)]
theorem ydo {c xs zs:List kh} {z n k:Nat} (hk:k<n) (hc:n*z<=c.length) (hx:c.take (n*z)=xs):
 let c1:=c.take (k*z)++xs.drop ((k+1)*z)++c.drop (k*z+(xs.drop ((k+1)*z)).length)
 (c1.take ((n-1)*z)++zs++c1.drop ((n-1)*z+z)).take ((n-1)*z)=xs.take (k*z)++xs.drop ((k+1)*z):=by
 intro c1;obtain⟨m,rfl⟩:∃m,n=m+1:=⟨n-1,by omega⟩
 have e1:(m+1)*z=m*z+z:=by rw[yN,yU]
 have e2:(k+1)*z=k*z+z:=by rw[yN,yU]
 have e3:k*z<=m*z:=yZ _ (by omega);simp only[yq]
 have pM:xs.length=m*z+z:=by rw[<-hx,yP];omega
 have hd:(xs.drop ((k+1)*z)).length=m*z-k*z:=by rw[yO,pM];omega
 have ht:(c.take (k*z)).length=k*z:=by rw[yP];omega
 have h1:c1.take (m*z)=c.take (k*z)++xs.drop ((k+1)*z):=by
  show(c.take (k*z)++xs.drop ((k+1)*z)++_).take (m*z)=_
  rw[ur (by rw[un,ht,hd];omega),uc (by rw[un,ht,hd];omega)]
 have hl:(c1.take (m*z)).length=m*z:=by rw[h1,un,ht,hd];omega
 rw[yQ,ur (by omega),uc (by omega),h1,<-hx,yW]
 congr 2
 omega
theorem yd7 {c xs news:List kh} {z n k:Nat} (hk:k<=n) (hc:(n+1)*z<=c.length) (hx:c.take (k*z)=xs.take (k*z)) (pM:xs.length=n*z) (hn:news.length=z):
 let c1:=c.take (k*z)++news++c.drop (k*z+news.length)
 (c1.take ((k+1)*z)++xs.drop (k*z)++c1.drop ((k+1)*z+(xs.drop (k*z)).length)).take ((n+1)*z)=xs.take (k*z)++news++xs.drop (k*z):=by
 intro c1
 have e1:(n+1)*z=n*z+z:=by rw[yN,yU]
 have e2:(k+1)*z=k*z+z:=by rw[yN,yU]
 have e3:k*z<=n*z:=yZ _ hk
 have hd:(xs.drop (k*z)).length=n*z-k*z:=by rw[yO,pM]
 have ht:(xs.take (k*z)).length=k*z:=by rw[yP];omega
 have h1:c1.take ((k+1)*z)=xs.take (k*z)++news:=by
  show(c.take (k*z)++news++_).take ((k+1)*z)=_
  rw[hx,ur (by rw[un,ht,hn];omega),uc (by rw[un,ht,hn];omega)]
 rw[h1,ur (by simp only[un,ht,hn,hd];omega),uc (by simp only[un,ht,hn,hd];omega)]
def zl (w:ki) (e:TypeId) (size:Nat) (v:kh) (n:Nat) (xs:List kh):Prop:=
 xs.length=n*size/\((v=yB I 0 0/\n=0)\/∃g o cap cur,v=yB (O ⟨g,o,I⟩) n cap/\w.heap[g]?=O (yJ cur e (0,0))/\n<=cap/\cap<=maxLen/\o+cap*size<=cur.size/\(cur.toList.drop o).take (n*size)=xs)
section
variable {w w':ki} {e:TypeId} {size n:Nat} {v:kh} {xs:List kh}
theorem zl.yjV {base:Nat} (h:w.ownsRow base e size v n xs):zl w e size v n xs:=by
 obtain⟨hl,h⟩:=h;refine⟨hl,h.imp id ?_⟩;rintro ⟨g,cap,cur,rfl,_,hg,h1,h2,h3,h4⟩;exact⟨g,0,cap,cur,rfl,hg,h1,h2,by omega,by simpa using h4⟩
theorem zl.nil (w:ki) (e:TypeId) (size:Nat):zl w e size (yB I 0 0) 0 []:=⟨by simp,.inl ⟨rfl,rfl⟩⟩
theorem zl.lt (h:zl w e size v n xs):∀k,v.ownBlock=O k->k<w.heap.size:=by
 intro k hk;rcases h.2 with ⟨rfl,_⟩|⟨g,o,cap,cur,rfl,hg,_⟩
 ·simp[yE]at hk
 ·simp[yE]at hk
  subst hk;exact(yH.1 hg).1
theorem zl.of_block (h:zl w e size v n xs) (hb:∀k,v.ownBlock=O k->w'.heap[k]?=w.heap[k]?):zl w' e size v n xs:=by
 refine⟨h.1,h.2.imp id ?_⟩;rintro ⟨g,o,cap,cur,rfl,hg,r⟩;exact⟨g,o,cap,cur,rfl,(hb g rfl).trans hg,r⟩
theorem zl.but {F:Nat->Prop} (h:zl w e size v n xs) (hb:But F w w') (hF:∀k,v.ownBlock=O k->¬F k):zl w' e size v n xs:=
 h.of_block fun k hk=>hb.block k (h.lt k hk) (hF k hk)
theorem zl.form (h:zl w e size v n xs):∃ad cap,v=yB ad n cap:=by
 rcases h.2 with ⟨rfl,rfl⟩|⟨g,o,cap,cur,rfl,_⟩
 ·exact⟨I,0,rfl⟩
 ·exact⟨_,_,rfl⟩
theorem zl.shape (h:zl w e size v n xs) (hn:0<n):∃g o cap,v=yB (O ⟨g,o,I⟩) n cap/\g<w.heap.size/\n<=cap/\cap<=maxLen:=by
 rcases h.2 with ⟨rfl,rfl⟩|⟨g,o,cap,cur,rfl,hg,h1,h2,_⟩
 ·omega
 ·exact⟨g,o,cap,rfl,(yH.1 hg).1,h1,h2⟩
theorem zl.cell {g o cap:Nat} (h:zl w e size (yB (O ⟨g,o,I⟩) n cap) n xs) {j:Nat} (hj:j<n*size):w.cell? ⟨g,o+j,I⟩=xs[j]?:=by
 rcases h.2 with ⟨e,_⟩|⟨g',o',cap',cur,e,hg,h1,h2,h3,h4⟩
 ·cases e
 ·cases e
  rw[cell_of_row w g (o+j) cur _ _ hg,<-h4,List.getElem?_take,iP hj,List.getElem?_drop];simp
theorem zl.tail {g o cap:Nat} (h:zl w e size (yB (O ⟨g,o,I⟩) n cap) n xs) (hn:0<n) {o':Nat} (ho:o'=o+size\/(cap=1/\o'=o)):
 zl w e size (yB (O ⟨g,o',I⟩) (n-1) (cap-1)) (n-1) (xs.drop size):=by
 obtain⟨hl,h⟩:=h;obtain⟨m,rfl⟩:∃m,n=m+1:=⟨n-1,by omega⟩;simp only[yq]
 have hm:(m+1)*size=m*size+size:=by rw[yN,yU]
 refine⟨by rw[yO,hl];omega,?_⟩;rcases h with ⟨e,_⟩|⟨g',p,cap',cur,e,hg,h1,h2,h3,h4⟩
 ·cases e
 ·cases e
  obtain⟨c,rfl⟩:∃c,cap=c+1:=⟨cap-1,by omega⟩
  have hc:(c+1)*size=c*size+size:=by rw[yN,yU]
  refine .inr ⟨g,o',c,cur,rfl,hg,by omega,by omega,?_,?_⟩
  ·rcases ho with rfl|⟨h0,rfl⟩
   ·omega
   ·omega
  ·rcases ho with rfl|⟨h0,rfl⟩
   ·rw[<-h4,yb,List.drop_drop]
    congr 1
    omega
   ·have rT:m=0:=by omega
    subst rT
    have:(xs.drop size).length=0:=by rw[yO,hl];omega
    rw[List.length_eq_zero_iff.1 this];simp
end
section
variable {P:Program} (w:ki)
theorem jZ (t ty e:TypeId) (i:TypeInfo) (ht:P.underlying t=O (.slice e)) (hi:P.info? e=O i)
 (g o sLen sCap:Nat) (cur:Array kh) (hg:w.heap[g]?=O (yJ cur e (0,0)))
 (a:Addr) (m c:Nat) (news:List kh) (hl:news.length=m*i.size) (tu:∀j u,news[j]?=O u->w.cell? (a.add j)=O u) (h1:∀u ∈ news,u.oneCell'=kp)
 (dI:sLen+m<=sCap) (cK:o+sLen*i.size+news.length<=cur.size):
 (Builtin.append_ #[t,t] ty #[yB (O ⟨g,o,I⟩) sLen sCap,yB (O a) m c]).run P w=
   .ok (yB (O ⟨g,o,I⟩) (sLen+m) sCap) (w.setRow g (cur.toList.take (o+sLen*i.size)++news++cur.toList.drop (o+sLen*i.size+news.length)).toArray):=by
 have hf:=run_firstCells_some (P:=P) w i.size m a m c news hl tu;have sM:=run_storeCells_at P g (o+sLen*i.size) e news 0 cur w hg (by simpa using cK) h1;simp only[yr]at sM;simp[Builtin.append_,run_underlying ht,sizeOf,typeInfo,hi,Builtin.lenOf,dI,hf,Addr.add_lit,sM]
theorem jH (t ty e:TypeId) (i:TypeInfo) (z:kh) (size bytes:Nat) (ht:P.underlying t=O (.slice e)) (hi:P.info? e=O i) (hz:i.zero=O z)
 (lu:i.size=size) (Mv:i.bytes=bytes) (Ni:z.cells.size=size) (sN:0<size)
 (v:kh) (n:Nat) (xs:List kh) (Hq:zl w e size v n xs)
 (a:Addr) (m c:Nat) (news:List kh) (hl:news.length=m*size) (tu:∀j u,news[j]?=O u->w.cell? (a.add j)=O u) (h1:∀u ∈ news,u.oneCell'=kp)
 (hm:0<m) (Mi:n+m<=maxLen) (nu:(n+m)*bytes<=140737488355328):
 ∃g o cap w',(Builtin.append_ #[t,t] ty #[v,yB (O a) m c]).run P w= .ok (yB (O ⟨g,o,I⟩) (n+m) cap) w'/\zl w' e size (yB (O ⟨g,o,I⟩) (n+m) cap) (n+m) (xs++news)/\
  But (fun j=>v.ownBlock=O j) w w'/\(v.ownBlock=O g\/w.heap.size<=g):=by
 have Hg:(xs++news).length=(n+m)*size:=by rw[un,Hq.1,hl,yN]
 rcases Hq.2 with ⟨rfl,rfl⟩|⟨g,o,cap,cur,rfl,hg,hnc,Ip,bZ,BU⟩
 ·have hx:xs=[]:=List.eq_nil_of_length_eq_zero (by simpa using Hq.1)
  subst hx;obtain⟨v',w',hr,h2,h3,h4⟩:=run_append_own (P:=P) w w.heap.size t ty e i z size bytes ht hi hz lu Mv Ni sN (yB I 0 0) 0 [] (World.ownsRow_nil _ _ _ _) a m c news hl tu h1 Mi nu (ua _);rcases h2.2 with ⟨_,e0⟩|⟨g,cap,cur,rfl,hb,r⟩
  ·omega
  ·exact⟨g,0,cap,w',hr,zl.yjV h2,(But.refl _ w).grown h3 (fun k hk=> .inr hk),.inr hb⟩
 ·by_cases dI:n+m<=cap
  ·subst lu
   have e1:(n+m)*i.size=n*i.size+m*i.size:=yN _ _ _;have e2:(n+m)*i.size<=cap*i.size:=yZ _ dI;have hr:=jZ (P:=P) w t ty e i ht hi g o n cap cur hg a m c news hl tu h1 dI (by omega);refine⟨g,o,cap,_,hr,⟨Hg,.inr ⟨g,o,cap,_,rfl,setRow_heap w g cur _ e _ hg,dI,Ip,?_,?_⟩⟩,But.setRow (But.refl (fun j=>(Value.slice (O ⟨g,o,I⟩) n cap).ownBlock=O j) w) (g:=g) (.inr rfl) _,.inl rfl⟩
   ·simp only[List.size_toArray,un,yP,yO,yy]
    omega
   ·have e3:(cur.toList.take (o+n*i.size)).length=o+n*i.size:=by rw[yP,yy];omega
    rw[yQ,yA (by omega),yb,show o+n*i.size-o=n*i.size by omega,BU,<-yQ,ur (by rw[Hg];omega),uc (by rw[Hg];omega)]
  ·obtain⟨v',w',hr,r1,r2⟩:=run_append_arg_grows (P:=P) w t ty e i z size bytes ht hi hz lu Mv Ni sN ⟨g,o,I⟩ n cap xs Hq.1 (fun j u hj=>by
    rw[Addr.add_lit,Hq.cell (by have:=(List.getElem?_eq_some_iff.1 hj).1;rw[Hq.1]at this;exact this)]
    exact hj) a m c news hl tu (by omega) Mi nu
   rcases r1.2 with ⟨_,e0⟩|⟨g',cap',cur',rfl,hb,r⟩
   ·omega
   ·exact⟨g',0,cap',w',hr,zl.yjV r1,(But.refl _ w).grown r2 (fun k hk=>by cases hk),.inr hb⟩
end
def xS (l:Pg.Ln):List kh:=[J Z l.m.p,J Z l.m.s,J Z l.m.f,J Z l.m.r,N l.d]
def zL (L:List Pg.Ln):List kh:=L.flatMap xS
theorem qj:∀L:List Pg.Ln,(zL L).length=L.length*5
 | []=>rfl
 | x::r=>by
   have:=qj r;simp[zL,xS]at this ⊢;omega
theorem ve (x:Pg.Ln) (r:List Pg.Ln):zL (x::r)=xS x++zL r:=by simp[zL]
theorem jn (A B:List Pg.Ln):zL (A++B)=zL A++zL B:=by simp[zL]
theorem ycY (m:Pg.Ln):zL [m]=xS m:=by simp[zL]
theorem xN (A:List Pg.Ln) (m:Pg.Ln):zL (A++[m])=zL A++xS m:=by rw[jn,ycY]
theorem jY:∀(L:List Pg.Ln) (j i:Nat),j<L.length->i<5->(zL L)[j*5+i]?=(xS (L.getD j .zz))[i]?
 | [],j,_,h,_=>by simp at h
 | x::r,0,i,_,hi=>by
   rw[ve,List.getElem?_append_left (by simp[xS];omega)];simp
 | x::r,j+1,i,h,hi=>by
   have:=jY r j i (by simpa using h) hi;rw[ve,List.getElem?_append_right (by simp[xS];omega)];rw[show(j+1)*5+i-(xS x).length=j*5+i by simp[xS];omega,this];simp
theorem vf (L:List Pg.Ln):∀u,u ∈ zL L->u.oneCell'=kp:=by
 intro u hu;obtain⟨m,_,hm⟩:=List.mem_flatMap.1 hu;simp[xS]at hm
 rcases hm with rfl|rfl|rfl|rfl|rfl<;>rfl
theorem xX (L:List Pg.Ln) (j:Nat):(zL L).take (j*5)=zL (L.take j)/\(zL L).drop (j*5)=zL (L.drop j):=by
 by_cases hj:j<=L.length
 ·have e:zL L=zL (L.take j)++zL (L.drop j):=by rw[<-jn,List.take_append_drop]
  have hl:(zL (L.take j)).length=j*5:=by rw[qj,yP];congr 1;omega
  exact⟨by rw[e,List.take_left' hl],by rw[e,List.drop_left' hl]⟩
 ·have hl:=qj L
  rw[uc (by omega),uc (l:=L) (by omega),yD (by omega),yD (show L.length<=j by omega)];exact⟨rfl,rfl⟩
def qs (w:ki) (g o:Nat) (l:Pg.Ln):Prop:=
 w.cell? ⟨g,o,I⟩=O (J Z l.m.p)/\w.cell? ⟨g,o+1,I⟩=O (J Z l.m.s)/\w.cell? ⟨g,o+2,I⟩=O (J Z l.m.f)/\w.cell? ⟨g,o+3,I⟩=O (J Z l.m.r)/\w.cell? ⟨g,o+4,I⟩=O (N l.d)
theorem qs.of {w w':ki} {g o:Nat} {l:Pg.Ln} (h:qs w g o l) (hc:∀p,w'.cell? ⟨g,p,I⟩=w.cell? ⟨g,p,I⟩):qs w' g o l:=
 ⟨(hc _).trans h.1,(hc _).trans h.2.1,(hc _).trans h.2.2.1,(hc _).trans h.2.2.2.1,(hc _).trans h.2.2.2.2⟩
theorem qs.below {w w':ki} {g o B:Nat} {l:Pg.Ln} (h:qs w g o l) (hb:Below B w w') (hg:g<B):qs w' g o l:=h.of fun p=>hb.cell (p:=⟨g,p,I⟩) hg
def qC (w:ki) (ad:Option Addr) (L:List Pg.Ln):Prop:=∀j,j<L.length->∃g o,ad=O ⟨g,o,I⟩/\g<w.heap.size/\qs w g (o+j*5) (L.getD j .zz)
theorem qC.below {w w':ki} {ad:Option Addr} {L:List Pg.Ln} (h:qC w ad L) (hb:Lw w w'):qC w' ad L:=by
 intro j hj;obtain⟨g,o,e,hg,hm⟩:=h j hj;exact⟨g,o,e,yj hg hb.size,hm.below hb hg⟩
theorem zt {w:ki} {e:TypeId} {ad:Option Addr} {n cap:Nat} {L:List Pg.Ln} (h:zl w e 5 (yB ad n cap) L.length (zL L)):qC w ad L:=by
 intro j hj;obtain⟨g,o,cap',e,hg,_⟩:=h.shape (by omega);cases e;have hc:=fun i (hi:i<5)=>(h.cell (j:=j*5+i) (by omega)).trans (jY L j i hj hi);have h0:=hc 0 (by omega);have h1:=hc 1 (by omega);have h2:=hc 2 (by omega);have h3:=hc 3 (by omega);have h4:=hc 4 (by omega);simp only[xS,<-Nat.add_assoc,yr]at h0 h1 h2 h3 h4;exact⟨g,o,rfl,hg,by simpa using h0,by simpa using h1,by simpa using h2,by simpa using h3,by simpa using h4⟩
end
end Go.Proofs.YtdphiompijbelaaGreat
namespace Go.Proofs.YtdphiompijbelaaGreat
open Go.ChangeShapes Go.WideShapes Go.ChangeAt Go.RowKit Go.Joins
section
theorem own:ownKnob Tryz.prog.godebug=I:=by kernel_rfl
theorem ygv:laidOutB kO=kp:=by kernel_rfl
section
variable {H:Type} {enc:TypeId×kh->H} {W:ki} {r:Reach} {b0 base:Nat} {spare:Nat->Bool} {held:Bool} {v:kh} {d:DataW H} {p:List MemPlace}
theorem yd3 (hv:yt kO W r b0 41 v) (h:DataW.Trod enc kO W base spare held 41 v d p):
 ∃(x0 x1:Int) (u:Bool),v=yY #[J Z x0,J Z x1,N u]/\Pg.fits x0/\Pg.fits x1:=by
 obtain⟨c0,c1,c2,y0,y1,y2,m,rfl,_,_,h0,h1,h2⟩:=open_agg3 Tryz.underlying41 (by kernel_rfl) (by kernel_rfl) hv h;obtain⟨a0,e0,_,w0⟩:=DataW.trod_int Tryz.underlying3 h0;obtain⟨a1,e1,_,w1⟩:=DataW.trod_int Tryz.underlying3 h1;obtain⟨a2,e2,_⟩:=DataW.trod_bool Tryz.underlying4 h2;simp at e0 e1 e2;subst e0 e1 e2;exact⟨a0,a1,a2,rfl,Pg.yiR w0,Pg.yiR w1⟩
theorem ye3 (hv:yt kO W r b0 3 v) (h:DataW.Trod enc kO W base spare held 3 v d p):
 ∃x:Int,v=J Z x/\Pg.fits x:=by
 obtain⟨a,rfl,_,_,w⟩:=open_int Tryz.underlying3 hv h;exact⟨a,rfl,Pg.yiR w⟩
theorem yf4 {W':ki} {t:TypeId} (hr:Tryz.prog.readableRec t=kp) (ht:t<Tryz.prog.types.size)
 (h:DataW.Trod enc kO W 0 (fun _=>kp) kp t v d p) (hb:Lw W W'):
 DataW.Trod enc kO W' 0 (fun b=>decide (b<W.heap.size)) kp t v d p:=
 Below.trod ygv hr ht h hb (by obtain⟨m,hm⟩:=h;exact DataW.trod_lt m _ _ _ hm)
end
open Go.ChangeShapes Go.WideShapes Go.ChangeAt Go.RowKit Go.Joins Go.Deep
set_option linter.unusedVariables false
structure Bst where
 kind:Int
 core:Int
 m:Pg.Mp
 q:Int
 k:Int
 u:Bool
def Bst.zz:Bst:=⟨0,0,.zz,0,0,U⟩
def yal (W:ki) (b o:Nat) (x:Bst):Prop:=
 W.cell? ⟨b,o,I⟩=O (J Z x.kind)/\W.cell? ⟨b,o+1,I⟩=O (J Z x.core)/\W.cell? ⟨b,o+2,I⟩=O (J Z x.m.p)/\W.cell? ⟨b,o+3,I⟩=O (J Z x.m.s)/\W.cell? ⟨b,o+4,I⟩=O (J Z x.m.f)/\W.cell? ⟨b,o+5,I⟩=O (J Z x.m.r)/\W.cell? ⟨b,o+6,I⟩=O (J Z x.q)/\W.cell? ⟨b,o+7,I⟩=O (J Z x.k)/\W.cell? ⟨b,o+8,I⟩=O (N x.u)
def jp (x:Bst):Prop:=Pg.fits x.m.p/\Pg.fits x.m.s/\Pg.fits x.m.f/\Pg.fits x.m.r/\Pg.fits x.q/\Pg.fits x.k
section
variable {H:Type} {enc:TypeId×kh->H} {W:ki} {r:Reach} {b0 base:Nat} {spare:Nat->Bool} {held:Bool} {v:kh} {d:DataW H} {p:List MemPlace}
theorem yfS (hv:yt kO W r b0 22 v) (h:DataW.Trod enc kO W base spare held 22 v d p):
 ∃(ad:Option Addr) (len cap:Nat) (q:Nat->Bst),v=yB ad len cap/\
  ∀j,j<len->(∃b o,ad=O ⟨b,o,I⟩/\b<W.heap.size/\yal W b (o+j*9) (q j))/\jp (q j):=by
 obtain⟨a0,len,cap,rfl⟩:=okWide_slice Tryz.underlying22 hv;obtain⟨fuel,hf⟩:=h
 have k9:Tryz.prog.cellsOf 43=9:=by kernel_rfl
 have k1:Tryz.prog.cellsOf 3=1:=by kernel_rfl
 have kb:Tryz.prog.cellsOf 4=1:=by kernel_rfl
 have km:Tryz.prog.cellsOf 39=4:=by kernel_rfl
 have ka:Tryz.prog.cellsOf 41=3:=by kernel_rfl
 rcases open_slice Tryz.underlying22 hf with ⟨e,_⟩|⟨a,len',cap',m,n,D,Pl,e,_,hl,hm,Ry,_,hx⟩
 ·simp[ye]at e
  obtain⟨_,rfl,_⟩:=e;exact⟨a0,0,cap,fun _=> .zz,rfl,fun j hj=>absurd hj (by omega)⟩
 ·simp[ye]at e
  obtain⟨rfl,rfl,rfl⟩:=e
  have uy:len<=m:=by rw[Ry];split<;>omega
  have each:∀i,i<len->∃x:Bst,(∃b o,O a=O ⟨b,o,I⟩/\b<W.heap.size/\yal W b (o+i*9) x)/\jp x:=by
   intro i hi;obtain⟨cs0,g1,_⟩:=hx 0 (by omega);rw[k9]at g1;obtain⟨_,glen,F7⟩:=yv g1
   obtain⟨u,c0⟩:∃u,W.cell? a=O u:=by
    have c0:=F7 0 (by omega);rw[List.getElem?_eq_getElem (by omega)]at c0;exact⟨_,by simpa[Addr.add]using c0⟩
   obtain⟨cs',h1,h2⟩:=hx i (by omega);rw[k9]at h1;obtain⟨_,Hg,fw⟩:=yv h1;obtain⟨xs,k,hk,Ch,_,pM,hq⟩:=DataW.trod_struct Tryz.underlying43 h2
   match xs,pM,cs',Hg with
   | [y0,y1,y2,y3],_,[v0,v1,v2,v3,v4,v5,v6,v7,v8],_=>
     have q0:=hq 0 _ rfl;have q1:=hq 1 _ rfl;have q2:=hq 2 _ rfl;have q3:=hq 3 _ rfl;simp[k1,km,ka]at q0 q1 q2 q3;obtain⟨xm,kM,_,_,_,Uf,MN⟩:=DataW.trod_struct Tryz.underlying39 q2;obtain⟨xa,kA,_,_,_,kg,Dc⟩:=DataW.trod_struct Tryz.underlying41 q3
     match xm,Uf,xa,kg with
     | [m0,m1,m2,m3],_,[n0,n1,n2],_=>
       have r0:=MN 0 _ rfl;have r1:=MN 1 _ rfl;have r2:=MN 2 _ rfl;have r3:=MN 3 _ rfl;have s0:=Dc 0 _ rfl;have s1:=Dc 1 _ rfl;have s2:=Dc 2 _ rfl;simp[k1]at r0 r1 r2 r3;simp[k1,kb]at s0 s1 s2;obtain⟨a0,e0,_,_⟩:=DataW.trod_int Tryz.underlying3 q0;obtain⟨a1,e1,_,_⟩:=DataW.trod_int Tryz.underlying3 q1;obtain⟨a2,e2,_,w2⟩:=DataW.trod_int Tryz.underlying3 r0;obtain⟨a3,e3,_,w3⟩:=DataW.trod_int Tryz.underlying3 r1;obtain⟨a4,e4,_,w4⟩:=DataW.trod_int Tryz.underlying3 r2;obtain⟨a5,e5,_,w5⟩:=DataW.trod_int Tryz.underlying3 r3;obtain⟨a6,e6,_,w6⟩:=DataW.trod_int Tryz.underlying3 s0;obtain⟨a7,e7,_,w7⟩:=DataW.trod_int Tryz.underlying3 s1;obtain⟨a8,e8,_⟩:=DataW.trod_bool Tryz.underlying4 s2;simp at e0 e1 e2 e3 e4 e5 e6 e7 e8;subst e0 e1 e2 e3 e4 e5 e6 e7 e8;have d0:=fw 0 (by omega);have d1:=fw 1 (by omega);have d2:=fw 2 (by omega);have d3:=fw 3 (by omega);have d4:=fw 4 (by omega);have d5:=fw 5 (by omega);have d6:=fw 6 (by omega);have d7:=fw 7 (by omega);have d8:=fw 8 (by omega)
       have gM:a.spot=I:=by
        obtain⟨_,_,_,_,hs⟩:=World.shape?_of_cell? c0;exact hs
       obtain⟨b,o,sp⟩:=a;cases gM;have Hf:b<W.heap.size:=yC _ _ c0
       have ha:∀x y:Nat,((⟨b,o,I⟩:Addr).add x).add y=⟨b,o+x+y,I⟩:=by
        intro x y;unfold Addr.add
        split<;>split<;>simp_all<;>omega
       rw[ha]at d0 d1 d2 d3 d4 d5 d6 d7 d8;exact⟨⟨a0,a1,⟨a2,a3,a4,a5⟩,a6,a7,a8⟩,⟨b,o,rfl,Hf,by simpa using d0,by simpa using d1,by simpa using d2,by simpa using d3,by simpa using d4,by simpa using d5,by simpa using d6,by simpa using d7,by simpa using d8⟩,Pg.yiR w2,Pg.yiR w3,Pg.yiR w4,Pg.yiR w5,Pg.yiR w6,Pg.yiR w7⟩
  have _:Inhabited Bst:=⟨.zz⟩;obtain⟨q,hq⟩:=choose_lt each;exact⟨O a,len,cap,q,rfl,hq⟩
end
end
end Go.Proofs.YtdphiompijbelaaGreat
