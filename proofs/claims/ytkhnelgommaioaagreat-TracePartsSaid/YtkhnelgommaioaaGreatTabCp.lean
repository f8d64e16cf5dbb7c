import Derived.Test.YtkhnelgommaioaaGreatWalkC
import Derived.Test.YtkhnelgommaioaaGreatLooseT
import Derived.Deep.RegionLaw
namespace Go.Proofs.YtkhnelgommaioaaGreat
open Go.RowKit Go.Sort
set_option linter.unusedVariables false
set_option maxRecDepth 100000
attribute [local go_sem] Loose.gent
set_option maxHeartbeats 1000000 in
theorem stepMapping_any (s:Pg.Sp) (hl:s.level<4) (ha:s.ahead<4096) (w:World):
 Calls Tryz.prog 116 #[s.val] w fun e w'=>e= .returned s.mp.val/\Below w.heap.size w w':=by
 obtain⟨st,sp,sl,sa,⟨et,el,er,eu,ed,ef⟩⟩:=s
 have hs:=Pg.span_bd (sl:Int)
 simp only at hl ha
 have HM:=eMap_any et el er eu ed ef (sl:Int) ((sa:Int)*Pg.span (sl:Int))
 rw[Pg.mapV_of ⟨et,el,er,eu,ed,ef⟩]at HM
 have HE:Hid ((⟨st,sp,sl,sa,⟨et,el,er,eu,ed,ef⟩⟩:Pg.Sp).mp=Pg.En.map ⟨et,el,er,eu,ed,ef⟩ (sl:Int) ((sa:Int)*Pg.span (sl:Int))):=rfl
 rw[HE.out]
 have hmul:IntKind.i64.wrap ((sa:Int)*Pg.span (sl:Int))=(sa:Int)*Pg.span (sl:Int):=by
  have h1:(sa:Int)*Pg.span (sl:Int)<=4096*64:=Int.mul_le_mul (by omega) (by omega) (by omega) (by omega)
  have h2:0<=(sa:Int)*Pg.span (sl:Int):=Int.mul_nonneg (by omega) (by omega)
  exact wrap_i64_in (by omega) (by omega)
 generalize Pg.En.map ⟨et,el,er,eu,ed,ef⟩ (sl:Int) ((sa:Int)*Pg.span (sl:Int))=m at*
 obtain⟨mp,ms,mf,mr⟩:=m
 simp only[Pg.Sp.val,Pg.Mp.val]at HM ⊢
 clear HE
 obtain⟨W,hW⟩:∃W,W=(w.alloc (.cells #[.int .i64 st,.int .i64 (sp:Int),.int .i64 (sl:Int),.int .i64 (sa:Int),.bool et,.bool el,.int .i64 er,.bool eu,.bool ed,.int .i64 ef] 200)).alloc (.cells #[.int .i64 0,.int .i64 0,.int .i64 0,.int .i64 0] 39):=⟨_,rfl⟩
 have hB:Below w.heap.size w W:=by rw[hW];exact zA (zA (zR w) _) _
 have y2:=cell_regrown (show W.cell? ⟨w.heap.size,2,none⟩=some (.int .i64 (sl:Int)) by rw[hW];simp[go_sem])
 have y3:=cell_regrown (show W.cell? ⟨w.heap.size,3,none⟩=some (.int .i64 (sa:Int)) by rw[hW];simp[go_sem])
 have y4:=cell_regrown (show W.cell? ⟨w.heap.size,4,none⟩=some (.bool et) by rw[hW];simp[go_sem])
 have y5:=cell_regrown (show W.cell? ⟨w.heap.size,5,none⟩=some (.bool el) by rw[hW];simp[go_sem])
 have y6:=cell_regrown (show W.cell? ⟨w.heap.size,6,none⟩=some (.int .i64 er) by rw[hW];simp[go_sem])
 have y7:=cell_regrown (show W.cell? ⟨w.heap.size,7,none⟩=some (.bool eu) by rw[hW];simp[go_sem])
 have y8:=cell_regrown (show W.cell? ⟨w.heap.size,8,none⟩=some (.bool ed) by rw[hW];simp[go_sem])
 have y9:=cell_regrown (show W.cell? ⟨w.heap.size,9,none⟩=some (.int .i64 ef) by rw[hW];simp[go_sem])
 have cr:W.cell? ⟨w.heap.size+1,0,none⟩=some (.int .i64 0)/\W.cell? ⟨w.heap.size+1,1,none⟩=some (.int .i64 0)/\W.cell? ⟨w.heap.size+1,2,none⟩=some (.int .i64 0)/\W.cell? ⟨w.heap.size+1,3,none⟩=some (.int .i64 0):=by rw[hW];simp[go_sem]
 have fr:∀i,W.frozen? ⟨w.heap.size+1,i,none⟩=false:=fun i=>by rw[hW];simp[go_sem]
 go_enter Tryz.func116,Tryz.ntmps116
 go_wp2_with fail
 rw[<-hW]
 clear hW
 refine Loose.wp_region_store 11 (by kernel_rfl) (by kernel_rfl) ?_
 simp only[List.take_succ_cons,List.take_zero,List.drop_succ_cons,List.drop_zero]
 repeat (
  refine Loose.zS (fun k hk=> ?_)
  go_simp
  first
   | (refine hk _ ?_;clear hk k)
   | (apply Exists.intro
      refine⟨fun _=> ?_,hk _ ?_⟩
      (first
        | (go_at_call 154;exact Loose.calls_same (span_any _ _))
        | (go_at_call 153;exact Loose.calls (HM _)))
      clear hk k))
 refine Loose.wpGent_nil ?_
 intro w' hb'
 have hlt:=World.block_lt_of_cell? _ _ cr.1
 replace cr:=later4 hb' cr
 have fr':∀i,w'.frozen? ⟨w.heap.size+1,i,none⟩=false:=fun i=>by
  rw[hb'.frozen (p:=⟨w.heap.size+1,i,none⟩) hlt];exact fr i
 replace hB:=zT hB hb'
 clear hb' fr y2 y3 y4 y5 y6 y7 y8 y9
 go_wp2_with fail
 refine bodyPost_ret (v:= .agg #[.int .i64 mp,.int .i64 ms,.int .i64 mf,.int .i64 mr]) ?_ rfl ⟨rfl,?_⟩
 ·simp[results,Tryz.results116,go_sem,cr]
 ·exact(((hB.setCell (by simp) _).setCell (by simp) _).setCell (by simp) _).setCell (by simp) _
set_option maxHeartbeats 1000000 in
theorem list1_any {w0:World} {c:Nat} (s:Pg.Sp) (X:List Pg.Sp) (V:Nat->Prop) (w:World) (hl:s.level<4) (ha:s.ahead<4096) (hlen:X.length<4680)
 (hR:Keeps w0 c 39 4 (fun X=>(Pg.zM X).length) (fun X=>zC (Pg.zM X)) X V w):
 Calls Tryz.prog 115 #[s.val,.pointer (some ⟨c,0,none⟩)] w fun e w'=>e= .returned (.tuple #[])/\∃V',Keeps w0 c 39 4 (fun X=>(Pg.zM X).length) (fun X=>zC (Pg.zM X)) (X++[s]) V' w'/\But V w w'/\∀k,V' k->V k\/w.heap.size<=k:=by
 have HT:Hid (Pg.zM (X++[s])=Pg.zM X++if s.e.l=true then [s.mp]else []):=by simp[Hid,Pg.zM]
 have HR:Hid _:=hR
 have hml:=Pg.mapsOf_len X
 have HM:=stepMapping_any s hl ha
 have HS:Hid (s=s):=rfl
 generalize hs:s.mp=m at*
 clear hs HS
 obtain⟨st,sp,sl,sa,⟨et,el,er,eu,ed,ef⟩⟩:=s
 obtain⟨mp,ms,mf,mr⟩:=m
 simp only[Pg.Sp.val,Pg.Mp.val]at HM ⊢
 simp only at HT
 cases el
 ·clear hR HM
  go_enter Tryz.func115,Tryz.ntmps115
  go_wp2_with fail
  go_end0
  exact⟨rfl,HR.out.stay (zA (zR w) _) (by rw[HT.out];simp) (by rw[HT.out];simp)⟩
 ·obtain⟨vb,hv,hV⟩:=hR.var
  obtain⟨q0,hq,hz0,hz1,hz2⟩:=info_parts infoMap
  have HVr:Hid _:=hv
  have hfz:=hR.fz
  have hw0:=hR.bel.size
  have hcl:=hv.lb
  have cc:=hv.cell
  have hown:=hv.own
  clear hR hv
  have hcw:c≠w.heap.size:=by omega
  go_enter Tryz.func115,Tryz.ntmps115
  go_wp2_with fail
  have hnews:∀(W:World) (j:Nat) (u:Value),[Value.int .i64 mp,.int .i64 ms,.int .i64 mf,.int .i64 mr][j]?=some u->(W.alloc (.cells #[.int .i64 mp,.int .i64 ms,.int .i64 mf,.int .i64 mr] 39)).cell? ((⟨W.heap.size,0,none⟩:Addr).add j)=some u:=fun W j u hu=>
   World.news_of_block (heap_alloc_new W _) j u hu
  have hone:∀u,u ∈ [Value.int .i64 mp,.int .i64 ms,.int .i64 mf,.int .i64 mr]->u.oneCell'=true:=by
   intro u hu;simp at hu;rcases hu with rfl|rfl|rfl|rfl<;>rfl
  have hm1:(Pg.zM X).length+1<=maxLen:=by unfold maxLen;omega
  have hm2:((Pg.zM X).length+1)*32<=140737488355328:=by omega
  go_region_law (first
   | (go_simp;go_at_call 116;refine(HM _).mono ?_;rintro e w2 ⟨rfl,hb2⟩;have HB2:Hid (Below w.heap.size w w2):=zT ((zA (zR w) _).drew) hb2;have V2:Hid _:=HVr.out.grow HB2.out;have cc2:=V2.out.cell;have cl2:=V2.out.lb;clear hb2)
   | (refine step_append_lies _ rfl (.tmp 6) (.tmp 9) 44 rfl w0.heap.size 39 q0 _ 4 32 Tryz.underlying44 hq hz0 hz1 hz2 rfl (by decide) vb _ _ (by simp[Act.eval]) (V2.out.own.alloc _) ⟨w2.heap.size,0,none⟩ 1 1 [.int .i64 mp,.int .i64 ms,.int .i64 mf,.int .i64 mr] (by simp[Act.eval]) rfl (hnews w2) hone (by decide) hm1 hm2 (Nat.le_trans hw0 (Nat.le_trans HB2.out.size (by simp))) (w2.heap.size+1) (by simp) ?_;intro g cap w3 hown3 hgrow hat hlt3;have hbA:Hid _:=zA HB2.out (.cells #[.int .i64 mp,.int .i64 ms,.int .i64 mf,.int .i64 mr] 39);have HA:Hid (vb.ownBlock=some g\/g=(w2.alloc (.cells #[.int .i64 mp,.int .i64 ms,.int .i64 mf,.int .i64 mr] 39)).heap.size):=(by simpa[Hid]using hat);have p1:=(HVr.out.push hbA.out hgrow hown3 HA.out).1;have kf:w3.frozen? ⟨c,0,none⟩=false:=((HVr.out.push hbA.out hgrow hown3 HA.out).2.1 0).trans (hfz 0);have HO3:Hid _:=hown3;have HG3:Hid _:=hgrow;clear hown3 hgrow hat hlt3))
  all_goals
   have fin:Hid _:=HR.out.push (X':=X++[⟨st,sp,sl,sa,⟨et,true,er,eu,ed,ef⟩⟩]) HVr.out hV hbA.out HG3.out HO3.out HA.out (by rw[HT.out];simp) (by rw[HT.out,if_true,mpCells_push])
   go_wp2_with fail
   go_end0
   exact⟨rfl,fin.out⟩
theorem enters_list1:∀args w,(callFunc 115 args).run Tryz.prog w= .ok (.enter 115 args) w:=fun args w=>by simp[go_sem]
theorem list_tells {b:Nat} {S:Pg.Fs} {F:Nat->Prop} {w0:World} {c:Nat} (h:FrAt w0 b S F):
 Tells b S F 114 115 #[] #[.pointer (some ⟨c,0,none⟩)] Pg.zW (Keeps w0 c 39 4 (fun X=>(Pg.zM X).length) (fun X=>zC (Pg.zM X))):=
 ⟨enters_everywhere,enters_list1,fun _ _ _ hR=>hR.fr h,fun _ _ _ hR _ hk=>hR.lt hk,fun _ _ _ _ hR hb=>hR.grow hb,
  fun i lv _ _ w _ _ _=>below_of_same (everywhere_any (i:Int) (lv:Int) w),fun s X V w _ h1 h2 hl hR=>list1_any s X V w h1 h2 hl hR⟩
theorem owns_cap {w:World} {base:Nat} {e:TypeId} {size n cap:Nat} {ad:Option Addr} {xs:List Value} (h:w.ownsRow base e size (.slice ad n cap) n xs):n<=cap:=by
 rcases h.2 with ⟨e,_⟩|⟨g,c,cur,e,_,_,hle,_⟩
 ·cases e;exact Nat.le_refl _
 ·cases e;exact hle
set_option maxHeartbeats 1000000 in
theorem wTables_cap {b:Nat} {S:Pg.Fs} {F:Nat->Prop} (t:Int) (w:World) (h:FrAt w b S F):
 Calls Tryz.prog 66 #[.pointer (some ⟨b,0,none⟩),.int .i64 t] w fun e w'=>∃ad cap L,e= .returned (.tuple #[.slice ad L.length cap,.int .i64 (Pg.thr S Pg.zW 3 t 0).2])/\L=(if (Pg.thr S Pg.zW 3 t 0).2=0 then t::Pg.zU (Pg.thr S Pg.zW 3 t 0).1 else [])/\IntsAt w' ad L/\L.length<=cap/\Below w.heap.size w w':=by
 obtain⟨W,hW⟩:∃W,W=(w.alloc (.cells #[.int .i64 t] 3)).alloc (.cells #[.slice (some ⟨w.heap.size,0,none⟩) 1 1] 45):=⟨_,rfl⟩
 have hB:Below w.heap.size w W:=by rw[hW];exact zA (zA (zR w) _) _
 have hK:Keeps w (w.heap.size+1) 3 1 (fun X=>(t::Pg.zU X).length) (fun X=>ints (t::Pg.zU X)) [] (fun k=>k=w.heap.size+1\/(Value.slice (some ⟨w.heap.size,0,none⟩) 1 1).ownBlock=some k) W:=by
  refine⟨hB,by omega,fun o=>by rw[hW];simp[go_sem],.slice (some ⟨w.heap.size,0,none⟩) 1 1,⟨by rw[hW];simp[go_sem],?_,by simp[Value.ownBlock]⟩,rfl⟩
  refine⟨by simp[ints,Pg.zU],.inr ⟨w.heap.size,1,#[.int .i64 t],rfl,Nat.le_refl _,?_,Nat.le_refl _,by decide,rfl,by simp[ints,Pg.zU]⟩⟩
  rw[hW,Below.heap_alloc _ _ _ (by simp)]
  exact heap_alloc_new w _
 have HC:Hid _:=from_any (tables_tells (c:=w.heap.size+1) (t:=t) h) t _ W hK
 clear h hK hB
 generalize Pg.thr S Pg.zW 3 t 0=th at*
 go_enter Tryz.func66,Tryz.ntmps66
 go_wp2_with fail
 rw[<-hW]
 refine Calls.mono HC.out ?_
 rintro e w1 ⟨rfl,V1,hK1,hb1,hn1⟩
 clear hb1 hn1
 have HB:Hid (Below w.heap.size w w1):=hK1.bel
 obtain⟨vb,hv,_⟩:=hK1.var
 obtain⟨ad,cap,rfl⟩:=zF hv.own
 by_cases hc:th.2=0
 ·have hcb:(th.2 !=0)=false:=by simp[hc]
  have cc:=hv.cell
  have HI:Hid _:=owns_intsAt hv.own
  have HCap:Hid _:=owns_cap hv.own
  have HC0:Hid _:=hc
  clear hv hK1 hc
  go_wp2_with fail
  go_ret2
  exact⟨ad,cap,t::Pg.zU th.1,rfl,by first|rw[if_pos HC0.out]|rfl,HI.out,HCap.out,HB.out⟩
 ·have hcb:(th.2 !=0)=true:=by simp[hc]
  have HC0:Hid _:=hc
  clear hv hK1 hc
  go_wp2_with fail
  go_ret2
  exact⟨none,0,[],rfl,by first|rw[if_neg HC0.out]|rfl,fun j hj=>absurd hj (by simp),by simp,HB.out⟩
theorem owns_new {w:World} {base:Nat} {e:TypeId} {size n cap:Nat} {ad:Option Addr} {xs:List Value} (h:w.ownsRow base e size (.slice ad n cap) n xs):∀g,ad=some ⟨g,0,none⟩->base<=g:=by
 intro g hg
 rcases h.2 with ⟨e,_⟩|⟨g',c,cur,e,hb,_⟩
 ·cases e;cases hg
 ·cases e;cases hg;exact hb
set_option maxHeartbeats 1000000 in
theorem wList_new {b:Nat} {S:Pg.Fs} {F:Nat->Prop} (t:Int) (w:World) (h:FrAt w b S F):
 Calls Tryz.prog 65 #[.pointer (some ⟨b,0,none⟩),.int .i64 t] w fun e w'=>∃ad cap L,e= .returned (.tuple #[.slice ad L.length cap,.int .i64 (Pg.thr S Pg.zW 3 t 0).2])/\L=(if (Pg.thr S Pg.zW 3 t 0).2=0 then Pg.zM (Pg.thr S Pg.zW 3 t 0).1 else [])/\MapsAt w' ad L/\(∀g,ad=some ⟨g,0,none⟩->w.heap.size<=g)/\Below w.heap.size w w':=by
 obtain⟨W,hW⟩:∃W,W=w.alloc (.cells #[.slice none 0 0] 44):=⟨_,rfl⟩
 have hB:Below w.heap.size w W:=by rw[hW];exact zA (zR w) _
 have hK:Keeps w w.heap.size 39 4 (fun X=>(Pg.zM X).length) (fun X=>zC (Pg.zM X)) [] (fun k=>k=w.heap.size\/(Value.slice none 0 0).ownBlock=some k) W:=
  ⟨hB,Nat.le_refl _,fun o=>by rw[hW];simp[go_sem],.slice none 0 0,⟨by rw[hW];simp[go_sem],World.ownsRow_nil _ _ _ _,by simp[Value.ownBlock]⟩,rfl⟩
 have HC:Hid _:=from_any (list_tells (c:=w.heap.size) h) t _ W hK
 clear h hK hB
 generalize Pg.thr S Pg.zW 3 t 0=th at*
 go_enter Tryz.func65,Tryz.ntmps65
 go_wp2_with fail
 rw[<-hW]
 refine Calls.mono HC.out ?_
 rintro e w1 ⟨rfl,V1,hK1,hb1,hn1⟩
 clear hb1 hn1
 have HB:Hid (Below w.heap.size w w1):=hK1.bel
 obtain⟨vb,hv,_⟩:=hK1.var
 obtain⟨ad,cap,rfl⟩:=zF hv.own
 by_cases hc:th.2=0
 ·have hcb:(th.2 !=0)=false:=by simp[hc]
  have cc:=hv.cell
  have HI:Hid (MapsAt w1 ad (Pg.zM th.1)):=owns_mapsAt hv.own
  have HNw:Hid _:=owns_new hv.own
  have HC0:Hid _:=hc
  clear hv hK1 hc
  go_wp2_with fail
  go_ret2
  exact⟨ad,cap,Pg.zM th.1,rfl,by first|rw[if_pos HC0.out]|rfl,HI.out,HNw.out,HB.out⟩
 ·have hcb:(th.2 !=0)=true:=by simp[hc]
  have HC0:Hid _:=hc
  clear hv hK1 hc
  go_wp2_with fail
  go_ret2
  exact⟨none,0,[],rfl,by first|rw[if_neg HC0.out]|rfl,fun j hj=>absurd hj (by simp),fun g hg=>(by cases hg),HB.out⟩
end Go.Proofs.YtkhnelgommaioaaGreat
