import Derived.Test.YtkhnelgommaioaaGreatTabB
import Derived.Deep.RegionHeld3
import Derived.Test.YtkhnelgommaioaaGreatWalkI
namespace Go.Proofs.YtkhnelgommaioaaGreat
open Go.RowKit Go.Sort
set_option linter.unusedVariables false
set_option linter.unusedSimpArgs false
set_option maxRecDepth 100000
theorem map_rts {e:Pg.En} {lv:Nat} {p r:Int} (hf:e.fault lv=0) (ht:e.t=true) (hl:e.l=true) (hp:Pg.below p 4096=true) (h0:0<=r) (h1:r<=7):Pg.En.map ⟨e.t,e.l,r,e.u,e.d,e.f⟩ lv p=(e.map lv p).rts r:=by
 obtain⟨et,el,er,eu,ed,ef⟩:=e
 simp only at ht hl
 subst ht hl
 unfold Pg.En.fault at hf
 have hf':Pg.eFault true true r eu ed ef lv=0:=by
  unfold Pg.eFault at hf ⊢
  simp only at hf
  rw[if_neg (by omega)]
  rw[if_neg (by simp),if_neg (by rintro (h|h|h|h)<;>simp_all<;>omega)]
  split at hf
  ·omega
  ·rw[if_neg (by simp)]at hf
   split at hf
   ·omega
   ·simpa using hf
 have o1:Pg.lOk true true er eu ed ef lv p=true:=by
  simp only[Pg.lOk,hf,hp];simp
 have o2:Pg.lOk true true r eu ed ef lv p=true:=by
  simp only[Pg.lOk,hf',hp];simp
 simp[Pg.En.map,Pg.Mp.rts,Pg.lPage,Pg.lSize,Pg.lFrame,Pg.lRights,o1,o2]
theorem code_rts (r:Int):Pg.check 0 0 0 r=if r<0\/7<r then 1 else 0:=by
 unfold Pg.check
 split<;>split<;>simp_all[Pg.below,Pg.span]<;>omega
theorem tabs_split {X:List Pg.Sp} (h:1<=X.length):∃Y s,X=Y++[s]:=by
 rcases List.eq_nil_or_concat X with rfl|⟨Y,s,rfl⟩
 ·simp at h
 ·exact⟨Y,s,by simp⟩
theorem way_split {S:Pg.Fs} {t p:Int} (hz:fndC S t p=0):∃Y s lv,fndX S t p=Y++[s]/\Pg.Way S t p (Y++[s]) lv s.e s.table/\s.level=lv/\lv<=3/\Y.length<=3/\(s.place:Int)=Pg.index p (lv:Int)/\s.place=Pg.ix p lv:=by
 obtain⟨lv,e,tl,W⟩:=Pg.way_of hz
 have h4:=W.len
 have hX1:1<=(fndX S t p).length:=by
  cases hX:fndX S t p with
  | nil=>
    have h5:=W.lastL
    rw[hX]at h5 h4
    simp[lastL]at h5 h4
    omega
  | cons a l=>simp
 obtain⟨Y,s,hY⟩:=tabs_split hX1
 have e1:lastL (Y++[s])=s.level:=lastL_push Y s
 have e2:lastE (Y++[s])=s.e:=lastE_push Y s
 have e3:lastT (Y++[s])=s.table:=by simp[lastT]
 have hi:=find_place S t p (i:=Y.length) (by rw[hY];simp)
 rw[hY]at W h4 hi
 rw[List.length_append,List.length_singleton]at h4
 have hl:=W.lastL
 rw[e1]at hl
 have hl':s.level=lv:=by omega
 have he:=W.lastE
 rw[e2]at he
 have ht:=W.lastT
 rw[e3]at ht
 subst he ht
 have hpl:(plcs (Y++[s])).getD Y.length 0=(s.place:Int):=by simp[plcs]
 have hix:=Pg.index_ix hi.1 (lv:=lv) (by omega)
 have hpp:(s.place:Int)=Pg.index p (lv:Int):=by rw[<-hpl,hi.2.2,show(3-(Y.length:Int))=(lv:Int) by omega]
 exact⟨Y,s,lv,hY,W,hl',by omega,by omega,hpp,by omega⟩
set_option maxHeartbeats 1000000 in
theorem tProtect_any {b:Nat} {S:Pg.Fs} {F:Nat->Prop} (t p r:Int) (w:World) (h:FrAt w b S F):
 Calls Tryz.prog 92 #[.pointer (some ⟨b,0,none⟩),.int .i64 t,.int .i64 p,.int .i64 r] w fun en w'=>en= .returned (.tuple #[(Pg.prM S t p r).val,.int .i64 (Pg.prC S t p r)])/\∃F',FrAt w' b (Pg.prS S t p r) F'/\But F w w'/\∀k,F' k->F k\/w.heap.size<=k:=by
 have HC:=check_any 0 0 0 r
 rw[code_rts]at HC
 have H:Hid (FrAt w b S F):=h
 obtain⟨W1,hW1⟩:∃W1,W1=w.alloc (.cells #[.int .i64 0,.int .i64 0,.int .i64 0,.int .i64 0] 39):=⟨_,rfl⟩
 have hB1:Below w.heap.size w W1:=by rw[hW1];exact zA (zR w) _
 have r4:W1.cell? ⟨w.heap.size,0,none⟩=some (.int .i64 0)/\W1.cell? ⟨w.heap.size,1,none⟩=some (.int .i64 0)/\W1.cell? ⟨w.heap.size,2,none⟩=some (.int .i64 0)/\W1.cell? ⟨w.heap.size,3,none⟩=some (.int .i64 0):=by rw[hW1];simp[go_sem]
 have rf4:∀o,W1.frozen? ⟨w.heap.size,o,none⟩=false:=fun o=>by rw[hW1];simp[go_sem]
 have HR4:Hid _:=r4
 have HF4:Hid _:=rf4
 have HB1:Hid _:=hB1
 have fin0:Hid (∀w',Below w.heap.size w w'->∃F',FrAt w' b S F'/\But F w w'/\∀k,F' k->F k\/w.heap.size<=k):=fun w' hb=>⟨F,FrAt.keep (G:=fun _=>False) H.out (But.of_below hb) fun _ _=>id,But.of_below hb,fun k hk=> .inl hk⟩
 by_cases hr:r<0\/7<r
 ·have e1:Pg.prC S t p r=1:=by rw[Pg.prC,if_pos hr]
  have e2:Pg.prM S t p r= .zz:=by rw[Pg.prM,e1,if_neg (by decide)]
  have e3:Pg.prS S t p r=S:=by rw[Pg.prS,e1,if_neg (by decide)]
  rw[e1,e2,e3]
  rw[if_pos hr]at HC
  clear h e1 e2 e3 hr r4 rf4 hB1
  go_enter Tryz.func92,Tryz.ntmps92
  go_wp2_with fail
  rw[<-hW1]
  clear hW1
  refine(HC _).mono ?_
  rintro en w2 ⟨rfl,hb2⟩
  obtain⟨z0,z1,z2,z3⟩:=later4 hb2 HR4.out
  have hlw:w.heap.size<W1.heap.size:=World.block_lt_of_cell? _ _ HR4.out.1
  have zf:∀o,w2.frozen? ⟨w.heap.size,o,none⟩=false:=fun o=>(hb2.frozen (p:=⟨w.heap.size,o,none⟩) hlw).trans (HF4.out o)
  have HB2:Hid (Below w.heap.size w w2):=zT HB1.out hb2
  clear hb2
  go_wp2_with fail
  refine bodyPost_ret (v:= .tuple #[.agg #[.int .i64 0,.int .i64 0,.int .i64 0,.int .i64 0],.int .i64 1]) ?_ rfl ⟨rfl,fin0.out _ (below_set4 HB2.out w.heap.size (Nat.le_refl _) _ _ _ _)⟩
  simp[results,Tryz.results92,go_sem,z0,z1,z2,z3]
 ·have e1:Pg.prC S t p r=Pg.tFC S t p:=by rw[Pg.prC,if_neg hr]
  rw[if_neg hr]at HC
  have HW:=fun w2 (hb:Below w.heap.size w w2)=>newLeafMaker_any t p w2 (h.keep (G:=fun _=>False) (But.of_below hb) fun _ _=>id)
  by_cases hc:Pg.tFC S t p=0
  ·have hz:fndC S t p=0:=by
    by_cases hz:fndC S t p=0
    ·exact hz
    ·rw[Pg.tFC,if_pos hz]at hc
     exact absurd hc hz
   obtain⟨Y,s,lv,hY,W,hsl,hl3,hY3,hpl,hix⟩:=way_split hz
   have hf:=Pg.rEn_fault h.ok W.code
   rw[<-W.en]at hf
   have ht:s.e.t=true:=by
    rw[Pg.tFC,hz,if_neg (by decide),hY,W.lastE]at hc
    cases hst:s.e.t
    ·rw[hst]at hc;simp at hc
    ·rfl
   have hl:s.e.l=true:=by
    have:=W.on
    unfold Pg.En.on at this
    rw[ht]at this
    simpa using this
   have e5:Pg.tFM S t p=s.e.map (lv:Int) p:=by rw[Pg.tFM,if_pos hc,hY,W.lastE,W.lastL]
   have e2:Pg.prM S t p r=Pg.En.map ⟨s.e.t,s.e.l,r,s.e.u,s.e.d,s.e.f⟩ (lv:Int) p:=by rw[Pg.prM,e1,if_pos hc,e5];exact(map_rts hf ht hl W.below (by omega) (by omega)).symm
   have e3:Pg.prS S t p r=S.store s.table (s.place:Int) (Pg.enc s.e.t s.e.l r s.e.u s.e.d s.e.f (lv:Int)):=by
    rw[Pg.prS,e1,if_pos hc,hY,W.lastT,W.lastL,W.lastE,hpl]
   have e6:tabs (Y++[s])=tabs Y++[s.table]:=by simp[tabs]
   have e7:plcs (Y++[s])=plcs Y++[(s.place:Int)]:=by simp[plcs]
   rw[e1,e2,e3,hc]
   rw[hc,hY,W.lastL,W.lastE,e6,e7]at HW
   have hlen:(tabs Y).length=(plcs Y).length:=by rw[tabs_len,plcs_len]
   have hlt:(tabs Y).length<4000:=by rw[tabs_len];omega
   clear e1 e2 e3 e5 e6 e7 hf hY W hix hpl hc hz h r4 rf4 hB1 hr
   obtain⟨st,sp,sl,sa,⟨et,el,er,eu,ed,ef⟩⟩:=s
   simp only at ht hl HW ⊢
   generalize (sp:Int)=pl at*
   subst ht hl
   generalize hmm:Pg.En.map ⟨true,true,r,eu,ed,ef⟩ (lv:Int) p=m at*
   have HMM:Hid _:=hmm
   clear hmm
   obtain⟨mp,ms,mf,mr⟩:=m
   simp only[Pg.Mp.val]
   go_enter Tryz.func92,Tryz.ntmps92
   go_wp2_with fail
   rw[<-hW1]
   clear hW1
   refine(HC _).mono ?_
   rintro en w2 ⟨rfl,hb2⟩
   obtain⟨z0,z1,z2,z3⟩:=later4 hb2 HR4.out
   have hlw:w.heap.size<W1.heap.size:=World.block_lt_of_cell? _ _ HR4.out.1
   have hlw2:w.heap.size<w2.heap.size:=World.block_lt_of_cell? _ _ z0
   have zf:∀o,w2.frozen? ⟨w.heap.size,o,none⟩=false:=fun o=>(hb2.frozen (p:=⟨w.heap.size,o,none⟩) hlw).trans (HF4.out o)
   have HB2:Hid (Below w.heap.size w w2):=zT HB1.out hb2
   clear hb2 HC HR4 HF4 HB1
   go_wp2_with fail
   refine(HW _ HB2.out).mono ?_
   rintro en w3 ⟨k,rfl,hS,hb3⟩
   have HS:Hid _:=hS
   obtain⟨B,v1,v2,F',hM,_,_,_,_,_,_⟩:=hS.body
   have hlk:=hM.lb
   have k2:=hM.c2
   have k3:=hM.c3
   have k4:=hM.c4
   have k5:=hM.c5
   have k6:=hM.c6
   have k7:=hM.c7
   simp only at k2 k3 k4 k5 k6 k7
   have HZ:Hid _:=later4 hb3 ⟨z0,z1,z2,z3⟩
   have HZF:Hid (∀o,w3.frozen? ⟨w.heap.size,o,none⟩=false):=fun o=>(hb3.frozen (p:=⟨w.heap.size,o,none⟩) hlw2).trans (zf o)
   clear hM hS HW z0 z1 z2 z3 zf hb3
   have HP:=fun w4 (h4:St w2 w4 k b F S (lv:Int) ⟨true,true,er,eu,ed,ef⟩ (tabs Y++[st]) (plcs Y++[pl]) p)=>put_any ⟨true,true,r,eu,ed,ef⟩ h4 hlen (by omega)
   simp only[Pg.En.val]at HP
   go_wp2_with fail
   refine(HP _ (HS.out.grow (zA (zR w3) _))).mono ?_
   rintro en w5 ⟨rfl,h5⟩
   have HMap:=mkMapping_any h5
   obtain⟨F5,f1,f2,f3⟩:=h5.leaves
   have hz5:w5.heap[w.heap.size]?=w3.heap[w.heap.size]?:=by
    have q1:=h5.but.block w.heap.size hlw2 fun hF=>by have:=FrAt.lt H.out hF;omega
    have q2:=HS.out.but.block w.heap.size hlw2 fun hF=>by have:=FrAt.lt H.out hF;omega
    exact q1.trans q2.symm
   have Z5:Hid (w5.cell? ⟨w.heap.size,0,none⟩=some (.int .i64 0)/\w5.cell? ⟨w.heap.size,1,none⟩=some (.int .i64 0)/\w5.cell? ⟨w.heap.size,2,none⟩=some (.int .i64 0)/\w5.cell? ⟨w.heap.size,3,none⟩=some (.int .i64 0)):=⟨(World.cell?_of_block hz5).trans HZ.out.1,(World.cell?_of_block hz5).trans HZ.out.2.1,(World.cell?_of_block hz5).trans HZ.out.2.2.1,(World.cell?_of_block hz5).trans HZ.out.2.2.2⟩
   have ZF5:Hid (∀o,w5.frozen? ⟨w.heap.size,o,none⟩=false):=fun o=>(World.frozen?_of_block hz5).trans (HZF.out o)
   have hl5:w.heap.size<w5.heap.size:=World.block_lt_of_cell? _ _ Z5.out.1
   rw[HMM.out]at HMap
   simp only[Pg.Mp.val]at HMap
   have F1:Hid (FrAt w5 b (S.store st pl (Pg.enc true true r eu ed ef (lv:Int))) F5):=f1
   have F2:Hid (But F w w5):=(But.of_below HB2.out).trans f2 fun _ _ h=>h
   have F3:Hid (∀j,F5 j->F j\/w2.heap.size<=j):=f3
   clear h5 f1 f2 f3 HP k2 k3 k4 k5 k6 k7 hz5 HS HZ HZF
   go_wp2_with fail
   refine HMap.mono ?_
   rintro en w6 ⟨rfl,hb6⟩
   obtain⟨z0,z1,z2,z3⟩:=later4 hb6 Z5.out
   have zf:∀o,w6.frozen? ⟨w.heap.size,o,none⟩=false:=fun o=>(hb6.frozen (p:=⟨w.heap.size,o,none⟩) hl5).trans (ZF5.out o)
   have HB6:Hid _:=hb6
   clear hb6 HMap Z5 ZF5
   go_wp2_with fail
   refine bodyPost_ret (v:= .tuple #[.agg #[.int .i64 mp,.int .i64 ms,.int .i64 mf,.int .i64 mr],.int .i64 0]) ?_ rfl ⟨rfl,F5,?_,?_,fun j hj=> ?_⟩
   ·simp[results,Tryz.results92,go_sem,z0,z1,z2,z3]
   ·refine FrAt.keep (G:=fun j=>j=w.heap.size) F1.out ?_ fun j hj e=> ?_
    ·iterate 4 refine But.setCell ?_ (by exact .inr rfl) _
     exact But.of_below HB6.out
    ·rcases F3.out j hj with h|h
     ·have:=FrAt.lt H.out h;omega
     ·omega
   ·iterate 4 refine But.setCell ?_ (by exact .inl (Nat.le_refl _)) _
    exact F2.out.trans (But.of_below (F:=fun _=>False) HB6.out) fun _ _ h=>h.elim
   ·exact(F3.out j hj).imp id fun h=>by omega
  ·have e2:Pg.prM S t p r= .zz:=by rw[Pg.prM,e1,if_neg hc]
   have e3:Pg.prS S t p r=S:=by rw[Pg.prS,e1,if_neg hc]
   rw[e1,e2,e3]
   clear h e1 e2 e3 hr r4 rf4 hB1
   generalize Pg.tFC S t p=cc at*
   have hcb:(cc !=0)=true:=by simp[hc]
   clear hc
   go_enter Tryz.func92,Tryz.ntmps92
   go_wp2_with fail
   rw[<-hW1]
   clear hW1
   refine(HC _).mono ?_
   rintro en w2 ⟨rfl,hb2⟩
   obtain⟨z0,z1,z2,z3⟩:=later4 hb2 HR4.out
   have hlw:w.heap.size<W1.heap.size:=World.block_lt_of_cell? _ _ HR4.out.1
   have hlw2:w.heap.size<w2.heap.size:=World.block_lt_of_cell? _ _ z0
   have zf:∀o,w2.frozen? ⟨w.heap.size,o,none⟩=false:=fun o=>(hb2.frozen (p:=⟨w.heap.size,o,none⟩) hlw).trans (HF4.out o)
   have HB2:Hid (Below w.heap.size w w2):=zT HB1.out hb2
   clear hb2 HC HR4 HF4 HB1
   go_wp2_with fail
   refine(HW _ HB2.out).mono ?_
   rintro en w3 ⟨k,rfl,_,hb3⟩
   obtain⟨y0,y1,y2,y3⟩:=later4 hb3 ⟨z0,z1,z2,z3⟩
   have yf:∀o,w3.frozen? ⟨w.heap.size,o,none⟩=false:=fun o=>(hb3.frozen (p:=⟨w.heap.size,o,none⟩) hlw2).trans (zf o)
   have HB3:Hid (Below w.heap.size w w3):=zT HB2.out hb3
   clear hb3 z0 z1 z2 z3 zf HW
   go_wp2_with fail
   refine bodyPost_ret (v:= .tuple #[.agg #[.int .i64 0,.int .i64 0,.int .i64 0,.int .i64 0],.int .i64 cc]) ?_ rfl ⟨rfl,fin0.out _ (below_set4 HB3.out w.heap.size (Nat.le_refl _) _ _ _ _)⟩
   simp[results,Tryz.results92,go_sem,y0,y1,y2,y3]
end Go.Proofs.YtkhnelgommaioaaGreat
