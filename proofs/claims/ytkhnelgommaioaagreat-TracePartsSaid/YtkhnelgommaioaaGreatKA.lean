import Derived.Test.YtkhnelgommaioaaGreatHeap
import Derived.Test.YtkhnelgommaioaaGreatPlainKB
import Derived.Test.YtkhnelgommaioaaGreatChecked
import Derived.Test.YtkhnelgommaioaaGreatPageB
import Derived.Test.YtkhnelgommaioaaGreatMapInfo
import Derived.Test.YtkhnelgommaioaaGreatEntry
import Derived.Test.YtkhnelgommaioaaGreatLooseT
import Derived.Deep.RegionHeld3
namespace Go.Proofs.YtkhnelgommaioaaGreat
open Go.RowKit Go.Sort
set_option linter.unusedVariables false
structure WkAt (w:World) (b o:Nat) (root:Int) (K:Pg.Wk):Prop where
 c0:w.cell? ⟨b,o,none⟩=some (.int .i64 root)
 c1:w.cell? ⟨b,o+1,none⟩=some (.bool K.on)
 c2:w.cell? ⟨b,o+2,none⟩=some (.int .i64 K.q)
 c3:w.cell? ⟨b,o+3,none⟩=some (.int .i64 K.k)
 c4:w.cell? ⟨b,o+4,none⟩=some (.bool K.u)
 c5:w.cell? ⟨b,o+5,none⟩=some (.int .i64 K.t)
 c6:w.cell? ⟨b,o+6,none⟩=some (.int .i64 (K.lv:Int))
 c7:w.cell? ⟨b,o+7,none⟩=some (.int .u64 K.x)
 fb:∀p,w.frozen? ⟨b,p,none⟩=false
theorem WkAt.lb {w:World} {b o:Nat} {root:Int} {K:Pg.Wk} (h:WkAt w b o root K):b<w.heap.size:=World.block_lt_of_cell? _ _ h.c0
theorem WkAt.of_block {w w':World} {b o:Nat} {root:Int} {K:Pg.Wk} (h:WkAt w b o root K) (hk:w'.heap[b]?=w.heap[b]?):WkAt w' b o root K:=
 ⟨(World.cell?_of_block hk).trans h.c0,(World.cell?_of_block hk).trans h.c1,(World.cell?_of_block hk).trans h.c2,(World.cell?_of_block hk).trans h.c3,(World.cell?_of_block hk).trans h.c4,(World.cell?_of_block hk).trans h.c5,(World.cell?_of_block hk).trans h.c6,(World.cell?_of_block hk).trans h.c7,fun p=>(World.frozen?_of_block hk).trans (h.fb p)⟩
theorem WkAt.keep {w w':World} {b o:Nat} {root:Int} {K:Pg.Wk} {F:Nat->Prop} (h:WkAt w b o root K) (hb:But F w w') (hF:¬F b):WkAt w' b o root K:=h.of_block (hb.block b h.lb hF)
theorem WkAt.grow {w w':World} {b o:Nat} {root:Int} {K:Pg.Wk} (h:WkAt w b o root K) (hb:Below w.heap.size w w'):WkAt w' b o root K:=h.of_block (hb.block b h.lb)
structure Ch8 (b o:Nat) (F:Nat->Prop) (w w':World):Prop where
 but:But F w w'
 oth:∀p,p<o\/o+8<=p->w'.cell? ⟨b,p,none⟩=w.cell? ⟨b,p,none⟩
namespace Ch8
variable {b o:Nat} {F G:Nat->Prop} {w w1 w2:World}
theorem refl (b o:Nat) (F:Nat->Prop) (w:World):Ch8 b o F w w:=⟨But.refl _ _,fun _ _=>rfl⟩
theorem of_below (h:Below w.heap.size w w1) (hb:b<w.heap.size):Ch8 b o F w w1:=⟨But.of_below h,fun p _=>h.cell (p:=⟨b,p,none⟩) hb⟩
theorem trans (h:Ch8 b o F w w1) (k:Ch8 b o G w1 w2) (hG:∀i,i<w.heap.size->G i->F i):Ch8 b o F w w2:=
 ⟨h.but.trans k.but hG,fun p hp=>(k.oth p hp).trans (h.oth p hp)⟩
theorem mono (h:Ch8 b o F w w1) (hG:∀i,i<w.heap.size->F i->G i):Ch8 b o G w w1:=⟨h.but.mono hG,h.oth⟩
theorem of_but (h:But F w w1) (hb:b<w.heap.size) (hF:¬F b):Ch8 b o F w w1:=⟨h,fun p _=>h.cell (a:=⟨b,p,none⟩) hb hF⟩
theorem set (h:Ch8 b o F w w1) (hF:F b) (j:Nat) (hj:j<8) (v:Value):Ch8 b o F w (w1.setCell ⟨b,o+j,none⟩ v):=
 ⟨h.but.setCell (.inr hF) v,fun p hp=>(World.cell?_setCell_other _ _ _ _ (fun e=>by injection e with _ e;omega)).trans (h.oth p hp)⟩
theorem set0 (h:Ch8 b o F w w1) (hF:F b) (v:Value):Ch8 b o F w (w1.setCell ⟨b,o,none⟩ v):=h.set hF 0 (by decide) v
theorem drew (h:Ch8 b o F w w1):Ch8 b o F w w1.drew:=⟨h.but.drew,h.oth⟩
end Ch8
set_option maxRecDepth 100000
attribute [local go_sem] Loose.gent
theorem but_set9k {F:Nat->Prop} {w w1:World} (h:But F w w1) (r:Nat) (hr:w.heap.size<=r\/F r) (x0 x1 x2 x3 x4 x5 x6 x7 x8:Value):
 But F w (((((((((w1.setCell ⟨r,0,none⟩ x0).setCell ⟨r,1,none⟩ x1).setCell ⟨r,2,none⟩ x2).setCell ⟨r,3,none⟩ x3).setCell ⟨r,4,none⟩ x4).setCell ⟨r,5,none⟩ x5).setCell ⟨r,6,none⟩ x6).setCell ⟨r,7,none⟩ x7).setCell ⟨r,8,none⟩ x8):=
 ((((((((h.setCell (a:=⟨r,0,none⟩) hr x0).setCell (a:=⟨r,1,none⟩) hr x1).setCell (a:=⟨r,2,none⟩) hr x2).setCell (a:=⟨r,3,none⟩) hr x3).setCell (a:=⟨r,4,none⟩) hr x4).setCell (a:=⟨r,5,none⟩) hr x5).setCell (a:=⟨r,6,none⟩) hr x6).setCell (a:=⟨r,7,none⟩) hr x7).setCell (a:=⟨r,8,none⟩) hr x8
theorem row9 {w:World} {r:Nat} {v0 v1 v2 v3 v4 v5 v6 v7 v8:Value} {t:TypeId} (h:w.heap[r]?=some (.cells #[v0,v1,v2,v3,v4,v5,v6,v7,v8] t (0,0))):
 (w.cell? ⟨r,0,none⟩=some v0/\w.cell? ⟨r,1,none⟩=some v1/\w.cell? ⟨r,2,none⟩=some v2/\w.cell? ⟨r,3,none⟩=some v3/\w.cell? ⟨r,4,none⟩=some v4/\w.cell? ⟨r,5,none⟩=some v5/\w.cell? ⟨r,6,none⟩=some v6/\w.cell? ⟨r,7,none⟩=some v7/\w.cell? ⟨r,8,none⟩=some v8)/\∀i,w.frozen? ⟨r,i,none⟩=false:=
 ⟨by simp[World.cell?,h],fun i=>by simp[World.frozen?,h]⟩
theorem kNew_any (root:Int) (w:World):
 Calls Tryz.prog 88 #[.int .i64 root] w fun e w'=>∃b,e= .returned (.pointer (some ⟨b,0,none⟩))/\WkAt w' b 0 root Pg.Wk.off/\Below w.heap.size w w'/\w.heap.size<=b:=by
 go_enter Tryz.func88,Tryz.ntmps88
 go_wp2_with fail
 go_ret
 refine⟨_,rfl,⟨?_,?_,?_,?_,?_,?_,?_,?_,fun p=> ?_⟩,zA (zR _) _,Nat.le_refl _⟩<;>simp[go_sem,Pg.Wk.off]
section
variable {b o:Nat} {root:Int} {K:Pg.Wk}
theorem kOn_any (w:World) (h:WkAt w b o root K):
 Calls Tryz.prog 113 #[.pointer (some ⟨b,o,none⟩)] w fun e w'=>e= .returned (.bool K.on)/\w'=w:=by
 have c1:=h.c1
 clear h
 go_enter Tryz.func113,Tryz.ntmps113
 go_wp2_with fail
 go_ret
 exact⟨rfl,rfl⟩
theorem kAccess_any (w:World) (h:WkAt w b o root K):
 Calls Tryz.prog 63 #[.pointer (some ⟨b,o,none⟩)] w fun e w'=>e= .returned (.agg #[.int .i64 K.q,.int .i64 K.k,.bool K.u])/\Below w.heap.size w w':=by
 have c2:=h.c2
 have c3:=h.c3
 have c4:=h.c4
 have hl:=h.lb
 clear h
 go_enter Tryz.func63,Tryz.ntmps63
 go_wp2_with fail
 refine bodyPost_ret (v:= .agg #[.int .i64 K.q,.int .i64 K.k,.bool K.u]) ?_ rfl ⟨rfl,?_⟩
 ·simp[results,Tryz.results63,go_sem]
 ·exact zA (zR w) _
theorem WkAt.again {W:World} (h:WkAt W b o root K) (ho:K.on=true):
 WkAt (((W.setCell ⟨b,o+5,none⟩ (.int .i64 root)).setCell ⟨b,o+6,none⟩ (.int .i64 3)).setCell ⟨b,o+7,none⟩ (.int .u64 0)) b o root (K.again root)/\Ch8 b o (fun j=>j=b) W (((W.setCell ⟨b,o+5,none⟩ (.int .i64 root)).setCell ⟨b,o+6,none⟩ (.int .i64 3)).setCell ⟨b,o+7,none⟩ (.int .u64 0)):=by
 have e:K.again root={K with t:=root,lv:=3,x:=0}:=by simp[Pg.Wk.again,ho]
 obtain⟨c0,c1,c2,c3,c4,c5,c6,c7,fb⟩:=h
 rw[e]
 refine⟨⟨?_,?_,?_,?_,?_,?_,?_,?_,fun p=> ?_⟩,(((Ch8.refl b o (fun j=>j=b) W).set rfl 5 (by decide) _).set rfl 6 (by decide) _).set rfl 7 (by decide) _⟩<;>simp[go_sem,c0,c1,c2,c3,c4,c5,c6,c7,fb]
theorem kAgain_any (w:World) (h:WkAt w b o root K):
 Calls Tryz.prog 181 #[.pointer (some ⟨b,o,none⟩)] w fun e w'=>e= .returned (.tuple #[])/\WkAt w' b o root (K.again root)/\Ch8 b o (fun j=>j=b) w w':=by
 cases ho:K.on
 ·have e:K.again root=K:=by simp[Pg.Wk.again,ho]
  rw[e]
  have c1:=h.c1
  rw[ho]at c1
  have HF:Hid (WkAt w b o root K/\Ch8 b o (fun j=>j=b) w w):=⟨h,Ch8.refl _ _ _ _⟩
  clear h ho e
  go_enter Tryz.func181,Tryz.ntmps181
  go_wp2_with fail
  go_end0
  exact⟨rfl,HF.out⟩
 ·have HF:Hid _:=h.again ho
  have c0:=h.c0
  have c1:=h.c1
  have c5:=h.c5
  have c6:=h.c6
  have c7:=h.c7
  have fb:=h.fb
  rw[ho]at c1
  clear h ho
  go_enter Tryz.func181,Tryz.ntmps181
  go_wp2_with fail
  go_end0
  exact⟨rfl,HF.out⟩
theorem kPlace_any (w:World) (h:WkAt w b o root K):
 Calls Tryz.prog 208 #[.pointer (some ⟨b,o,none⟩)] w fun e w'=>e= .returned (.int .i64 (Pg.index K.q K.lv))/\Below w.heap.size w w':=by
 have c2:=cell_regrown h.c2
 have c6:=cell_regrown h.c6
 have HI:=fun w=>below_of_same (index_any K.q K.lv w)
 clear h
 go_enter Tryz.func208,Tryz.ntmps208
 go_wp2_with fail
 refine wp_region_quiet_below (by kernel_rfl) (by kernel_rfl) ?_
 repeat (first
  | go_big_quiet_step ((go_at_call 197;exact Calls.regrown_of (HI _))))
 refine wpQuiet_nil ?_
 intro _ hw'
 obtain⟨⟨dq,osq⟩,rfl⟩:=hw'
 go_wp2_with fail
 go_ret
 exact⟨rfl,below_regrown w dq osq⟩
theorem kMarked_any (e:Pg.En) (w:World) (h:WkAt w b o root K):
 Calls Tryz.prog 206 #[.pointer (some ⟨b,o,none⟩),e.val] w fun x w'=>x= .returned (K.mark e).val/\Below w.heap.size w w':=by
 have c3:=h.c3
 have hl:=h.lb
 have hne:b≠w.heap.size:=by omega
 clear h
 obtain⟨t,l,r,u,d,f⟩:=e
 cases d
 ·cases hk:(K.k==1)
  all_goals
   have HV:Hid _:=hk
   simp only[Pg.En.val,Pg.Wk.mark,hk,Bool.or_false,Bool.or_true]
   go_enter Tryz.func206,Tryz.ntmps206
   go_wp2_with fail
   refine bodyPost_ret (v:= .agg #[.bool t,.bool l,.int .i64 r,.bool true,.bool _,.int .i64 f]) ?_ rfl ⟨rfl,?_⟩
   ·simp[results,Tryz.results206,go_sem]
   ·exact zA (zA (zR w) _) _
 ·simp only[Pg.En.val,Pg.Wk.mark,Bool.true_or]
  go_enter Tryz.func206,Tryz.ntmps206
  go_wp2_with fail
  refine bodyPost_ret (v:= .agg #[.bool t,.bool l,.int .i64 r,.bool true,.bool true,.int .i64 f]) ?_ rfl ⟨rfl,?_⟩
  ·simp[results,Tryz.results206,go_sem]
  ·exact zA (zA (zR w) _) _
theorem WkAt.ended {W:World} (h:WkAt W b o root K):
 WkAt ((((((((W.setCell ⟨b,o,none⟩ (.int .i64 root)).setCell ⟨b,o+1,none⟩ (.bool false)).setCell ⟨b,o+2,none⟩ (.int .i64 0)).setCell ⟨b,o+3,none⟩ (.int .i64 0)).setCell ⟨b,o+4,none⟩ (.bool false)).setCell ⟨b,o+5,none⟩ (.int .i64 0)).setCell ⟨b,o+6,none⟩ (.int .i64 0)).setCell ⟨b,o+7,none⟩ (.int .u64 0)) b o root Pg.Wk.off/\
 Ch8 b o (fun j=>j=b) W ((((((((W.setCell ⟨b,o,none⟩ (.int .i64 root)).setCell ⟨b,o+1,none⟩ (.bool false)).setCell ⟨b,o+2,none⟩ (.int .i64 0)).setCell ⟨b,o+3,none⟩ (.int .i64 0)).setCell ⟨b,o+4,none⟩ (.bool false)).setCell ⟨b,o+5,none⟩ (.int .i64 0)).setCell ⟨b,o+6,none⟩ (.int .i64 0)).setCell ⟨b,o+7,none⟩ (.int .u64 0)):=by
 obtain⟨c0,c1,c2,c3,c4,c5,c6,c7,fb⟩:=h
 refine⟨⟨?_,?_,?_,?_,?_,?_,?_,?_,fun p=> ?_⟩,((((((((Ch8.refl b o (fun j=>j=b) W).set0 rfl _).set rfl 1 (by decide) _).set rfl 2 (by decide) _).set rfl 3 (by decide) _).set rfl 4 (by decide) _).set rfl 5 (by decide) _).set rfl 6 (by decide) _).set rfl 7 (by decide) _⟩<;>simp[go_sem,c0,c1,c2,c3,c4,c5,c6,c7,fb,Pg.Wk.off]
theorem fin8 {F:Nat->Prop} {w W W':World} (h:WkAt W b o root K/\Ch8 b o F w W) (hb:Below W.heap.size W W'):WkAt W' b o root K/\Ch8 b o F w W':=
 ⟨h.1.grow hb,h.2.trans (Ch8.of_below (F:=F) hb h.1.lb) fun _ _ hi=>hi⟩
theorem fin9 {w W:World} {r:Nat} (hr:¬r=b) (hw:w.heap.size<=r) (h:WkAt W b o root K/\Ch8 b o (fun j=>j=b) w W) (v0 v1 v2 v3 v4 v5 v6 v7 v8:Value):
 WkAt (((((((((W.setCell ⟨r,0,none⟩ v0).setCell ⟨r,1,none⟩ v1).setCell ⟨r,2,none⟩ v2).setCell ⟨r,3,none⟩ v3).setCell ⟨r,4,none⟩ v4).setCell ⟨r,5,none⟩ v5).setCell ⟨r,6,none⟩ v6).setCell ⟨r,7,none⟩ v7).setCell ⟨r,8,none⟩ v8) b o root K/\
 Ch8 b o (fun j=>j=b) w (((((((((W.setCell ⟨r,0,none⟩ v0).setCell ⟨r,1,none⟩ v1).setCell ⟨r,2,none⟩ v2).setCell ⟨r,3,none⟩ v3).setCell ⟨r,4,none⟩ v4).setCell ⟨r,5,none⟩ v5).setCell ⟨r,6,none⟩ v6).setCell ⟨r,7,none⟩ v7).setCell ⟨r,8,none⟩ v8):=by
 have hb:=but_set9k (F:=fun j=>j=r) (But.refl _ W) r (.inr rfl) v0 v1 v2 v3 v4 v5 v6 v7 v8
 have hne:¬b=r:=fun e=>hr e.symm
 refine⟨h.1.keep hb hne,?_,fun p hp=> ?_⟩
 ·exact but_set9k h.2.but r (.inl hw) v0 v1 v2 v3 v4 v5 v6 v7 v8
 ·exact(hb.cell (a:=⟨b,p,none⟩) h.1.lb hne).trans (h.2.oth p hp)
theorem kEnd_any (a f r:Int) (m:Pg.Mp) (d:Bool) (w:World) (h:WkAt w b o root K):
 Calls Tryz.prog 210 #[.pointer (some ⟨b,o,none⟩),.agg #[.int .i64 a,.int .i64 f,.int .i64 r],.agg #[.int .i64 m.p,.int .i64 m.s,.int .i64 m.f,.int .i64 m.r,.bool d]] w fun e w'=>e= .returned (Pg.Rs.val ⟨true,a,f,r,m,d⟩)/\WkAt w' b o root Pg.Wk.off/\Ch8 b o (fun j=>j=b) w w':=by
 have c0:=h.c0
 have c1:=h.c1
 have c2:=h.c2
 have c3:=h.c3
 have c4:=h.c4
 have c5:=h.c5
 have c6:=h.c6
 have c7:=h.c7
 have fb:=h.fb
 have hl:=h.lb
 have hl1:b<w.heap.size+1:=by omega
 have hl2:b<w.heap.size+1+1:=by omega
 have n0:b≠w.heap.size:=by omega
 have n1:b≠w.heap.size+1:=by omega
 have n2:b≠w.heap.size+1+1:=by omega
 have m0:w.heap.size≠b:=by omega
 have m1:w.heap.size+1≠b:=by omega
 have m2:w.heap.size+1+1≠b:=by omega
 have HK:Hid _:=h
 clear h
 obtain⟨mp,ms,mf,mr⟩:=m
 have HF:=HK.out.ended
 go_enter Tryz.func210,Tryz.ntmps210
 go_wp2_with fail
 refine bodyPost_ret (v:= .agg #[.bool true,.int .i64 a,.int .i64 f,.int .i64 r,.int .i64 mp,.int .i64 ms,.int .i64 mf,.int .i64 mr,.bool d]) ?_ rfl ⟨rfl,fin8 HF (zA (zA (zA (zR _) _) _) _)⟩
 simp[results,Tryz.results210,go_sem]
set_option maxHeartbeats 1000000 in
theorem kDone_any (e:Pg.En) (w:World) (h:WkAt w b o root K) (m:Bool):
 Calls Tryz.prog 209 #[.pointer (some ⟨b,o,none⟩),e.val] w fun x w'=>x= .returned ((Pg.Wo.done e m).res K).val/\WkAt w' b o root Pg.Wk.off/\Ch8 b o (fun j=>j=b) w w':=by
 obtain⟨W,hW⟩:∃W,W=(w.alloc (.cells #[.bool e.t,.bool e.l,.int .i64 e.r,.bool e.u,.bool e.d,.int .i64 e.f] 70)).alloc (.cells #[.bool false,.int .i64 0,.int .i64 0,.int .i64 0,.int .i64 0,.int .i64 0,.int .i64 0,.int .i64 0,.bool false] 234):=⟨_,rfl⟩
 have hBW:Below w.heap.size w W:=by rw[hW];exact zA (zA (zR w) _) _
 have HBW:Hid _:=hBW
 have hl:=h.lb
 have hWs:W.heap.size=w.heap.size+1+1:=by rw[hW];simp
 have HKW:Hid _:=h.grow hBW
 have e6:W.cell? ⟨w.heap.size,0,none⟩=some (.bool e.t)/\W.cell? ⟨w.heap.size,1,none⟩=some (.bool e.l)/\W.cell? ⟨w.heap.size,2,none⟩=some (.int .i64 e.r)/\W.cell? ⟨w.heap.size,3,none⟩=some (.bool e.u)/\W.cell? ⟨w.heap.size,4,none⟩=some (.bool e.d)/\W.cell? ⟨w.heap.size,5,none⟩=some (.int .i64 e.f):=by rw[hW];simp[go_sem]
 have E6:Hid _:=e6
 have r9:W.heap[w.heap.size+1]?=some (.cells #[.bool false,.int .i64 0,.int .i64 0,.int .i64 0,.int .i64 0,.int .i64 0,.int .i64 0,.int .i64 0,.bool false] 234 (0,0)):=by rw[hW];exact(by simp:(w.alloc (.cells #[.bool e.t,.bool e.l,.int .i64 e.r,.bool e.u,.bool e.d,.int .i64 e.f] 70)).heap.size=w.heap.size+1)▸heap_alloc_new _ _
 have R9:Hid _:=r9
 have HM:=fun w=>eMap_any e.t e.l e.r e.u e.d e.f K.lv K.q w
 have HV:Hid (Pg.mapV e.t e.l e.r e.u e.d e.f K.lv K.q=(e.map K.lv K.q).val):=rfl
 rw[HV.out]at HM
 have HR:Hid ((Pg.Wo.done e m).res K=⟨true,Pg.aEnd (e.map K.lv K.q).r K.k K.u,Pg.aFrame (e.map K.lv K.q).p (e.map K.lv K.q).f (e.map K.lv K.q).r K.q K.k K.u,Pg.aRights (e.map K.lv K.q).r K.k K.u,e.map K.lv K.q,e.d⟩):=rfl
 rw[HR.out]
 generalize e.map K.lv K.q=mm at*
 obtain⟨mp,ms,mf,mr⟩:=mm
 have HA:=fun W'=>answer_any mp ms mf mr K.q K.k K.u W'
 simp only
 generalize Pg.aEnd mr K.k K.u=aa at*
 generalize Pg.aFrame mp mf mr K.q K.k K.u=af at*
 generalize Pg.aRights mr K.k K.u=ar at*
 have k2:=fun d os=>cell_regrown HKW.out.c2 d os
 have k6:=fun d os=>cell_regrown HKW.out.c6 d os
 have y:=fun d os=>later6 (below_regrown W d os) e6
 clear h hBW e6 r9 HV HR
 obtain⟨et,el,er,eu,ed,ef⟩:=e
 simp only at hW y HM
 simp only[Pg.En.val,Pg.Mp.val]at HM ⊢
 go_enter Tryz.func209,Tryz.ntmps209
 go_wp2_with fail
 rw[<-hW]
 clear hW
 refine Loose.wp_region_alloc 11 5 (.cells #[.int .i64 0,.int .i64 0,.int .i64 0,.int .i64 0] 39) _ (by kernel_rfl) (by kernel_rfl) rfl rfl rfl (by intro a w;simp[go_sem]) ?_
 simp only[List.take_succ_cons,List.take_zero,List.drop_succ_cons,List.drop_zero]
 repeat (
  refine Loose.zS (fun k hk=> ?_)
  go_simp
  first
   | (refine hk _ ?_;clear hk k)
   | (apply Exists.intro
      refine⟨fun _=> ?_,hk _ ?_⟩
      (go_at_call 153;exact Loose.calls (HM _))
      clear hk k))
 refine Loose.wpGent_nil ?_
 intro bm w1 hb1 hbl hX
 have cb:w1.cell? ⟨bm,0,none⟩=some (.int .i64 0)/\w1.cell? ⟨bm,1,none⟩=some (.int .i64 0)/\w1.cell? ⟨bm,2,none⟩=some (.int .i64 0)/\w1.cell? ⟨bm,3,none⟩=some (.int .i64 0):=by
  simp[World.cell?,hX]
 obtain⟨cb0,cb1,cb2,cb3⟩:=cb
 have fb:∀i,w1.frozen? ⟨bm,i,none⟩=false:=fun i=>by simp[World.frozen?,hX]
 obtain⟨W2,hW2⟩:∃W2,W2=(((w1.setCell ⟨bm,0,none⟩ (.int .i64 mp)).setCell ⟨bm,1,none⟩ (.int .i64 ms)).setCell ⟨bm,2,none⟩ (.int .i64 mf)).setCell ⟨bm,3,none⟩ (.int .i64 mr):=⟨_,rfl⟩
 have hB2:Below W.heap.size W W2:=by rw[hW2];exact below_set4 hb1 _ hbl _ _ _ _
 have m4:W2.cell? ⟨bm,0,none⟩=some (.int .i64 mp)/\W2.cell? ⟨bm,1,none⟩=some (.int .i64 ms)/\W2.cell? ⟨bm,2,none⟩=some (.int .i64 mf)/\W2.cell? ⟨bm,3,none⟩=some (.int .i64 mr):=by
  rw[hW2];simp[go_sem,cb0,cb1,cb2,cb3]
 obtain⟨m0,m1,m2,m3⟩:=m4
 have HK2:Hid _:=HKW.out.grow hB2
 have HC2:Hid (Ch8 b o (fun j=>j=b) w W2):=Ch8.of_below (zT HBW.out hB2) hl
 have d4:=cell_later hB2 E6.out.2.2.2.2.1
 have c2:=HK2.out.c2
 have c3:=HK2.out.c3
 have c4:=HK2.out.c4
 have R2:Hid (W2.heap[w.heap.size+1]?=_):=(hB2.block _ (by omega)).trans R9.out
 have hl2:b<W2.heap.size:=HK2.out.lb
 have hr2:w.heap.size+1<W2.heap.size:=by have:=hB2.size;omega
 have hrb:¬w.heap.size+1=b:=by omega
 clear hX hbl hb1 hB2 k2 k6 y HM R9 E6
 go_wp2_with fail
 rw[<-hW2]
 clear hW2 cb0 cb1 cb2 cb3 fb
 have HE:=fun W' (hb:Below W2.heap.size W2 W')=>kEnd_any aa af ar ⟨mp,ms,mf,mr⟩ ed W' (HK2.out.grow hb)
 simp only[Pg.Rs.val]at HE
 have g0:=cell_regrown m0
 have g1:=cell_regrown m1
 have g2:=cell_regrown m2
 have g3:=cell_regrown m3
 have g4:=cell_regrown d4
 have g5:=cell_regrown c2
 have g6:=cell_regrown c3
 have g7:=cell_regrown c4
 clear m0 m1 m2 m3 d4 c2 c3 c4
 refine Loose.wp_region_late 11 (by kernel_rfl) (by kernel_rfl) ?_
 simp only[List.take_succ_cons,List.take_zero,List.drop_succ_cons,List.drop_zero]
 repeat (
  refine Loose.zS (fun k hk=> ?_)
  go_simp
  first
   | (refine hk _ ?_;clear hk k)
   | (apply Exists.intro
      refine⟨fun _=> ?_,hk _ ?_⟩
      (go_at_call 144;exact Loose.calls (HA _))
      clear hk k))
 refine Loose.wpGent_nil ?_
 intro w3 hb3
 have HB3:Hid (Below W2.heap.size W2 w3):=hb3
 clear hb3 g0 g1 g2 g3 g4 g5 g6 g7 HA
 go_wp2_with fail
 refine(HE _ HB3.out).mono ?_
 rintro en w4 ⟨rfl,hk4,hc4⟩
 have HK4:Hid _:=hk4
 have HC4:Hid (Ch8 b o (fun j=>j=b) W2 w4):=(Ch8.of_below HB3.out hl2).trans hc4 (fun _ _ h=>h)
 obtain⟨⟨x0,x1,x2,x3,x4,x5,x6,x7,x8⟩,xf⟩:=row9 ((HC4.out.but.block _ hr2 hrb).trans R2.out)
 clear hk4 hc4
 have hr4:w.heap.size+1<w4.heap.size:=Nat.lt_of_lt_of_le hr2 HC4.out.but.size
 have HF:Hid (∀v0 v1 v2 v3 v4 v5 v6 v7 v8,WkAt (((((((((w4.setCell ⟨w.heap.size+1,0,none⟩ v0).setCell ⟨w.heap.size+1,1,none⟩ v1).setCell ⟨w.heap.size+1,2,none⟩ v2).setCell ⟨w.heap.size+1,3,none⟩ v3).setCell ⟨w.heap.size+1,4,none⟩ v4).setCell ⟨w.heap.size+1,5,none⟩ v5).setCell ⟨w.heap.size+1,6,none⟩ v6).setCell ⟨w.heap.size+1,7,none⟩ v7).setCell ⟨w.heap.size+1,8,none⟩ v8) b o root Pg.Wk.off/\Ch8 b o (fun j=>j=b) w (((((((((w4.setCell ⟨w.heap.size+1,0,none⟩ v0).setCell ⟨w.heap.size+1,1,none⟩ v1).setCell ⟨w.heap.size+1,2,none⟩ v2).setCell ⟨w.heap.size+1,3,none⟩ v3).setCell ⟨w.heap.size+1,4,none⟩ v4).setCell ⟨w.heap.size+1,5,none⟩ v5).setCell ⟨w.heap.size+1,6,none⟩ v6).setCell ⟨w.heap.size+1,7,none⟩ v7).setCell ⟨w.heap.size+1,8,none⟩ v8)):=by
  intro v0 v1 v2 v3 v4 v5 v6 v7 v8
  exact fin9 hrb (by omega) ⟨HK4.out,HC2.out.trans HC4.out fun _ _ h=>h⟩ _ _ _ _ _ _ _ _ _
 go_wp2_with fail
 refine bodyPost_ret (v:= .agg #[.bool true,.int .i64 aa,.int .i64 af,.int .i64 ar,.int .i64 mp,.int .i64 ms,.int .i64 mf,.int .i64 mr,.bool ed]) ?_ rfl ⟨rfl,HF.out _ _ _ _ _ _ _ _ _⟩
 simp[results,Tryz.results209,go_sem,x0,x1,x2,x3,x4,x5,x6,x7,x8]
end
end Go.Proofs.YtkhnelgommaioaaGreat
