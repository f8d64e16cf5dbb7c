import Derived.Test.YtkhnelgommaioaaGreatPlainT
import Derived.Test.YtkhnelgommaioaaGreatEntry
import Derived.Test.YtkhnelgommaioaaGreatPageB
import Derived.Deep.RegionHeld3
import Derived.Deep.AppendLies
import Derived.Deep.RegionWith
namespace Go.Proofs.YtkhnelgommaioaaGreat
open Go.RowKit Go.Sort
set_option linter.unusedVariables false
set_option linter.unusedSimpArgs false
set_option maxRecDepth 100000
structure Mk (w:World) (B k b:Nat) (lv:Int) (e:Pg.En) (v1 v2:Value) (ts ps:List Int) (p:Int):Prop where
 c0:w.cell? ⟨k,0,none⟩=some (.pointer (some ⟨b,0,none⟩))
 c1:w.cell? ⟨k,1,none⟩=some (.int .i64 lv)
 c2:w.cell? ⟨k,2,none⟩=some (.bool e.t)
 c3:w.cell? ⟨k,3,none⟩=some (.bool e.l)
 c4:w.cell? ⟨k,4,none⟩=some (.int .i64 e.r)
 c5:w.cell? ⟨k,5,none⟩=some (.bool e.u)
 c6:w.cell? ⟨k,6,none⟩=some (.bool e.d)
 c7:w.cell? ⟨k,7,none⟩=some (.int .i64 e.f)
 c8:w.cell? ⟨k,8,none⟩=some v1
 c9:w.cell? ⟨k,9,none⟩=some v2
 c10:w.cell? ⟨k,10,none⟩=some (.int .i64 p)
 fz:∀o,w.frozen? ⟨k,o,none⟩=false
 o1:w.ownsRow B 3 1 v1 ts.length (ints ts)
 o2:w.ownsRow B 3 1 v2 ps.length (ints ps)
 ne:∀j,v1.ownBlock=some j->v2.ownBlock≠some j
 n1:v1.ownBlock≠some k
 n2:v2.ownBlock≠some k
 hi:B<=k
def mkF (k:Nat) (v1 v2:Value):Nat->Prop:=fun j=>j=k\/v1.ownBlock=some j\/v2.ownBlock=some j
namespace Mk
variable {w w':World} {B k b:Nat} {lv:Int} {e:Pg.En} {v1 v2:Value} {ts ps:List Int} {p:Int}
theorem lb (h:Mk w B k b lv e v1 v2 ts ps p):k<w.heap.size:=World.block_lt_of_cell? _ _ h.c0
theorem lt (h:Mk w B k b lv e v1 v2 ts ps p) {j:Nat} (hj:mkF k v1 v2 j):B<=j/\j<w.heap.size:=by
 rcases hj with rfl|hj|hj
 ·exact⟨h.hi,h.lb⟩
 ·exact h.o1.lt j hj
 ·exact h.o2.lt j hj
theorem keep (h:Mk w B k b lv e v1 v2 ts ps p) {G:Nat->Prop} (hb:But G w w') (hG:∀j,mkF k v1 v2 j->¬G j):Mk w' B k b lv e v1 v2 ts ps p:=by
 have hk:w'.heap[k]?=w.heap[k]?:=hb.block k h.lb (hG k (.inl rfl))
 have c:∀{o:Nat} {v:Value},w.cell? ⟨k,o,none⟩=some v->w'.cell? ⟨k,o,none⟩=some v:=fun e=>(World.cell?_of_block hk).trans e
 exact⟨c h.c0,c h.c1,c h.c2,c h.c3,c h.c4,c h.c5,c h.c6,c h.c7,c h.c8,c h.c9,c h.c10,fun o=>(World.frozen?_of_block hk).trans (h.fz o),
  ownsMaps_but h.o1 hb fun j hj=>hG j (.inr (.inl hj)),ownsMaps_but h.o2 hb fun j hj=>hG j (.inr (.inr hj)),h.ne,h.n1,h.n2,h.hi⟩
theorem grow (h:Mk w B k b lv e v1 v2 ts ps p) (hb:Below w.heap.size w w'):Mk w' B k b lv e v1 v2 ts ps p:=h.keep (G:=fun _=>False) (But.of_below hb) fun _ _=>id
theorem setCell (h:Mk w B k b lv e v1 v2 ts ps p) (o:Nat) (v:Value):
 (∀o',o'≠o->(w.setCell ⟨k,o,none⟩ v).cell? ⟨k,o',none⟩=w.cell? ⟨k,o',none⟩)/\(w.setCell ⟨k,o,none⟩ v).ownsRow B 3 1 v1 ts.length (ints ts)/\(w.setCell ⟨k,o,none⟩ v).ownsRow B 3 1 v2 ps.length (ints ps):=by
 refine⟨fun o' ho=>World.cell?_setCell_other _ _ _ _ (fun e=>ho (by injection e with _ e;exact e.symm)),?_,?_⟩
 ·exact owns_of_block h.o1 fun j hj=>Below.heap_setCell _ _ _ _ fun e=>h.n1 (by rw[hj,e])
 ·exact owns_of_block h.o2 fun j hj=>Below.heap_setCell _ _ _ _ fun e=>h.n2 (by rw[hj,e])
theorem setLv (h:Mk w B k b lv e v1 v2 ts ps p) (lv':Int):Mk (w.setCell ⟨k,1,none⟩ (.int .i64 lv')) B k b lv' e v1 v2 ts ps p:=by
 obtain⟨hc,q1,q2⟩:=h.setCell 1 (.int .i64 lv')
 exact⟨(hc 0 (by decide)).trans h.c0,World.cell?_setCell_same _ _ _ h.c1,(hc 2 (by decide)).trans h.c2,(hc 3 (by decide)).trans h.c3,(hc 4 (by decide)).trans h.c4,(hc 5 (by decide)).trans h.c5,(hc 6 (by decide)).trans h.c6,(hc 7 (by decide)).trans h.c7,(hc 8 (by decide)).trans h.c8,(hc 9 (by decide)).trans h.c9,(hc 10 (by decide)).trans h.c10,
  fun o=>by rw[World.frozen?_setCell];exact h.fz o,q1,q2,h.ne,h.n1,h.n2,h.hi⟩
theorem setE (h:Mk w B k b lv e v1 v2 ts ps p) (e':Pg.En):Mk ((((((w.setCell ⟨k,2,none⟩ (.bool e'.t)).setCell ⟨k,3,none⟩ (.bool e'.l)).setCell ⟨k,4,none⟩ (.int .i64 e'.r)).setCell ⟨k,5,none⟩ (.bool e'.u)).setCell ⟨k,6,none⟩ (.bool e'.d)).setCell ⟨k,7,none⟩ (.int .i64 e'.f)) B k b lv e' v1 v2 ts ps p:=by
 have hb:But (fun j=>j=k) w ((((((w.setCell ⟨k,2,none⟩ (.bool e'.t)).setCell ⟨k,3,none⟩ (.bool e'.l)).setCell ⟨k,4,none⟩ (.int .i64 e'.r)).setCell ⟨k,5,none⟩ (.bool e'.u)).setCell ⟨k,6,none⟩ (.bool e'.d)).setCell ⟨k,7,none⟩ (.int .i64 e'.f)):=
  ((((((But.refl (fun j=>j=k) w).setCell (a:=⟨k,2,none⟩) (.inr rfl) _).setCell (a:=⟨k,3,none⟩) (.inr rfl) _).setCell (a:=⟨k,4,none⟩) (.inr rfl) _).setCell (a:=⟨k,5,none⟩) (.inr rfl) _).setCell (a:=⟨k,6,none⟩) (.inr rfl) _).setCell (a:=⟨k,7,none⟩) (.inr rfl) _
 refine⟨?_,?_,?_,?_,?_,?_,?_,?_,?_,?_,?_,fun o=> ?_,ownsMaps_but h.o1 hb fun j hj e=>h.n1 (by rw[hj,e]),ownsMaps_but h.o2 hb fun j hj e=>h.n2 (by rw[hj,e]),h.ne,h.n1,h.n2,h.hi⟩<;>
  simp[go_sem,h.c0,h.c1,h.c2,h.c3,h.c4,h.c5,h.c6,h.c7,h.c8,h.c9,h.c10,h.fz]
end Mk
structure St (w0 w:World) (k b:Nat) (F0:Nat->Prop) (S:Pg.Fs) (lv:Int) (e:Pg.En) (ts ps:List Int) (p:Int):Prop where
 body:∃B v1 v2 F,Mk w B k b lv e v1 v2 ts ps p/\FrAt w b S F/\But F0 w0 w/\(∀j,F j->F0 j\/w0.heap.size<=j)/\(∀j,F j->¬mkF k v1 v2 j)/\B<=w.heap.size/\∀j,mkF k v1 v2 j->F0 j\/w0.heap.size<=j
namespace St
variable {w0 w w':World} {k b:Nat} {F0:Nat->Prop} {S:Pg.Fs} {lv:Int} {e:Pg.En} {ts ps:List Int} {p:Int}
theorem grow (h:St w0 w k b F0 S lv e ts ps p) (hb:Below w.heap.size w w'):St w0 w' k b F0 S lv e ts ps p:=by
 obtain⟨B,v1,v2,F,hM,hF,hB,h1,h2,hBB,hm⟩:=h.body
 exact⟨B,v1,v2,F,hM.grow hb,hF.keep (G:=fun _=>False) (But.of_below hb) fun _ _=>id,hB.trans (But.of_below (F:=fun _=>False) hb) fun _ _ h=>h.elim,h1,h2,Nat.le_trans hBB hb.size,hm⟩
theorem but (h:St w0 w k b F0 S lv e ts ps p):But F0 w0 w:=by
 obtain⟨B,v1,v2,F,hM,hF,hB,h1,h2,hBB,hm⟩:=h.body
 exact hB
theorem lb (h:St w0 w k b F0 S lv e ts ps p):k<w.heap.size:=by
 obtain⟨B,v1,v2,F,hM,hF,hB,h1,h2,hBB,hm⟩:=h.body
 exact hM.lb
theorem leaves (h:St w0 w k b F0 S lv e ts ps p):∃F,FrAt w b S F/\But F0 w0 w/\∀j,F j->F0 j\/w0.heap.size<=j:=by
 obtain⟨B,v1,v2,F,hM,hF,hB,h1,h2,hBB,hm⟩:=h.body
 exact⟨F,hF,hB,h1⟩
end St
set_option maxHeartbeats 1000000 in
theorem newMaker_any {b:Nat} {S:Pg.Fs} {F:Nat->Prop} (t p:Int) (w:World) (h:FrAt w b S F):
 Calls Tryz.prog 156 #[.pointer (some ⟨b,0,none⟩),.int .i64 t,.int .i64 p] w fun en w'=>∃k,en= .returned (.tuple #[.pointer (some ⟨k,0,none⟩),.int .i64 (fndC S t p)])/\St w w' k b F S (lastL (fndX S t p)) (lastE (fndX S t p)) (tabs (fndX S t p)) (plcs (fndX S t p)) p/\Below w.heap.size w w':=by
 have HF:=wFind_own t p w h
 have H:Hid (FrAt w b S F):=h
 clear h
 have htl:=tabs_len (fndX S t p)
 have hpl:=plcs_len (fndX S t p)
 generalize fndX S t p=X at*
 generalize fndC S t p=c at*
 unfold spotV at HF
 generalize lastL X=lv at*
 generalize lastE X=e at*
 go_enter Tryz.func156,Tryz.ntmps156
 go_wp2_with fail
 refine HF.mono ?_
 rintro en w1 ⟨v1,v2,rfl,o1,o2,hne,hb⟩
 obtain⟨a1,c1,rfl⟩:=zF o1
 obtain⟨a2,c2,rfl⟩:=zF o2
 have HO1:Hid (w1.ownsRow w.heap.size 3 1 (.slice a1 X.length c1) (tabs X).length (ints (tabs X))):=by rw[htl];exact o1
 have HO2:Hid (w1.ownsRow w.heap.size 3 1 (.slice a2 X.length c2) (plcs X).length (ints (plcs X))):=by rw[hpl];exact o2
 have HN:Hid _:=hne
 have HB:Hid _:=hb
 clear o1 o2 hne hb HF
 go_wp2_with fail
 go_ret2
 have hB1:Below w.heap.size w (w1.alloc (.cells #[.int .i64 lv,.bool e.t,.bool e.l,.int .i64 e.r,.bool e.u,.bool e.d,.int .i64 e.f,.slice a1 X.length c1,.slice a2 X.length c2] 213)):=zA HB.out _
 have hB2:=zA hB1 (.cells #[.pointer (some ⟨b,0,none⟩),.int .i64 lv,.bool e.t,.bool e.l,.int .i64 e.r,.bool e.u,.bool e.d,.int .i64 e.f,.slice a1 X.length c1,.slice a2 X.length c2,.int .i64 p] 215)
 have hsz:=HB.out.size
 refine⟨w1.heap.size+1,rfl,⟨w.heap.size,.slice a1 X.length c1,.slice a2 X.length c2,F,⟨?_,?_,?_,?_,?_,?_,?_,?_,?_,?_,?_,fun o=> ?_,(HO1.out.alloc _).alloc _,(HO2.out.alloc _).alloc _,HN.out,fun e=> ?_,fun e=> ?_,by omega⟩,?_,?_,?_,?_,hB2.size,?_⟩,hB2⟩
 iterate 12 (focus (simp[go_sem]))
 ·have:=(World.ownsRow.lt HO1.out _ e).2;omega
 ·have:=(World.ownsRow.lt HO2.out _ e).2;omega
 ·exact FrAt.keep (G:=fun _=>False) H.out (But.of_below hB2) fun _ _=>id
 ·exact But.of_below hB2
 ·exact fun j hj=> .inl hj
 ·intro j hj hm
  have:=FrAt.lt H.out hj
  rcases hm with rfl|hm|hm
  ·omega
  ·have:=(World.ownsRow.lt HO1.out _ hm).1;omega
  ·have:=(World.ownsRow.lt HO2.out _ hm).1;omega
 ·intro j hm
  right
  rcases hm with rfl|hm|hm
  ·omega
  ·exact(World.ownsRow.lt HO1.out _ hm).1
  ·exact(World.ownsRow.lt HO2.out _ hm).1
theorem end_any {w0 w:World} {k b:Nat} {F0:Nat->Prop} {S:Pg.Fs} {lv:Int} {e:Pg.En} {ts ps:List Int} {p:Int} (h:St w0 w k b F0 S lv e ts ps p) (hl:ts.length<=5000):
 Calls Tryz.prog 171 #[.pointer (some ⟨k,0,none⟩)] w fun en w'=>en= .returned (.int .i64 ((ts.length:Int)-1))/\w'=w:=by
 obtain⟨B,v1,v2,F,hM,hF,hB,h1,h2,hBB,hm⟩:=h.body
 obtain⟨a1,c1,rfl⟩:=zF hM.o1
 have c8:=hM.c8
 clear hM hF hB h1 h2 h hBB hm
 generalize ts.length=n at*
 go_enter Tryz.func171,Tryz.ntmps171
 go_wp2_with fail
 go_ret
 exact⟨rfl,rfl⟩
theorem isBelowRoot_any {w0 w:World} {k b:Nat} {F0:Nat->Prop} {S:Pg.Fs} {lv:Int} {e:Pg.En} {ts ps:List Int} {p:Int} (h:St w0 w k b F0 S lv e ts ps p) (hl:ts.length<=5000):
 Calls Tryz.prog 136 #[.pointer (some ⟨k,0,none⟩)] w fun en w'=>en= .returned (.bool (decide (1<ts.length)))/\w'=w:=by
 have HE:=end_any h hl
 have HD:Hid (decide (1<(ts.length:Int))=decide (1<ts.length)):=by
  rw[Hid,decide_eq_decide]
  omega
 clear h
 generalize ts.length=n at*
 go_enter Tryz.func136,Tryz.ntmps136
 go_wp2_with fail
 refine HE.mono ?_
 rintro en w1 ⟨rfl,rfl⟩
 go_wp2_with fail
 go_ret
 exact⟨ret_bool HD.out,rfl⟩
theorem newLeafMaker_any {b:Nat} {S:Pg.Fs} {F:Nat->Prop} (t p:Int) (w:World) (h:FrAt w b S F):
 Calls Tryz.prog 121 #[.pointer (some ⟨b,0,none⟩),.int .i64 t,.int .i64 p] w fun en w'=>∃k,en= .returned (.tuple #[.pointer (some ⟨k,0,none⟩),.int .i64 (Pg.tFC S t p)])/\St w w' k b F S (lastL (fndX S t p)) (lastE (fndX S t p)) (tabs (fndX S t p)) (plcs (fndX S t p)) p/\Below w.heap.size w w':=by
 have HF:=newMaker_any t p w h
 have hleaf:fndC S t p=0->(lastE (fndX S t p)).l=(lastE (fndX S t p)).t:=by
  intro hz
  obtain⟨lv,e,tl,W⟩:=Pg.way_of hz
  have hf:=Pg.rEn_fault h.ok W.code
  rw[<-W.en]at hf
  obtain⟨_,hx⟩:=Pg.fault_zero hf
  have ho:=W.on
  rw[W.lastE]
  unfold Pg.En.on at ho
  rcases hx with ⟨h1,h2,_⟩|⟨h1,_⟩
  ·rw[h1,h2]
  ·rw[h1]at ho ⊢
   simpa using ho
 have e1:Pg.tFC S t p=if fndC S t p≠0 then fndC S t p else if (lastE (fndX S t p)).t=true then 0 else 5:=rfl
 clear h
 generalize Pg.tFC S t p=cc at*
 generalize fndX S t p=X at*
 generalize fndC S t p=c at*
 go_enter Tryz.func121,Tryz.ntmps121
 go_wp2_with fail
 refine HF.mono ?_
 rintro en w1 ⟨k,rfl,hS,hb⟩
 have HS:Hid _:=hS
 have HB:Hid _:=hb
 obtain⟨B,v1,v2,F',hM,_,_,_,_,_,_⟩:=hS.body
 have c3:=hM.c3
 clear hM hS hb HF
 by_cases hc:c=0
 ·subst hc
  rw[if_neg (by decide)]at e1
  rw[hleaf rfl]at c3
  clear hleaf
  cases ht:(lastE X).t
  ·rw[ht]at e1 c3
   have E1:Hid _:=e1
   clear e1 ht
   go_wp2_with fail
   go_ret2
   exact⟨k,by rw[E1.out];rfl,HS.out,HB.out⟩
  ·rw[ht]at e1 c3
   have E1:Hid _:=e1
   clear e1 ht
   go_wp2_with fail
   go_ret2
   exact⟨k,by rw[E1.out];rfl,HS.out,HB.out⟩
 ·have hcb:(c==0)=false:=by simpa using hc
  have E1:Hid (cc=c):=by rw[Hid,e1,if_pos hc]
  clear e1 hleaf hc c3
  go_wp2_with fail
  go_ret2
  exact⟨k,by rw[E1.out];rfl,HS.out,HB.out⟩
set_option maxHeartbeats 1000000 in
theorem mkMapping_any {w0 w:World} {k b:Nat} {F0:Nat->Prop} {S:Pg.Fs} {lv:Int} {e:Pg.En} {ts ps:List Int} {p:Int} (h:St w0 w k b F0 S lv e ts ps p):
 Calls Tryz.prog 122 #[.pointer (some ⟨k,0,none⟩)] w fun en w'=>en= .returned (e.map lv p).val/\Below w.heap.size w w':=by
 obtain⟨B,v1,v2,F,hM,hF,hB,h1,h2,hBB,hm⟩:=h.body
 obtain⟨et,el,er,eu,ed,ef⟩:=e
 obtain⟨W,hW⟩:∃W,W=w.alloc (.cells #[.int .i64 0,.int .i64 0,.int .i64 0,.int .i64 0] 39):=⟨_,rfl⟩
 have hBW:Below w.heap.size w W:=by rw[hW];exact zA (zR w) _
 have hM1:=hM.grow hBW
 have hz:W.cell? ⟨w.heap.size,0,none⟩=some (.int .i64 0)/\W.cell? ⟨w.heap.size,1,none⟩=some (.int .i64 0)/\W.cell? ⟨w.heap.size,2,none⟩=some (.int .i64 0)/\W.cell? ⟨w.heap.size,3,none⟩=some (.int .i64 0):=by rw[hW];simp[go_sem]
 have hzf:∀o,W.frozen? ⟨w.heap.size,o,none⟩=false:=fun o=>by rw[hW];simp[go_sem]
 have hlW:w.heap.size<W.heap.size:=World.block_lt_of_cell? _ _ hz.1
 have HE:=eMap_any et el er eu ed ef lv p
 have e1:Pg.mapV et el er eu ed ef lv p=(Pg.En.map ⟨et,el,er,eu,ed,ef⟩ lv p).val:=rfl
 rw[e1]at HE
 generalize Pg.En.map ⟨et,el,er,eu,ed,ef⟩ lv p=m at*
 obtain⟨mp,ms,mf,mr⟩:=m
 simp only[Pg.Mp.val]at HE ⊢
 have nk:¬k=w.heap.size:=by have:=hM.lb;omega
 have nk':¬w.heap.size=k:=by have:=hM.lb;omega
 have HZ:Hid _:=hz
 have HZF:Hid _:=hzf
 have HBW:Hid _:=hBW
 have k1:=hM1.c1
 have k2:=hM1.c2
 have k3:=hM1.c3
 have k4:=hM1.c4
 have k5:=hM1.c5
 have k6:=hM1.c6
 have k7:=hM1.c7
 have k10:=hM1.c10
 simp only at k2 k3 k4 k5 k6 k7
 clear h hM hF hB h1 h2 hM1 hz hzf hBW e1 hBB hm
 go_enter Tryz.func122,Tryz.ntmps122
 go_wp2_with fail
 rw[<-hW]
 clear hW
 go_region_held3 (fun w'=>w'.cell? ⟨k,1,none⟩=some (.int .i64 lv)/\w'.cell? ⟨k,2,none⟩=some (.bool et)/\w'.cell? ⟨k,3,none⟩=some (.bool el)/\w'.cell? ⟨k,4,none⟩=some (.int .i64 er)/\w'.cell? ⟨k,5,none⟩=some (.bool eu)/\w'.cell? ⟨k,6,none⟩=some (.bool ed)/\w'.cell? ⟨k,7,none⟩=some (.int .i64 ef)/\w'.cell? ⟨k,10,none⟩=some (.int .i64 p)) (go_keep) (
  (go_at_call 153;refine(HE _).mono ?_;rintro en w2 ⟨rfl,hb2⟩
   have HB2:Hid (Below W.heap.size W w2):=zT (zR W).drew hb2
   have q1:=cell_later HB2.out k1
   have q2:=cell_later HB2.out k2
   have q3:=cell_later HB2.out k3
   have q4:=cell_later HB2.out k4
   have q5:=cell_later HB2.out k5
   have q6:=cell_later HB2.out k6
   have q7:=cell_later HB2.out k7
   have q10:=cell_later HB2.out k10
   obtain⟨z0,z1,z2,z3⟩:=later4 HB2.out HZ.out
   have zf:∀o,w2.frozen? ⟨w.heap.size,o,none⟩=false:=fun o=>(HB2.out.frozen (p:=⟨w.heap.size,o,none⟩) hlW).trans (HZF.out o)
   clear hb2))
 have fin:Hid (Below w.heap.size w ((((w2.setCell ⟨w.heap.size,0,none⟩ (.int .i64 mp)).setCell ⟨w.heap.size,1,none⟩ (.int .i64 ms)).setCell ⟨w.heap.size,2,none⟩ (.int .i64 mf)).setCell ⟨w.heap.size,3,none⟩ (.int .i64 mr))):=below_set4 (zT HBW.out HB2.out) _ (Nat.le_refl _) _ _ _ _
 go_wp2_with fail
 refine bodyPost_ret (v:= .agg #[.int .i64 mp,.int .i64 ms,.int .i64 mf,.int .i64 mr]) ?_ rfl ⟨rfl,fin.out⟩
 simp[results,Tryz.results122,go_sem,z0,z1,z2,z3]
theorem own_last {w:World} {B:Nat} {v:Value} {ts:List Int} {t:Int} (h:w.ownsRow B 3 1 v (ts++[t]).length (ints (ts++[t]))):∃g cap,v= .slice (some ⟨g,0,none⟩) (ts.length+1) cap/\w.cell? ⟨g,ts.length,none⟩=some (.int .i64 t)/\ts.length+1<=cap:=by
 rw[List.length_append,List.length_singleton]at h
 have h2:=h
 obtain⟨g,cap,rfl,_,_⟩:=h.form (by omega)
 refine⟨g,cap,rfl,?_,?_⟩
 ·rw[h.cellAt ts.length (by omega)]
  simp[ints]
 ·rcases h2.2 with ⟨h',_⟩|⟨g',cap',cur,h',_,_,hle,_⟩
  ·cases h'
  ·cases h';exact hle
set_option maxHeartbeats 2000000 in
theorem put_any {w0 w:World} {k b:Nat} {F0:Nat->Prop} {S:Pg.Fs} {lv:Int} {e:Pg.En} {ts ps:List Int} {p t q:Int} (e':Pg.En) (h:St w0 w k b F0 S lv e (ts++[t]) (ps++[q]) p) (hlen:ts.length=ps.length) (hl:ts.length<5000):
 Calls Tryz.prog 135 #[.pointer (some ⟨k,0,none⟩),e'.val] w fun en w'=>en= .returned (.tuple #[])/\St w0 w' k b F0 (S.store t q (Pg.enc e'.t e'.l e'.r e'.u e'.d e'.f lv)) lv e' (ts++[t]) (ps++[q]) p:=by
 obtain⟨et,el,er,eu,ed,ef⟩:=e'
 simp only[Pg.En.val]
 have HE:=encode_any et el er eu ed ef lv
 have hv:0<=Pg.enc et el er eu ed ef lv/\Pg.enc et el er eu ed ef lv<18446744073709551616:=Pg.enc_bd _ _ _ _ _ _ _
 generalize Pg.enc et el er eu ed ef lv=v at*
 generalize Pg.eFault et el er eu ed ef lv=fl at*
 obtain⟨hv0,hv1⟩:=hv
 obtain⟨W,hW⟩:∃W,W=w.alloc (.cells #[.bool et,.bool el,.int .i64 er,.bool eu,.bool ed,.int .i64 ef] 70):=⟨_,rfl⟩
 have hBW:Below w.heap.size w W:=by rw[hW];exact zA (zR w) _
 have hx:W.cell? ⟨w.heap.size,0,none⟩=some (.bool et)/\W.cell? ⟨w.heap.size,1,none⟩=some (.bool el)/\W.cell? ⟨w.heap.size,2,none⟩=some (.int .i64 er)/\W.cell? ⟨w.heap.size,3,none⟩=some (.bool eu)/\W.cell? ⟨w.heap.size,4,none⟩=some (.bool ed)/\W.cell? ⟨w.heap.size,5,none⟩=some (.int .i64 ef):=by rw[hW];simp[go_sem]
 have nk:¬k=w.heap.size:=by have:=h.lb;omega
 have nk':¬w.heap.size=k:=by have:=h.lb;omega
 have hlw:w.heap.size<W.heap.size:=World.block_lt_of_cell? _ _ hx.1
 obtain⟨B,v1,v2,F,hM,hF,hB,h1,h2,hBB,hm⟩:=h.body
 obtain⟨g1,cap1,rfl,ht,_⟩:=own_last hM.o1
 obtain⟨g2,cap2,rfl,hq,_⟩:=own_last hM.o2
 have HFl:Hid (∀j,F j->j<w.heap.size):=fun j hj=>hF.lt hj
 have HM:Hid _:=hM
 have HF:Hid (FrAt w b S F):=hF
 have HBt:Hid _:=hB
 have H1:Hid _:=h1
 have H2:Hid _:=h2
 have HBB:Hid _:=hBB
 have Hm:Hid _:=hm
 have HBW:Hid _:=hBW
 have k1:=(hM.grow hBW).c1
 obtain⟨x0,x1,x2,x3,x4,x5⟩:=hx
 clear hM hF hB h1 h2 h hBW hBB hm
 go_enter Tryz.func135,Tryz.ntmps135
 go_wp2_with fail
 rw[<-hW]
 clear hW
 go_region_held3 (fun w'=>w'.cell? ⟨w.heap.size,0,none⟩=some (.bool et)/\w'.cell? ⟨w.heap.size,1,none⟩=some (.bool el)/\w'.cell? ⟨w.heap.size,2,none⟩=some (.int .i64 er)/\w'.cell? ⟨w.heap.size,3,none⟩=some (.bool eu)/\w'.cell? ⟨w.heap.size,4,none⟩=some (.bool ed)/\w'.cell? ⟨w.heap.size,5,none⟩=some (.int .i64 ef)/\w'.cell? ⟨k,1,none⟩=some (.int .i64 lv)) (go_keep) (
  (go_at_call 169;refine(HE _).mono ?_;rintro en w2 ⟨rfl,hb2⟩
   have HB2:Hid (Below W.heap.size W w2):=zT (zR W).drew hb2
   have q0:=cell_later HB2.out x0
   have q1:=cell_later HB2.out x1
   have q2:=cell_later HB2.out x2
   have q3:=cell_later HB2.out x3
   have q4:=cell_later HB2.out x4
   have q5:=cell_later HB2.out x5
   have q6:=cell_later HB2.out k1
   clear hb2))
 have HB3:Hid (Below w.heap.size w w2):=zT HBW.out HB2.out
 have hl2:w.heap.size<w2.heap.size:=World.block_lt_of_cell? _ _ q0
 have HM2:Hid _:=HM.out.grow HB3.out
 have HF2:Hid (FrAt w2 b S F):=FrAt.keep (G:=fun _=>False) HF.out (But.of_below HB3.out) fun _ _=>id
 have HBt2:Hid (But F0 w0 w2):=HBt.out.trans (But.of_below (F:=fun _=>False) HB3.out) fun _ _ h=>h.elim
 have X2:Hid (w2.cell? ⟨w.heap.size,0,none⟩=some (.bool et)/\w2.cell? ⟨w.heap.size,1,none⟩=some (.bool el)/\w2.cell? ⟨w.heap.size,2,none⟩=some (.int .i64 er)/\w2.cell? ⟨w.heap.size,3,none⟩=some (.bool eu)/\w2.cell? ⟨w.heap.size,4,none⟩=some (.bool ed)/\w2.cell? ⟨w.heap.size,5,none⟩=some (.int .i64 ef)):=⟨q0,q1,q2,q3,q4,q5⟩
 have k0:=HM2.out.c0
 have k8:=HM2.out.c8
 have k9:=HM2.out.c9
 have kt:=cell_later HB3.out ht
 have kq:=cell_later HB3.out hq
 clear x0 x1 x2 x3 x4 x5 k1 HE q0 q1 q2 q3 q4 q5 q6 ht hq HM HF HBt HB2 HBW
 have HEnd:∀W',Below w2.heap.size w2 W'->Calls Tryz.prog 171 #[.pointer (some ⟨k,0,none⟩)] W' fun en w'=>en= .returned (.int .i64 (ts.length:Int))/\w'=W':=fun W' hb=>by
  have hS:St w0 W' k b F0 S lv e (ts++[t]) (ps++[q]) p:=St.grow ⟨B,_,_,F,HM2.out,HF2.out,HBt2.out,H1.out,H2.out,Nat.le_trans HBB.out HB3.out.size,Hm.out⟩ hb
  refine(end_any hS (by simp;omega)).mono ?_
  rintro en w' ⟨rfl,rfl⟩
  exact⟨by simp,rfl⟩
 have HSt:∀W',Below w2.heap.size w2 W'->Calls Tryz.prog 170 #[.pointer (some ⟨b,0,none⟩),.int .i64 t,.int .i64 q,.int .u64 v] W' fun en w'=>en= .returned (.bool (S.at' t q))/\∃F4,FrAt w' b (S.store t q v) F4/\But F w2 w'/\∀k,F4 k->F k\/w2.heap.size<=k:=fun W' hb=>by
  refine(frStore_any t q v hv0 hv1 W' (FrAt.keep (G:=fun _=>False) HF2.out (But.of_below hb) fun _ _=>id)).mono ?_
  rintro en w' ⟨rfl,F4,f1,f2,f3⟩
  exact⟨rfl,F4,f1,(But.of_below hb).trans f2 fun _ _ h=>h,fun j hj=>(f3 j hj).imp id fun h=>by have:=hb.size;omega⟩
 have hlen':ps.length=ts.length:=hlen.symm
 rw[hlen']at k9 kq
 have i0:(0:Int)<=(ts.length:Int):=by omega
 have i1:(ts.length:Int)<(ts.length:Int)+1:=by omega
 have HL:Hid _:=hlen
 clear hlen hlen'
 generalize hn:ts.length=n at*
 have HN:Hid _:=hn
 clear hn
 go_wp2_with fail
 go_region_held3 (fun w'=>w'.cell? ⟨k,0,none⟩=some (.pointer (some ⟨b,0,none⟩))/\w'.cell? ⟨k,8,none⟩=some (.slice (some ⟨g1,0,none⟩) (n+1) cap1)/\w'.cell? ⟨k,9,none⟩=some (.slice (some ⟨g2,0,none⟩) (n+1) cap2)/\w'.cell? ⟨g1,n,none⟩=some (.int .i64 t)/\w'.cell? ⟨g2,n,none⟩=some (.int .i64 q)) (go_keep) (first
  | (go_at_call 171;refine(HEnd _ (by first|exact(zR w2).drew|exact zR w2)).mono ?_;rintro en w3 ⟨rfl,hw3⟩;subst w3)
  | (go_at_call 170;refine(HSt _ (by first|exact(zR w2).drew|exact zR w2)).mono ?_;rintro en w4 ⟨rfl,hf4⟩
     obtain⟨F4,f1,f2,f3⟩:=hf4
     have f2':But F w2 w4:=f2
     have HM4:Hid _:=HM2.out.keep f2' fun j hj hF=>H2.out j hF hj
     have HF4:Hid (FrAt w4 b (S.store t q v) F4):=f1
     have HF42:Hid (But F w2 w4):=f2'
     have HF43:Hid (∀k,F4 k->F k\/w2.heap.size<=k):=f3
     have r0:=HM4.out.c0
     have r8:=HM4.out.c8
     have r9:=HM4.out.c9
     rw[<-HL.out]at r9
     have rt:w4.cell? ⟨g1,n,none⟩=some (.int .i64 t):=(f2'.cell (a:=⟨g1,n,none⟩) (World.block_lt_of_cell? _ _ kt) fun hF=>H2.out g1 hF (.inr (.inl rfl))).trans kt
     have rq:w4.cell? ⟨g2,n,none⟩=some (.int .i64 q):=(f2'.cell (a:=⟨g2,n,none⟩) (World.block_lt_of_cell? _ _ kq) fun hF=>H2.out g2 hF (.inr (.inr rfl))).trans kq
     clear f1 f2 f3 f2'))
 have y:∀(o:Nat) (u:Value),w2.cell? ⟨w.heap.size,o,none⟩=some u->w4.cell? ⟨w.heap.size,o,none⟩=some u:=fun o u hu=>(HF42.out.cell (a:=⟨w.heap.size,o,none⟩) hl2 fun hF=>by have:=HFl.out _ hF;simp at this).trans hu
 have y0:=y _ _ X2.out.1
 have y1:=y _ _ X2.out.2.1
 have y2:=y _ _ X2.out.2.2.1
 have y3:=y _ _ X2.out.2.2.2.1
 have y4:=y _ _ X2.out.2.2.2.2.1
 have y5:=y _ _ X2.out.2.2.2.2.2
 have r2:=HM4.out.c2
 have r3:=HM4.out.c3
 have r4:=HM4.out.c4
 have r5:=HM4.out.c5
 have r6:=HM4.out.c6
 have r7:=HM4.out.c7
 have rf:=HM4.out.fz
 have hlk:=HM4.out.lb
 have fin:Hid _:=HM4.out.setE ⟨et,el,er,eu,ed,ef⟩
 have fbt:Hid (But (fun j=>j=k) w4 ((((((w4.setCell ⟨k,2,none⟩ (.bool et)).setCell ⟨k,3,none⟩ (.bool el)).setCell ⟨k,4,none⟩ (.int .i64 er)).setCell ⟨k,5,none⟩ (.bool eu)).setCell ⟨k,6,none⟩ (.bool ed)).setCell ⟨k,7,none⟩ (.int .i64 ef))):=
  ((((((But.refl (fun j=>j=k) w4).setCell (a:=⟨k,2,none⟩) (.inr rfl) _).setCell (a:=⟨k,3,none⟩) (.inr rfl) _).setCell (a:=⟨k,4,none⟩) (.inr rfl) _).setCell (a:=⟨k,5,none⟩) (.inr rfl) _).setCell (a:=⟨k,6,none⟩) (.inr rfl) _).setCell (a:=⟨k,7,none⟩) (.inr rfl) _
 have F4n:Hid (∀j,F4 j->¬mkF k (.slice (some ⟨g1,0,none⟩) (n+1) cap1) (.slice (some ⟨g2,0,none⟩) (ps.length+1) cap2) j):=fun j hj hm=>by
  rcases HF43.out j hj with h|h
  ·exact H2.out j h hm
  ·have:=(HM2.out.lt hm).2;omega
 have hhi:=HM2.out.hi
 clear y r0 r8 r9 rt rq k0 k8 k9 kt kq HSt HEnd
 go_wp2_with fail
 go_end0
 refine⟨rfl,B,_,_,F4,fin.out,FrAt.keep HF4.out fbt.out fun j hj e=>F4n.out j hj (.inl e),?_,fun j hj=> ?_,F4n.out,?_,Hm.out⟩
 ·refine(HBt2.out.trans HF42.out fun i hi hF=> ?_).trans fbt.out fun i hi e=> ?_
  ·rcases H1.out i hF with h|h
   ·exact h
   ·omega
  ·rcases Hm.out i (.inl e)with h|h
   ·exact h
   ·omega
 ·rcases HF43.out j hj with h|h
  ·exact H1.out j h
  ·have:=HBt2.out.size;exact .inr (by omega)
 ·exact Nat.le_trans (Nat.le_trans HBB.out HB3.out.size) (Nat.le_trans HF42.out.size fbt.out.size)
end Go.Proofs.YtkhnelgommaioaaGreat
