import Derived.Test.YtkhnelgommaioaaGreatWalkC
import Derived.Test.YtkhnelgommaioaaGreatLooseT
namespace Go.Proofs.YtkhnelgommaioaaGreat
open Go.RowKit Go.Sort
set_option linter.unusedVariables false
set_option maxRecDepth 100000
theorem owns_le {w:World} {base base' size n:Nat} {e:TypeId} {v:Value} {xs:List Value} (h:w.ownsRow base e size v n xs) (hb:base'<=base):w.ownsRow base' e size v n xs:=
 ⟨h.1,h.2.imp id fun⟨g,cap,cur,e,k,r⟩=>⟨g,cap,cur,e,Nat.le_trans hb k,r⟩⟩
def lastL (X:List Pg.Sp):Int:=match X.getLast? with
 | some s=>(s.level:Int)
 | none=>0
def lastE (X:List Pg.Sp):Pg.En:=match X.getLast? with
 | some s=>s.e
 | none=>Pg.En.zero
def tabs (X:List Pg.Sp):List Int:=X.map fun s=>s.table
def plcs (X:List Pg.Sp):List Int:=X.map fun s=>(s.place:Int)
theorem lastL_push (X:List Pg.Sp) (s:Pg.Sp):lastL (X++[s])=s.level:=by simp[lastL]
theorem lastE_push (X:List Pg.Sp) (s:Pg.Sp):lastE (X++[s])=s.e:=by simp[lastE]
theorem tabs_push (X:List Pg.Sp) (s:Pg.Sp):ints (tabs (X++[s]))=ints (tabs X)++[.int .i64 s.table]:=by simp[tabs,ints]
theorem plcs_push (X:List Pg.Sp) (s:Pg.Sp):ints (plcs (X++[s]))=ints (plcs X)++[.int .i64 (s.place:Int)]:=by simp[plcs,ints]
theorem tabs_len (X:List Pg.Sp):(tabs X).length=X.length:=by simp[tabs]
theorem plcs_len (X:List Pg.Sp):(plcs X).length=X.length:=by simp[plcs]
structure SpotAt (c:Nat) (lv:Int) (e:Pg.En) (v1 v2:Value) (w:World):Prop where
 c0:w.cell? ⟨c,0,none⟩=some (.int .i64 lv)
 c1:w.cell? ⟨c,1,none⟩=some (.bool e.t)
 c2:w.cell? ⟨c,2,none⟩=some (.bool e.l)
 c3:w.cell? ⟨c,3,none⟩=some (.int .i64 e.r)
 c4:w.cell? ⟨c,4,none⟩=some (.bool e.u)
 c5:w.cell? ⟨c,5,none⟩=some (.bool e.d)
 c6:w.cell? ⟨c,6,none⟩=some (.int .i64 e.f)
 c7:w.cell? ⟨c,7,none⟩=some v1
 c8:w.cell? ⟨c,8,none⟩=some v2
 fz:∀o,w.frozen? ⟨c,o,none⟩=false
theorem SpotAt.lb {c:Nat} {lv:Int} {e:Pg.En} {v1 v2:Value} {w:World} (h:SpotAt c lv e v1 v2 w):c<w.heap.size:=World.block_lt_of_cell? _ _ h.c0
theorem SpotAt.of_block {c:Nat} {lv:Int} {e:Pg.En} {v1 v2:Value} {w w':World} (h:SpotAt c lv e v1 v2 w) (hk:w'.heap[c]?=w.heap[c]?):SpotAt c lv e v1 v2 w':=
 ⟨(World.cell?_of_block hk).trans h.c0,(World.cell?_of_block hk).trans h.c1,(World.cell?_of_block hk).trans h.c2,(World.cell?_of_block hk).trans h.c3,(World.cell?_of_block hk).trans h.c4,(World.cell?_of_block hk).trans h.c5,(World.cell?_of_block hk).trans h.c6,(World.cell?_of_block hk).trans h.c7,(World.cell?_of_block hk).trans h.c8,fun o=>(World.frozen?_of_block hk).trans (h.fz o)⟩
structure Spots (w0:World) (bp c:Nat) (p:Int) (X:List Pg.Sp) (V:Nat->Prop) (w:World):Prop where
 bel:Below w0.heap.size w0 w
 hi:w0.heap.size<=c
 pc:w.cell? ⟨bp,0,none⟩=some (.int .i64 p)
 pb:bp<c
 var:∃v1 v2,SpotAt c (lastL X) (lastE X) v1 v2 w/\w.ownsRow (c+1) 3 1 v1 X.length (ints (tabs X))/\w.ownsRow (c+1) 3 1 v2 X.length (ints (plcs X))/\(∀k,v1.ownBlock=some k->v2.ownBlock≠some k)/\V=fun k=>k=c\/v1.ownBlock=some k\/v2.ownBlock=some k
namespace Spots
variable {w0:World} {bp c:Nat} {p:Int} {X X':List Pg.Sp} {V:Nat->Prop} {w w':World}
theorem grow (h:Spots w0 bp c p X V w) (hb:Below w.heap.size w w'):Spots w0 bp c p X V w':=by
 obtain⟨h1,h2,h3,h4,v1,v2,hs,o1,o2,hne,rfl⟩:=h
 exact⟨h1.trans (hb.mono h1.size),h2,cell_later hb h3,h4,v1,v2,hs.of_block (hb.block c hs.lb),ownsMaps_below o1 hb,ownsMaps_below o2 hb,hne,rfl⟩
theorem lt (h:Spots w0 bp c p X V w) {k:Nat} (hk:V k):k<w.heap.size:=by
 obtain⟨h1,h2,h3,h4,v1,v2,hs,o1,o2,hne,rfl⟩:=h
 rcases hk with rfl|hk|hk
 ·exact hs.lb
 ·exact(o1.lt k hk).2
 ·exact(o2.lt k hk).2
theorem fr {b:Nat} {S:Pg.Fs} {F:Nat->Prop} (hf:FrAt w0 b S F) (h:Spots w0 bp c p X V w):FrAt w b S F:=
 hf.keep (G:=fun k=>w0.heap.size<=k) (w':=w) ⟨h.bel.os,h.bel.tape,h.bel.output,h.bel.size,fun k hk _=>h.bel.block k hk⟩ (fun k hk=>by have:=hf.lt hk;omega)
end Spots
theorem SpotAt.set7 {c:Nat} {lv:Int} {e:Pg.En} {v1 v2:Value} {w:World} (h:SpotAt c lv e v1 v2 w) (v:Value):SpotAt c lv e v v2 (w.setCell ⟨c,7,none⟩ v):=
 ⟨(World.cell?_setCell_other _ _ _ _ (by simp)).trans h.c0,(World.cell?_setCell_other _ _ _ _ (by simp)).trans h.c1,(World.cell?_setCell_other _ _ _ _ (by simp)).trans h.c2,(World.cell?_setCell_other _ _ _ _ (by simp)).trans h.c3,(World.cell?_setCell_other _ _ _ _ (by simp)).trans h.c4,(World.cell?_setCell_other _ _ _ _ (by simp)).trans h.c5,(World.cell?_setCell_other _ _ _ _ (by simp)).trans h.c6,World.cell?_setCell_same _ _ _ h.c7,(World.cell?_setCell_other _ _ _ _ (by simp)).trans h.c8,fun o=>by rw[World.frozen?_setCell];exact h.fz o⟩
theorem SpotAt.set8 {c:Nat} {lv:Int} {e:Pg.En} {v1 v2:Value} {w:World} (h:SpotAt c lv e v1 v2 w) (v:Value):SpotAt c lv e v1 v (w.setCell ⟨c,8,none⟩ v):=
 ⟨(World.cell?_setCell_other _ _ _ _ (by simp)).trans h.c0,(World.cell?_setCell_other _ _ _ _ (by simp)).trans h.c1,(World.cell?_setCell_other _ _ _ _ (by simp)).trans h.c2,(World.cell?_setCell_other _ _ _ _ (by simp)).trans h.c3,(World.cell?_setCell_other _ _ _ _ (by simp)).trans h.c4,(World.cell?_setCell_other _ _ _ _ (by simp)).trans h.c5,(World.cell?_setCell_other _ _ _ _ (by simp)).trans h.c6,(World.cell?_setCell_other _ _ _ _ (by simp)).trans h.c7,World.cell?_setCell_same _ _ _ h.c8,fun o=>by rw[World.frozen?_setCell];exact h.fz o⟩
structure Grew (c:Nat) (v:Value) (W w3:World) (g:Nat):Prop where
 but:But (fun k=>v.ownBlock=some k) W w3
 far:∀k,v.ownBlock=some k->c<k
 gc:c<g
 gl:g<w3.heap.size
 at':v.ownBlock=some g\/W.heap.size<=g
theorem grew {c:Nat} {e:TypeId} {size n g:Nat} {v:Value} {xs:List Value} {W w3:World} {o:Obj} (hl:W.ownsRow (c+1) e size v n xs) (hg:(W.alloc o).grownBy w3 v.ownBlock) (hat:v.ownBlock=some g\/g=W.heap.size+1) (hc:c<W.heap.size) (hlt:g<w3.heap.size):Grew c v W w3 g:=by
 refine⟨((But.refl _ W).alloc o).grown hg fun k hk=> .inr hk,fun k hk=>(hl.lt k hk).1,?_,hlt,hat.imp id fun h=>by omega⟩
 rcases hat with h|h
 ·exact(hl.lt g h).1
 ·omega
theorem wfind1_any {bp:Nat} (i lv:Nat) (p:Int) (hp:Pg.below p 4096=true) (hl:lv<4) (w:World) (hc:w.cell? ⟨bp,0,none⟩=some (.int .i64 p)):
 Calls Tryz.prog 215 #[.int .i64 (i:Int),.int .i64 (lv:Int),.pointer (some ⟨bp,0,none⟩)] w fun e w'=>e= .returned (.bool (Pg.onW p i lv))/\w'=w:=by
 have HI:=index_any p (lv:Int)
 rw[Pg.index_ix hp hl]at HI
 have HE:Hid (((i:Int)==((Pg.ix p lv:Nat):Int))=Pg.onW p i lv):=by
  rw[Hid,Bool.eq_iff_iff]
  simp only[Pg.onW,beq_iff_eq,decide_eq_true_eq]
  omega
 go_enter Tryz.func215,Tryz.ntmps215
 go_wp2_with fail
 refine(HI _).mono ?_
 rintro e w1 ⟨rfl,rfl⟩
 go_wp2_with fail
 go_ret
 exact⟨ret_bool HE.out,rfl⟩
set_option maxHeartbeats 1000000 in
theorem find2_any {w0:World} {bp c:Nat} {p:Int} (s:Pg.Sp) (X:List Pg.Sp) (V:Nat->Prop) (w:World) (hlen:X.length<4680) (hR:Spots w0 bp c p X V w):
 Calls Tryz.prog 216 #[s.val,.pointer (some ⟨c,0,none⟩)] w fun e w'=>e= .returned (.tuple #[])/\∃V',Spots w0 bp c p (X++[s]) V' w'/\But V w w'/\∀k,V' k->V k\/w.heap.size<=k:=by
 have HR:Hid _:=hR
 obtain⟨hbel,hhi,hpc,hpb,v1,v2,hs,o1,o2,hne,hV⟩:=hR
 have hcl:=hs.lb
 obtain⟨c0,c1,c2,c3,c4,c5,c6,c7,c8,hfz⟩:=hs
 obtain⟨q0,hq,hz0,hz1,hz2⟩:=info_parts infoIntW
 obtain⟨st,sp,sl,sa,⟨et,el,er,eu,ed,ef⟩⟩:=s
 simp only[Pg.Sp.val]
 have hcw:c≠w.heap.size:=by omega
 have hwc:w.heap.size≠c:=by omega
 generalize lastL X=xl at*
 generalize lastE X=xe at*
 clear hpc
 have HO1:Hid (w.ownsRow (c+1) 3 1 v1 X.length (ints (tabs X))):=o1
 have HO2:Hid (w.ownsRow (c+1) 3 1 v2 X.length (ints (plcs X))):=o2
 have HN:Hid _:=hne
 clear hne o1 o2 hbel
 obtain⟨W2,hW2⟩:∃W2,W2=((((((((w.setCell ⟨c,0,none⟩ (.int .i64 (sl:Int))).setCell ⟨c,1,none⟩ (.bool et)).setCell ⟨c,2,none⟩ (.bool el)).setCell ⟨c,3,none⟩ (.int .i64 er)).setCell ⟨c,4,none⟩ (.bool eu)).setCell ⟨c,5,none⟩ (.bool ed)).setCell ⟨c,6,none⟩ (.int .i64 ef)).alloc (.cells #[.int .i64 st,.int .i64 (sp:Int),.int .i64 (sl:Int),.int .i64 (sa:Int),.bool et,.bool el,.int .i64 er,.bool eu,.bool ed,.int .i64 ef] 200)).drew:=⟨_,rfl⟩
 have hS2:SpotAt c (sl:Int) ⟨et,el,er,eu,ed,ef⟩ v1 v2 W2:=by
  rw[hW2]
  refine⟨?_,?_,?_,?_,?_,?_,?_,?_,?_,fun o=> ?_⟩<;>simp[go_sem,c0,c1,c2,c3,c4,c5,c6,c7,c8,hfz,hcl]
 have hB2:But (fun k=>k=c) w W2:=by
  rw[hW2]
  exact(((((((((But.refl (fun k=>k=c) w).setCell (a:=⟨c,0,none⟩) (.inr rfl) _).setCell (a:=⟨c,1,none⟩) (.inr rfl) _).setCell (a:=⟨c,2,none⟩) (.inr rfl) _).setCell (a:=⟨c,3,none⟩) (.inr rfl) _).setCell (a:=⟨c,4,none⟩) (.inr rfl) _).setCell (a:=⟨c,5,none⟩) (.inr rfl) _).setCell (a:=⟨c,6,none⟩) (.inr rfl) _).alloc _).drew
 have x0:W2.cell? ⟨w.heap.size,0,none⟩=some (.int .i64 st):=by rw[hW2];simp[go_sem]
 have x1:W2.cell? ⟨w.heap.size,1,none⟩=some (.int .i64 (sp:Int)):=by rw[hW2];simp[go_sem]
 have HS2:Hid _:=hS2
 have HB2:Hid _:=hB2
 have HX1:Hid _:=x1
 have hown:W2.ownsRow (c+1) 3 1 v1 X.length (ints (tabs X)):=ownsMaps_but HO1.out hB2 fun k hk e=>by have:=(HO1.out.lt k hk).1;omega
 have hown2:W2.ownsRow (c+1) 3 1 v2 X.length (ints (plcs X)):=ownsMaps_but HO2.out hB2 fun k hk e=>by have:=(HO2.out.lt k hk).1;omega
 have hl2:=hS2.lb
 have hlw:w.heap.size<W2.heap.size:=World.block_lt_of_cell? _ _ x0
 have d7:=hS2.c7
 have hf2:=hS2.fz
 have HOW2:Hid (W2.ownsRow (c+1) 3 1 v2 X.length (ints (plcs X))):=hown2
 clear hS2 hB2 hown2
 go_enter Tryz.func216,Tryz.ntmps216
 go_wp2_with fail
 go_region
 rw[<-hW2]
 clear hW2 c0 c1 c2 c3 c4 c5 c6 c7 c8 hfz
 go_wp2_with (first
  | (at_builtin;refine wpList_append_lies _ rfl _ _ 45 rfl (c+1) 3 q0 (.int .i64 0) 1 8 Tryz.underlying45 hq hz0 hz1 hz2 rfl (by decide) _ _ _ rfl (hown.alloc _) ⟨W2.heap.size,0,none⟩ 1 1 [.int .i64 st] rfl rfl ?c1 ?c2 (by decide) ?c3 ?c4 ?c5 (W2.heap.size+1) (by simp) ?_))
 case c1=>
  intro j u hj
  match j,hj with
  | 0,hj=>simp at hj;subst hj;simp[Addr.add,go_sem]
 case c2=>intro u hu;simp at hu;subst hu;rfl
 case c3=>unfold maxLen;omega
 case c4=>omega
 case c5=>simp;omega
 intro g cap w3 hown3 hgrow hat hlt3
 have G3:Hid _:=grew hown hgrow hat hl2 hlt3
 have hblk:w3.heap[c]?=W2.heap[c]?:=G3.out.but.block c hl2 fun e=>by have:=G3.out.far c e;omega
 have S3:Hid _:=HS2.out.of_block hblk
 have S4:Hid _:=S3.out.set7 (.slice (some ⟨g,0,none⟩) (X.length+1) cap)
 have e7:=S3.out.c7
 have ef7:=S3.out.fz 7
 have B4:Hid (But (fun k=>k=c\/v1.ownBlock=some k) W2 (w3.setCell ⟨c,7,none⟩ (.slice (some ⟨g,0,none⟩) (X.length+1) cap))):=
  (G3.out.but.mono fun _ _ h=> .inr h).setCell (.inr (.inl rfl)) _
 have O4:Hid ((w3.setCell ⟨c,7,none⟩ (.slice (some ⟨g,0,none⟩) (X.length+1) cap)).ownsRow (c+1) 3 1 (.slice (some ⟨g,0,none⟩) (X.length+1) cap) (X.length+1) (ints (tabs X)++[.int .i64 st])):=
  owns_of_block hown3 fun k hk=>Below.heap_setCell _ _ _ _ (fun e=>by have e1:g=k:=(by simpa[Value.ownBlock]using hk);have:=G3.out.gc;have e2:k=c:=e;omega)
 have hown4:(w3.setCell ⟨c,7,none⟩ (.slice (some ⟨g,0,none⟩) (X.length+1) cap)).ownsRow (c+1) 3 1 v2 X.length (ints (plcs X)):=
  ownsMaps_but HOW2.out B4.out fun k hk e=>by
   rcases e with e|e
   ·have:=(World.ownsRow.lt HOW2.out k hk).1;omega
   ·exact HN.out k e hk
 have hs3:=G3.out.but.size
 have e8:=S3.out.c8
 have ef8:=S3.out.fz 8
 have hv1:v1.ownBlock≠some w.heap.size:=fun e=>by have:=(World.ownsRow.lt HO1.out _ e).2;omega
 have y1:w3.cell? ⟨w.heap.size,1,none⟩=some (.int .i64 (sp:Int)):=(G3.out.but.cell (a:=⟨w.heap.size,1,none⟩) hlw hv1).trans HX1.out
 have hl3:c<w3.heap.size:=by omega
 have hl4:w.heap.size<w3.heap.size:=by omega
 have hsz4:(w3.setCell ⟨c,7,none⟩ (.slice (some ⟨g,0,none⟩) (X.length+1) cap)).heap.size=w3.heap.size:=by simp
 clear hown hown3 hgrow hat hlt3 hblk x0 x1 d7 hf2
 go_wp2_with (first
  | (at_builtin;refine wpList_append_lies _ rfl _ _ 45 rfl (c+1) 3 q0 (.int .i64 0) 1 8 Tryz.underlying45 hq hz0 hz1 hz2 rfl (by decide) _ _ _ rfl (hown4.alloc _) ⟨w3.heap.size,0,none⟩ 1 1 [.int .i64 (sp:Int)] rfl rfl ?d1 ?d2 (by decide) ?d3 ?d4 ?d5 (w3.heap.size+1) (by simp) ?_))
 case d1=>
  intro j u hj
  match j,hj with
  | 0,hj=>simp at hj;subst hj;simp[Addr.add,go_sem]
 case d2=>intro u hu;simp at hu;subst hu;rfl
 case d3=>unfold maxLen;omega
 case d4=>omega
 case d5=>simp;omega
 intro g5 cap5 w5 hown5 hgrow5 hat5 hlt5
 have G5:Hid _:=grew hown4 hgrow5 (by simpa using hat5) (by simp;omega) hlt5
 have hblk:w5.heap[c]?=_:=G5.out.but.block c (by simp;omega) fun e=>by have:=G5.out.far c e;omega
 have S5:Hid _:=S4.out.of_block hblk
 have S6:Hid _:=S5.out.set8 (.slice (some ⟨g5,0,none⟩) (X.length+1) cap5)
 have k8:=S5.out.c8
 have kf8:=S5.out.fz 8
 have hgg:g≠g5:=by
  have h1:=G3.out.gl
  rcases G5.out.at' with h5|h5
  ·rcases G3.out.at' with h3|h3
   ·intro e;exact HN.out g h3 (e▸h5)
   ·have:=(World.ownsRow.lt HOW2.out g5 h5).2;omega
  ·rw[hsz4]at h5;omega
 have O6:Hid ((w5.setCell ⟨c,8,none⟩ (.slice (some ⟨g5,0,none⟩) (X.length+1) cap5)).ownsRow (c+1) 3 1 (.slice (some ⟨g5,0,none⟩) (X.length+1) cap5) (X.length+1) (ints (plcs X)++[.int .i64 (sp:Int)])):=
  owns_of_block hown5 fun k hk=>Below.heap_setCell _ _ _ _ (fun e=>by have e1:g5=k:=(by simpa[Value.ownBlock]using hk);have:=G5.out.gc;have e2:k=c:=e;omega)
 have B6:Hid (But (fun k=>k=c\/v2.ownBlock=some k) (w3.setCell ⟨c,7,none⟩ (.slice (some ⟨g,0,none⟩) (X.length+1) cap)) (w5.setCell ⟨c,8,none⟩ (.slice (some ⟨g5,0,none⟩) (X.length+1) cap5))):=
  (G5.out.but.mono fun _ _ h=> .inr h).setCell (.inr (.inl rfl)) _
 have O7:Hid ((w5.setCell ⟨c,8,none⟩ (.slice (some ⟨g5,0,none⟩) (X.length+1) cap5)).ownsRow (c+1) 3 1 (.slice (some ⟨g,0,none⟩) (X.length+1) cap) (X.length+1) (ints (tabs X)++[.int .i64 st])):=
  ownsMaps_but O4.out B6.out fun k hk e=>by
   have e1:g=k:=by simpa[Value.ownBlock]using hk
   have:=G3.out.gc
   rcases e with e|e
   ·omega
   ·rcases G3.out.at' with h3|h3
    ·exact HN.out g h3 (e1▸e)
    ·have:=(World.ownsRow.lt HOW2.out k e).2;omega
 have fin:Hid (∃V',Spots w0 bp c p (X++[⟨st,sp,sl,sa,⟨et,el,er,eu,ed,ef⟩⟩]) V' (w5.setCell ⟨c,8,none⟩ (.slice (some ⟨g5,0,none⟩) (X.length+1) cap5))/\But V w (w5.setCell ⟨c,8,none⟩ (.slice (some ⟨g5,0,none⟩) (X.length+1) cap5))/\∀k,V' k->V k\/w.heap.size<=k):=by
  have hBV:But V w (w5.setCell ⟨c,8,none⟩ (.slice (some ⟨g5,0,none⟩) (X.length+1) cap5)):=by
   rw[hV]
   refine((HB2.out.mono fun _ _ h=> .inl h).trans B4.out fun i _ h=> ?_).trans B6.out fun i _ h=> ?_
   ·exact h.imp id .inl
   ·exact h.imp id .inr
  have hVlo:∀k,V k->c<=k:=by
   rw[hV]
   rintro k (rfl|h|h)
   ·exact Nat.le_refl _
   ·have:=(World.ownsRow.lt HO1.out k h).1;omega
   ·have:=(World.ownsRow.lt HO2.out k h).1;omega
  have hbp:¬V bp:=fun h=>by have:=hVlo bp h;omega
  refine⟨_,⟨HR.out.bel.trans (hBV.below HR.out.bel.size fun k hk=>Nat.le_trans hhi (hVlo k hk)),hhi,?_,hpb,.slice (some ⟨g,0,none⟩) (X.length+1) cap,.slice (some ⟨g5,0,none⟩) (X.length+1) cap5,?_,?_,?_,?_,rfl⟩,hBV,fun k hk=> ?_⟩
  ·exact(hBV.cell (a:=⟨bp,0,none⟩) (by show bp<w.heap.size;omega) hbp).trans HR.out.pc
  ·rw[lastL_push,lastE_push];exact S6.out
  ·rw[tabs_push,List.length_append,List.length_singleton];exact O7.out
  ·rw[plcs_push,List.length_append,List.length_singleton];exact O6.out
  ·intro k hk hk'
   have e1:g=k:=by simpa[Value.ownBlock]using hk
   have e2:g5=k:=by simpa[Value.ownBlock]using hk'
   exact hgg (e1.trans e2.symm)
  ·rw[hV]
   rcases hk with rfl|hk|hk
   ·exact .inl (.inl rfl)
   ·have e1:g=k:=by simpa[Value.ownBlock]using hk
    subst e1
    rcases G3.out.at' with h3|h3
    ·exact .inl (.inr (.inl h3))
    ·exact .inr (by omega)
   ·have e1:g5=k:=by simpa[Value.ownBlock]using hk
    subst e1
    rcases G5.out.at' with h3|h3
    ·exact .inl (.inr (.inr h3))
    ·rw[hsz4]at h3;exact .inr (by omega)
 clear hown4 hown5 hgrow5 hat5 hlt5 hblk hgg e7 ef7 e8 ef8 y1
 go_wp2_with fail
 go_end0
 exact⟨rfl,fin.out⟩
theorem enters_find1:∀args w,(callFunc 215 args).run Tryz.prog w= .ok (.enter 215 args) w:=fun args w=>by simp[go_sem]
theorem enters_find2:∀args w,(callFunc 216 args).run Tryz.prog w= .ok (.enter 216 args) w:=fun args w=>by simp[go_sem]
theorem find_tells {b:Nat} {S:Pg.Fs} {F:Nat->Prop} {w0:World} {bp c:Nat} {p:Int} (hp:Pg.below p 4096=true) (h:FrAt w0 b S F):
 Tells b S F 215 216 #[.pointer (some ⟨bp,0,none⟩)] #[.pointer (some ⟨c,0,none⟩)] (Pg.onW p) (Spots w0 bp c p):=
 ⟨enters_find1,enters_find2,fun _ _ _ hR=>hR.fr h,fun _ _ _ hR _ hk=>hR.lt hk,fun _ _ _ _ hR hb=>hR.grow hb,
  fun i lv _ _ w _ hl hR=>below_of_same (wfind1_any i lv p hp hl w hR.pc),fun s X V w _ _ _ hl hR=>find2_any s X V w hl hR⟩
def fndX (S:Pg.Fs) (t p:Int):List Pg.Sp:=if Pg.below p 4096=true/\(Pg.thr S (Pg.onW p) 3 t 0).2=0 then(Pg.thr S (Pg.onW p) 3 t 0).1 else []
def fndC (S:Pg.Fs) (t p:Int):Int:=if Pg.below p 4096=true then(Pg.thr S (Pg.onW p) 3 t 0).2 else 1
def spotV (X:List Pg.Sp) (v1 v2:Value):Value:= .agg #[.int .i64 (lastL X),.bool (lastE X).t,.bool (lastE X).l,.int .i64 (lastE X).r,.bool (lastE X).u,.bool (lastE X).d,.int .i64 (lastE X).f,v1,v2]
theorem later9 {w w':World} {b:Nat} {v0 v1 v2 v3 v4 v5 v6 v7 v8:Value} (hk:w'.heap[b]?=w.heap[b]?)
 (h:w.cell? ⟨b,0,none⟩=some v0/\w.cell? ⟨b,1,none⟩=some v1/\w.cell? ⟨b,2,none⟩=some v2/\w.cell? ⟨b,3,none⟩=some v3/\w.cell? ⟨b,4,none⟩=some v4/\w.cell? ⟨b,5,none⟩=some v5/\w.cell? ⟨b,6,none⟩=some v6/\w.cell? ⟨b,7,none⟩=some v7/\w.cell? ⟨b,8,none⟩=some v8):
 w'.cell? ⟨b,0,none⟩=some v0/\w'.cell? ⟨b,1,none⟩=some v1/\w'.cell? ⟨b,2,none⟩=some v2/\w'.cell? ⟨b,3,none⟩=some v3/\w'.cell? ⟨b,4,none⟩=some v4/\w'.cell? ⟨b,5,none⟩=some v5/\w'.cell? ⟨b,6,none⟩=some v6/\w'.cell? ⟨b,7,none⟩=some v7/\w'.cell? ⟨b,8,none⟩=some v8:=
 ⟨(World.cell?_of_block hk).trans h.1,(World.cell?_of_block hk).trans h.2.1,(World.cell?_of_block hk).trans h.2.2.1,(World.cell?_of_block hk).trans h.2.2.2.1,(World.cell?_of_block hk).trans h.2.2.2.2.1,(World.cell?_of_block hk).trans h.2.2.2.2.2.1,(World.cell?_of_block hk).trans h.2.2.2.2.2.2.1,(World.cell?_of_block hk).trans h.2.2.2.2.2.2.2.1,(World.cell?_of_block hk).trans h.2.2.2.2.2.2.2.2⟩
theorem but_set9 {F:Nat->Prop} {w w1:World} (h:But F w w1) (r:Nat) (hr:w.heap.size<=r\/F r) (x0 x1 x2 x3 x4 x5 x6 x7 x8:Value):
 But F w (((((((((w1.setCell ⟨r,0,none⟩ x0).setCell ⟨r,1,none⟩ x1).setCell ⟨r,2,none⟩ x2).setCell ⟨r,3,none⟩ x3).setCell ⟨r,4,none⟩ x4).setCell ⟨r,5,none⟩ x5).setCell ⟨r,6,none⟩ x6).setCell ⟨r,7,none⟩ x7).setCell ⟨r,8,none⟩ x8):=
 ((((((((h.setCell (a:=⟨r,0,none⟩) hr x0).setCell (a:=⟨r,1,none⟩) hr x1).setCell (a:=⟨r,2,none⟩) hr x2).setCell (a:=⟨r,3,none⟩) hr x3).setCell (a:=⟨r,4,none⟩) hr x4).setCell (a:=⟨r,5,none⟩) hr x5).setCell (a:=⟨r,6,none⟩) hr x6).setCell (a:=⟨r,7,none⟩) hr x7).setCell (a:=⟨r,8,none⟩) hr x8
set_option maxHeartbeats 1000000 in
theorem wFind_own {b:Nat} {S:Pg.Fs} {F:Nat->Prop} (t p:Int) (w:World) (h:FrAt w b S F):
 Calls Tryz.prog 190 #[.pointer (some ⟨b,0,none⟩),.int .i64 t,.int .i64 p] w fun e w'=>∃v1 v2,e= .returned (.tuple #[spotV (fndX S t p) v1 v2,.int .i64 (fndC S t p)])/\w'.ownsRow w.heap.size 3 1 v1 (fndX S t p).length (ints (tabs (fndX S t p)))/\w'.ownsRow w.heap.size 3 1 v2 (fndX S t p).length (ints (plcs (fndX S t p)))/\(∀k,v1.ownBlock=some k->v2.ownBlock≠some k)/\Below w.heap.size w w':=by
 have HH:=has_any p
 cases hp:Pg.below p 4096
 ·have e1:fndX S t p=[]:=by simp[fndX,hp]
  have e2:fndC S t p=1:=by simp[fndC,hp]
  rw[e1,e2]
  rw[hp]at HH
  clear h e1 e2
  go_enter Tryz.func190,Tryz.ntmps190
  go_wp2_with fail
  refine(HH _).mono ?_
  rintro e w1 ⟨rfl,rfl⟩
  go_wp2_with fail
  refine bodyPost_ret (v:= .tuple #[spotV [] (.slice none 0 0) (.slice none 0 0),.int .i64 1]) ?_ rfl ⟨.slice none 0 0,.slice none 0 0,rfl,World.ownsRow_nil _ _ _ _,World.ownsRow_nil _ _ _ _,fun k hk=>by simp[Value.ownBlock]at hk,?_⟩
  ·simp[results,Tryz.results190,go_sem,spotV,lastL,lastE,Pg.En.zero]
  ·exact zA (zA (zR w) _) _
 ·have e2:fndC S t p=(Pg.thr S (Pg.onW p) 3 t 0).2:=by simp[fndC,hp]
  have e1:fndX S t p=if (Pg.thr S (Pg.onW p) 3 t 0).2=0 then(Pg.thr S (Pg.onW p) 3 t 0).1 else []:=by simp[fndX,hp]
  rw[e1,e2]
  rw[hp]at HH
  obtain⟨W,hW⟩:∃W,W=((w.alloc (.cells #[.int .i64 p] 3)).alloc (.cells #[.int .i64 0,.bool false,.bool false,.int .i64 0,.bool false,.bool false,.int .i64 0,.slice none 0 0,.slice none 0 0] 213)).alloc (.cells #[.int .i64 0,.bool false,.bool false,.int .i64 0,.bool false,.bool false,.int .i64 0,.slice none 0 0,.slice none 0 0] 213):=⟨_,rfl⟩
  have hB:Below w.heap.size w W:=by rw[hW];exact zA (zA (zA (zR w) _) _) _
  have hK:Spots w w.heap.size (w.heap.size+2) p [] (fun k=>k=w.heap.size+2\/(Value.slice none 0 0).ownBlock=some k\/(Value.slice none 0 0).ownBlock=some k) W:=by
   refine⟨hB,by omega,by rw[hW];simp[go_sem],by omega,.slice none 0 0,.slice none 0 0,?_,World.ownsRow_nil _ _ _ _,World.ownsRow_nil _ _ _ _,fun k hk=>by simp[Value.ownBlock]at hk,rfl⟩
   rw[hW]
   refine⟨?_,?_,?_,?_,?_,?_,?_,?_,?_,fun o=> ?_⟩<;>simp[go_sem,lastL,lastE,Pg.En.zero]
  have HC:Hid _:=from_any (find_tells hp h) t _ W hK
  have hres:W.cell? ⟨w.heap.size+1,0,none⟩=some (.int .i64 0)/\W.cell? ⟨w.heap.size+1,1,none⟩=some (.bool false)/\W.cell? ⟨w.heap.size+1,2,none⟩=some (.bool false)/\W.cell? ⟨w.heap.size+1,3,none⟩=some (.int .i64 0)/\W.cell? ⟨w.heap.size+1,4,none⟩=some (.bool false)/\W.cell? ⟨w.heap.size+1,5,none⟩=some (.bool false)/\W.cell? ⟨w.heap.size+1,6,none⟩=some (.int .i64 0)/\W.cell? ⟨w.heap.size+1,7,none⟩=some (.slice none 0 0)/\W.cell? ⟨w.heap.size+1,8,none⟩=some (.slice none 0 0):=by rw[hW];simp[go_sem]
  have hrf:∀o,W.frozen? ⟨w.heap.size+1,o,none⟩=false:=fun o=>by rw[hW];simp[go_sem]
  have HRS:Hid _:=hres
  have HRF:Hid _:=hrf
  have hWs:W.heap.size=w.heap.size+3:=by rw[hW];simp
  clear h hK hB e1 e2 hres hrf hp
  generalize Pg.thr S (Pg.onW p) 3 t 0=th at*
  go_enter Tryz.func190,Tryz.ntmps190
  go_wp2_with fail
  refine(HH _).mono ?_
  rintro e w1 ⟨rfl,rfl⟩
  go_wp2_with fail
  rw[<-hW]
  refine Calls.mono HC.out ?_
  rintro e w1 ⟨rfl,V1,hK1,hb1,hn1⟩
  have HB:Hid (Below w.heap.size w w1):=hK1.bel
  have hblk:w1.heap[w.heap.size+1]?=W.heap[w.heap.size+1]?:=hb1.block _ (by omega) fun e=>by
   rcases e with e|e|e
   ·omega
   ·simp[Value.ownBlock]at e
   ·simp[Value.ownBlock]at e
  have R1:Hid _:=later9 hblk HRS.out
  have F1:∀o,w1.frozen? ⟨w.heap.size+1,o,none⟩=false:=fun o=>(World.frozen?_of_block hblk).trans (HRF.out o)
  have hl1:w.heap.size+1<w1.heap.size:=World.block_lt_of_cell? _ _ R1.out.1
  obtain⟨r0,r1,r2,r3,r4,r5,r6,r7,r8⟩:=R1.out
  clear hb1 hn1 hblk
  by_cases hc:th.2=0
  ·have hcb:(th.2 !=0)=false:=by simp[hc]
   obtain⟨v1,v2,hs,o1,o2,hne,_⟩:=hK1.var
   obtain⟨a1,c1,rfl⟩:=zF o1
   obtain⟨a2,c2,rfl⟩:=zF o2
   have HNE:Hid (∀k,(Value.slice a1 th.1.length c1).ownBlock=some k->(Value.slice a2 th.1.length c2).ownBlock≠some k):=hne
   clear hne
   have O1:Hid (w1.ownsRow (w.heap.size+2+1) 3 1 (.slice a1 th.1.length c1) th.1.length (ints (tabs th.1))):=o1
   have O2:Hid (w1.ownsRow (w.heap.size+2+1) 3 1 (.slice a2 th.1.length c2) th.1.length (ints (plcs th.1))):=o2
   have HC0:Hid _:=hc
   obtain⟨s0,s1,s2,s3,s4,s5,s6,s7,s8,_⟩:=hs
   clear hK1 o1 o2 hc
   have HV:Hid (spotV th.1 (.slice a1 th.1.length c1) (.slice a2 th.1.length c2)= .agg #[.int .i64 (lastL th.1),.bool (lastE th.1).t,.bool (lastE th.1).l,.int .i64 (lastE th.1).r,.bool (lastE th.1).u,.bool (lastE th.1).d,.int .i64 (lastE th.1).f,.slice a1 th.1.length c1,.slice a2 th.1.length c2]):=rfl
   go_wp2_with fail
   refine bodyPost_ret (v:= .tuple #[spotV th.1 (.slice a1 th.1.length c1) (.slice a2 th.1.length c2),.int .i64 0]) ?_ rfl ?_
   ·rw[HV.out]
    simp[results,Tryz.results190,go_sem,r0,r1,r2,r3,r4,r5,r6,r7,r8]
   ·have hbt:=but_set9 (But.refl (fun k=>k=w.heap.size+1) w1) (w.heap.size+1) (.inr rfl) (.int .i64 (lastL th.1)) (.bool (lastE th.1).t) (.bool (lastE th.1).l) (.int .i64 (lastE th.1).r) (.bool (lastE th.1).u) (.bool (lastE th.1).d) (.int .i64 (lastE th.1).f) (.slice a1 th.1.length c1) (.slice a2 th.1.length c2)
    refine⟨.slice a1 th.1.length c1,.slice a2 th.1.length c2,rfl,?_,?_,HNE.out,?_⟩
    ·exact owns_le (ownsMaps_but O1.out hbt fun k hk e=>by have:=(World.ownsRow.lt O1.out k hk).1;omega) (by omega)
    ·exact owns_le (ownsMaps_but O2.out hbt fun k hk e=>by have:=(World.ownsRow.lt O2.out k hk).1;omega) (by omega)
    ·exact HB.out.trans (hbt.below HB.out.size fun k hk=>by omega)
  ·have hcb:(th.2 !=0)=true:=by simp[hc]
   have HC0:Hid _:=hc
   clear hK1 hc
   go_wp2_with fail
   refine bodyPost_ret (v:= .tuple #[spotV [] (.slice none 0 0) (.slice none 0 0),.int .i64 th.2]) ?_ rfl ?_
   ·simp[results,Tryz.results190,go_sem,r0,r1,r2,r3,r4,r5,r6,r7,r8,spotV,lastL,lastE,Pg.En.zero]
   ·have hbt:=but_set9 (But.refl (fun k=>k=w.heap.size+1) w1) (w.heap.size+1) (.inr rfl) (.int .i64 0) (.bool false) (.bool false) (.int .i64 0) (.bool false) (.bool false) (.int .i64 0) (.slice none 0 0) (.slice none 0 0)
    exact⟨.slice none 0 0,.slice none 0 0,rfl,World.ownsRow_nil _ _ _ _,World.ownsRow_nil _ _ _ _,fun k hk=>by simp[Value.ownBlock]at hk,HB.out.trans (hbt.below HB.out.size fun k hk=>by omega)⟩
end Go.Proofs.YtkhnelgommaioaaGreat
