import Derived.Test.YtkhnelgommaioaaGreatTlbDel
import Derived.Test.YtkhnelgommaioaaGreatPageB
import Derived.Deep.RegionLaw
namespace Go.Proofs.YtkhnelgommaioaaGreat
open Go.RowKit Go.Sort
set_option linter.unusedVariables false
set_option maxRecDepth 100000
structure Chg (b o:Nat) (F:Nat->Prop) (w w':World):Prop where
 but:But F w w'
 oth:∀p,p≠o->w'.cell? ⟨b,p,none⟩=w.cell? ⟨b,p,none⟩
theorem Chg.of_below {b o:Nat} {F:Nat->Prop} {w w':World} (h:Below w.heap.size w w') (hb:b<w.heap.size):Chg b o F w w':=⟨But.of_below h,fun p _=>h.cell (p:=⟨b,p,none⟩) hb⟩
theorem Chg.trans {b o:Nat} {F G:Nat->Prop} {w w1 w2:World} (h:Chg b o F w w1) (k:Chg b o G w1 w2) (hG:∀i,i<w.heap.size->G i->F i):Chg b o F w w2:=
 ⟨h.but.trans k.but hG,fun p hp=>(k.oth p hp).trans (h.oth p hp)⟩
structure Tbk (w:World) (b o:Nat) (vb:Value) (L:List Pg.Ln):Prop where
 c0:w.cell? ⟨b,o,none⟩=some vb
 fb:∀p,w.frozen? ⟨b,p,none⟩=false
 row:w.ownsRow 0 141 5 vb L.length (zL L)
 nb:vb.ownBlock≠some b
 kept:Pg.Kept L
namespace Tbk
variable {w w' W:World} {b o:Nat} {vb v':Value} {L L':List Pg.Ln}
theorem lb (h:Tbk w b o vb L):b<w.heap.size:=World.block_lt_of_cell? _ _ h.c0
theorem lt (h:Tbk w b o vb L) {k:Nat} (hk:bkF b vb k):k<w.heap.size:=by
 rcases hk with rfl|hk
 ·exact h.lb
 ·exact(h.row.lt k hk).2
theorem keep (h:Tbk w b o vb L) {F:Nat->Prop} (hb:But F w w') (hF:∀k,bkF b vb k->¬F k):Tbk w' b o vb L:=by
 have kb:=hb.block b h.lb (hF b (.inl rfl))
 exact⟨(World.cell?_of_block kb).trans h.c0,fun p=>(World.frozen?_of_block kb).trans (h.fb p),ownsMaps_but h.row hb fun k hk=>hF k (.inr hk),h.nb,h.kept⟩
theorem grow (h:Tbk w b o vb L) (hb:Below w.heap.size w w'):Tbk w' b o vb L:=h.keep (F:=fun _=>False) (But.of_below hb) (fun _ _=>id)
theorem put (h:Tbk w b o vb L) (hb:But (fun j=>vb.ownBlock=some j) w W) (hr:W.ownsRow 0 141 5 v' L'.length (zL L')) (hv:∀j,v'.ownBlock=some j->vb.ownBlock=some j\/w.heap.size<=j) (hg:Pg.Kept L'):
 Tbk (W.setCell ⟨b,o,none⟩ v') b o v' L'/\Chg b o (bkF b vb) w (W.setCell ⟨b,o,none⟩ v')/\(∀k,bkF b v' k->bkF b vb k\/w.heap.size<=k):=by
 have hl:=h.lb
 have kb:W.heap[b]?=w.heap[b]?:=hb.block b hl h.nb
 have hc:W.cell? ⟨b,o,none⟩=some vb:=(World.cell?_of_block (a:=⟨b,o,none⟩) kb).trans h.c0
 have hne:v'.ownBlock≠some b:=fun e=>(hv b e).elim h.nb (fun h=>by omega)
 refine⟨⟨World.cell?_setCell_same _ _ _ hc,fun p=> ?_,?_,hne,hg⟩,⟨?_,fun p hp=> ?_⟩,fun k hk=> ?_⟩
 ·have:=(World.frozen?_of_block (a:=⟨b,p,none⟩) kb).trans (h.fb p)
  simpa using this
 ·exact owns_of_block hr fun k hk=>Below.heap_setCell _ _ _ _ (fun e=>hne (by rw[hk];exact congrArg some e))
 ·exact(hb.mono (G:=bkF b vb) fun i _ hi=> .inr hi).setCell (a:=⟨b,o,none⟩) (.inr (.inl rfl)) _
 ·rw[World.cell?_setCell_other _ _ _ _ (fun e=>hp (by injection e with _ e;exact e.symm))]
  exact World.cell?_of_block (a:=⟨b,p,none⟩) kb
 ·rcases hk with rfl|hk
  ·exact .inl (.inl rfl)
  ·exact(hv k hk).imp .inr id
end Tbk
structure TbAt (w:World) (b o:Nat) (L:List Pg.Ln) (F:Nat->Prop):Prop where
 ex:∃vb,Tbk w b o vb L/\F=bkF b vb
section
variable {w w':World} {b o:Nat} {L:List Pg.Ln} {F G:Nat->Prop}
theorem TbAt.lt (h:TbAt w b o L F) {k:Nat} (hk:F k):k<w.heap.size:=by
 obtain⟨vb,h,rfl⟩:=h
 exact h.lt hk
theorem TbAt.kept (h:TbAt w b o L F):Pg.Kept L:=by
 obtain⟨vb,h,rfl⟩:=h
 exact h.kept
theorem TbAt.keep (h:TbAt w b o L F) (hb:But G w w') (hF:∀k,F k->¬G k):TbAt w' b o L F:=by
 obtain⟨vb,h,rfl⟩:=h
 exact⟨vb,h.keep hb hF,rfl⟩
theorem TbAt.grow (h:TbAt w b o L F) (hb:Below w.heap.size w w'):TbAt w' b o L F:=h.keep (G:=fun _=>False) (But.of_below hb) (fun _ _=>id)
end
theorem tboxed {w:World} {vb:Value} {L:List Pg.Ln} {t:TypeId} (hr:w.ownsRow 0 141 5 vb L.length (zL L)) (hg:Pg.Kept L):Tbk (w.alloc (.cells #[vb] t)) w.heap.size 0 vb L:=by
 have hb:=heap_alloc_new w (.cells #[vb] t)
 refine⟨cell_of_row _ _ 0 _ _ _ hb,fun o=>by unfold World.frozen?;simp only[hb];simp,hr.alloc _,fun e=> ?_,hg⟩
 have:=(hr.lt _ e).2
 omega
theorem tbNew_any (w:World):
 Calls Tryz.prog 87 #[] w fun e w'=>∃b F,e= .returned (.pointer (some ⟨b,0,none⟩))/\TbAt w' b 0 [] F/\Below w.heap.size w w'/\∀k,F k->w.heap.size<=k:=by
 go_enter Tryz.func87,Tryz.ntmps87
 go_wp2_with fail
 go_ret
 refine⟨_,_,rfl,⟨.slice none 0 0,tboxed (World.ownsRow_nil _ _ _ _) Pg.Kept.nil,rfl⟩,zA (zR _) _,fun k hk=> ?_⟩
 rcases hk with rfl|hk
 ·exact Nat.le_refl _
 ·simp[Value.ownBlock]at hk
section
variable {b o:Nat} {L:List Pg.Ln} {F:Nat->Prop}
theorem tbList_any (w:World) (h:TbAt w b o L F):
 Calls Tryz.prog 70 #[.pointer (some ⟨b,o,none⟩)] w fun e w'=>∃ad cap,e= .returned (.slice ad L.length cap)/\LinesAt w' ad L/\Below w.heap.size w w'/\∀k,(Value.slice ad L.length cap).ownBlock=some k->w.heap.size<=k:=by
 obtain⟨vb,h,rfl⟩:=h
 have hc0:=h.c0
 have HC:Hid _:=lnClone_any w h.row h.kept.le
 clear h
 go_enter Tryz.func70,Tryz.ntmps70
 go_wp2_with fail
 refine Calls.mono HC.out ?_
 rintro e w1 ⟨v',rfl,hr,hb⟩
 obtain⟨ad,cap,rfl⟩:=zF hr
 have HR:Hid _:=hr
 have HB:Hid _:=hb
 clear hr hb
 go_wp2_with fail
 go_ret
 exact⟨ad,cap,rfl,ownsAt_lines (OwnsAt.of_row HR.out),HB.out,fun k hk=>(World.ownsRow.lt HR.out k hk).1⟩
theorem find1_any {bq oq:Nat} (q:Int) (hq:Pg.fits q) (l:Pg.Ln) (hl:Pg.fits l.m.p) (w:World) (hc:w.cell? ⟨bq,oq,none⟩=some (.int .i64 q)):
 Calls Tryz.prog 178 #[l.val,.pointer (some ⟨bq,oq,none⟩)] w fun e w'=>e= .returned (.bool (l.has q))/\Below w.heap.size w w':=by
 obtain⟨⟨p,s,f,r⟩,d⟩:=l
 have hbq:=World.block_lt_of_cell? _ _ hc
 have HO:=over_any p s f r q hl hq
 simp only[Pg.Ln.val,Pg.Ln.has,Pg.Mp.has]
 generalize Pg.over p s q=x at*
 go_enter Tryz.func178,Tryz.ntmps178
 go_wp2_with fail
 refine(HO _).mono ?_
 rintro e w1 ⟨rfl,hb1⟩
 go_wp2_with fail
 go_ret
 exact⟨rfl,zT (zA (zR _) _) hb1⟩
theorem drop1_any {bm om:Nat} (m:Pg.Mp) (hm:Pg.fits m.p) (l:Pg.Ln) (hl:Pg.fits l.m.p) (w:World) (hc:MpAt w bm om m):
 Calls Tryz.prog 212 #[l.val,.pointer (some ⟨bm,om,none⟩)] w fun e w'=>e= .returned (.bool (l.meets m))/\Below w.heap.size w w':=by
 obtain⟨⟨p,s,f,r⟩,d⟩:=l
 obtain⟨p',s',f',r'⟩:=m
 obtain⟨c0,c1,c2,c3⟩:=hc
 have hbq:=World.block_lt_of_cell? _ _ c0
 have HO:=meet_any p s f r p' s' f' r' hl hm
 simp only at c0 c1 c2 c3
 simp only[Pg.Ln.val,Pg.Ln.meets,Pg.Mp.meets]
 generalize Pg.meet p s p' s'=x at*
 go_enter Tryz.func212,Tryz.ntmps212
 go_wp2_with fail
 refine(HO _).mono ?_
 rintro e w1 ⟨rfl,hb1⟩
 go_wp2_with fail
 go_ret
 exact⟨rfl,zT (zA (zR _) _) hb1⟩
theorem below_set5 {w w1:World} (h:Below w.heap.size w w1) (r:Nat) (hr:w.heap.size<=r) (x0 x1 x2 x3 x4:Value):
 Below w.heap.size w (((((w1.setCell ⟨r,0,none⟩ x0).setCell ⟨r,1,none⟩ x1).setCell ⟨r,2,none⟩ x2).setCell ⟨r,3,none⟩ x3).setCell ⟨r,4,none⟩ x4):=
 ((((h.setCell hr _).setCell hr _).setCell hr _).setCell hr _).setCell hr _
set_option maxHeartbeats 4000000 in
theorem tbFind_any (q:Int) (hq:Pg.fits q) (w:World) (h:TbAt w b o L F):
 Calls Tryz.prog 142 #[.pointer (some ⟨b,o,none⟩),.int .i64 q] w fun e w'=>e= .returned (.tuple #[(Pg.kAt L q).val,.bool (Pg.kFnd L q).isSome])/\Below w.heap.size w w':=by
 obtain⟨vb,h,rfl⟩:=h
 obtain⟨ad,cap,rfl⟩:=zF h.row
 obtain⟨W,hW⟩:∃W,W=(w.alloc (.cells #[.int .i64 q] 3)).alloc (.cells #[.int .i64 0,.int .i64 0,.int .i64 0,.int .i64 0,.bool false] 141):=⟨_,rfl⟩
 have hB:Below w.heap.size w W:=by rw[hW];exact zA (zA (zR _) _) _
 have hT:=h.grow hB
 have k1:W.cell? ⟨w.heap.size,0,none⟩=some (.int .i64 q):=by rw[hW];simp[go_sem]
 have HI:=idxFunc_any (cap:=cap) (fun l=>l.has q) 178 #[.pointer (some ⟨w.heap.size,0,none⟩)] W (ownsAt_lines (OwnsAt.of_row hT.row)) h.kept.le (fun args w=>by simp[go_sem]) (fun j w' hj hb=>find1_any q hq _ (h.kept.fits hj) w' (cell_later hb k1))
 have hlb:=h.lb
 have hc0:=hT.c0
 have hc00:=h.c0
 have hlen:=h.kept.le
 have hsz:W.heap.size=w.heap.size+2:=by rw[hW];simp
 cases hf:Pg.kFnd L q with
 | none=>
   have e1:Pg.kAt L q= .zz:=by simp only[Pg.kAt,hf]
   have e2:Pg.idxN L (fun l=>l.has q)= -1:=by
    unfold Pg.kFnd at hf
    simp only[Pg.idxN,hf]
   rw[e2]at HI
   have HB:Hid _:=hB
   rw[e1]
   clear e1 e2 hf h hT hB k1
   go_enter Tryz.func142,Tryz.ntmps142
   go_wp2_with fail
   rw[<-hW]
   refine HI.mono ?_
   rintro e w1 ⟨rfl,hb1⟩
   have hr:∀p,w1.cell? ⟨w.heap.size+1,p,none⟩=_:=fun p=>hb1.cell (p:=⟨w.heap.size+1,p,none⟩) (by simp;omega)
   have hf:∀p,w1.frozen? ⟨w.heap.size+1,p,none⟩=_:=fun p=>hb1.frozen (p:=⟨w.heap.size+1,p,none⟩) (by simp;omega)
   rw[hW]at hr hf
   have HB1:Hid _:=zT HB.out hb1
   clear hb1 HI HB hc0 hc00 hW
   go_wp2_with fail
   refine bodyPost_ret (v:= .tuple #[.agg #[.int .i64 0,.int .i64 0,.int .i64 0,.int .i64 0,.bool false],.bool false]) ?_ rfl ⟨rfl,?_⟩
   ·simp[results,Tryz.results142,go_sem,hr]
   ·exact below_set5 HB1.out _ (Nat.le_succ _) _ _ _ _ _
 | some k=>
   obtain⟨hk,_,_⟩:=Pg.kFnd_some hf
   have e1:Pg.kAt L q=L.getD k .zz:=by simp only[Pg.kAt,hf]
   have e2:Pg.idxN L (fun l=>l.has q)=(k:Int):=by
    unfold Pg.kFnd at hf
    simp only[Pg.idxN,hf]
   rw[e2]at HI
   obtain⟨g,og,e3,hg,hm⟩:=ownsAt_lines (OwnsAt.of_row hT.row) k hk
   subst e3
   have HB:Hid _:=hB
   rw[e1]
   have i0:(0:Int)<=(k:Int):=by omega
   have i1:(k:Int)<(L.length:Int):=by omega
   have i2:¬(k:Int)<0:=by omega
   have hbW:b<W.heap.size:=Nat.lt_of_lt_of_le hlb hB.size
   clear e1 e2 hf h hT hB k1
   generalize L.getD k .zz=x at*
   obtain⟨⟨xp,xs,xf,xr⟩,xd⟩:=x
   simp only[Pg.Ln.val]
   go_enter Tryz.func142,Tryz.ntmps142
   go_wp2_with fail
   rw[<-hW]
   refine HI.mono ?_
   rintro e w1 ⟨rfl,hb1⟩
   have hr:∀p,w1.cell? ⟨w.heap.size+1,p,none⟩=_:=fun p=>hb1.cell (p:=⟨w.heap.size+1,p,none⟩) (by simp;omega)
   have hf:∀p,w1.frozen? ⟨w.heap.size+1,p,none⟩=_:=fun p=>hb1.frozen (p:=⟨w.heap.size+1,p,none⟩) (by simp;omega)
   rw[hW]at hr hf
   have HB1:Hid _:=zT HB.out hb1
   have c0:=cell_later hb1 hc0
   obtain⟨m0,m1,m2,m3,m4⟩:=hm.below hb1 hg
   simp only at m0 m1 m2 m3 m4
   have hbw:b<w1.heap.size:=Nat.lt_of_lt_of_le hbW hb1.size
   clear hb1 HI HB hc0 hc00 hW hm
   go_wp2_with fail
   refine bodyPost_ret (v:= .tuple #[.agg #[.int .i64 xp,.int .i64 xs,.int .i64 xf,.int .i64 xr,.bool xd],.bool true]) ?_ rfl ⟨rfl,?_⟩
   ·simp[results,Tryz.results142,go_sem,hr]
   ·exact below_set5 HB1.out _ (Nat.le_succ _) _ _ _ _ _
end
section
variable {b o:Nat} {L:List Pg.Ln} {F:Nat->Prop}
set_option maxHeartbeats 4000000 in
theorem tbDrop_any (m:Pg.Mp) (hm:Pg.fits m.p) (w:World) (h:TbAt w b o L F):
 Calls Tryz.prog 184 #[.pointer (some ⟨b,o,none⟩),m.val] w fun e w'=>e= .returned (.int .i64 ((L.length:Int)-((Pg.kDrop L m).length:Int)))/\∃F',TbAt w' b o (Pg.kDrop L m) F'/\Chg b o F w w'/\∀k,F' k->F k\/w.heap.size<=k:=by
 obtain⟨vb,h,rfl⟩:=h
 obtain⟨ad,cap,rfl⟩:=zF h.row
 obtain⟨W,hW⟩:∃W,W=w.alloc (.cells #[.int .i64 m.p,.int .i64 m.s,.int .i64 m.f,.int .i64 m.r] 39):=⟨_,rfl⟩
 have hB:Below w.heap.size w W:=by rw[hW];exact zA (zR _) _
 have hT:=h.grow hB
 have k1:MpAt W w.heap.size 0 m:=by rw[hW];exact⟨by simp[go_sem],by simp[go_sem],by simp[go_sem],by simp[go_sem]⟩
 have hsz:W.heap.size=w.heap.size+1:=by rw[hW];simp
 have hno:¬(Value.slice ad L.length cap).ownBlock=some w.heap.size:=fun e=>by have:=(h.row.lt _ e).2;omega
 have HD:=delFunc_any (cap:=cap) (fun l=>l.meets m) 212 #[.pointer (some ⟨w.heap.size,0,none⟩)] W hT.row h.kept.le (fun args w=>by simp[go_sem]) (fun j w' hj hb=>drop1_any m hm _ (h.kept.fits hj) w' ⟨(hb.cell (a:=⟨w.heap.size,0,none⟩) (by simp;omega) hno).trans k1.1,(hb.cell (a:=⟨w.heap.size,0+1,none⟩) (by simp;omega) hno).trans k1.2.1,(hb.cell (a:=⟨w.heap.size,0+2,none⟩) (by simp;omega) hno).trans k1.2.2.1,(hb.cell (a:=⟨w.heap.size,0+3,none⟩) (by simp;omega) hno).trans k1.2.2.2⟩)
 have e1:(L.filter fun l=> !l.meets m)=Pg.kDrop L m:=rfl
 rw[e1]at HD
 have hlb:=h.lb
 have hc0:=h.c0
 have hlen:=h.kept.le
 have hlen':=(h.kept.drop m).le
 have HT:Hid _:=hT
 have HX:Hid _:=h
 have HB:Hid _:=hB
 have HK:Hid _:=h.kept.drop m
 clear h hT hB k1 e1 hno
 generalize Pg.kDrop L m=L' at*
 obtain⟨mp,ms,mf,mr⟩:=m
 simp only[Pg.Mp.val]
 simp only at hW
 go_enter Tryz.func184,Tryz.ntmps184
 go_wp2_with fail
 rw[<-hW]
 refine HD.mono ?_
 rintro e w1 ⟨rfl,hr,hb1⟩
 have kb:w1.heap[b]?=W.heap[b]?:=hb1.block b (by omega) HT.out.nb
 have c0:w1.cell? ⟨b,o,none⟩=some (.slice ad L.length cap):=(World.cell?_of_block (a:=⟨b,o,none⟩) kb).trans HT.out.c0
 have cf:w1.frozen? ⟨b,o,none⟩=false:=(World.frozen?_of_block (a:=⟨b,o,none⟩) kb).trans (HT.out.fb o)
 have HF:Hid _:=HT.out.put hb1 hr (fun j hj=> .inl (by cases ad with|none=>exact absurd hj (by simp[Value.ownBlock])|some a=>exact hj)) HK.out
 clear hb1 hr kb HD hc0 hW
 go_wp2_with fail
 go_ret
 obtain⟨f1,f2,f3⟩:=HF.out
 refine⟨rfl,_,⟨_,f1,rfl⟩,(Chg.of_below (o:=o) HB.out hlb).trans f2 (fun i _ hi=>hi),fun k hk=>(f3 k hk).imp id (fun h=>by omega)⟩
set_option maxHeartbeats 4000000 in
theorem tbEvict_any (w:World) (h:TbAt w b o L F):
 Calls Tryz.prog 151 #[.pointer (some ⟨b,o,none⟩)] w fun e w'=>e= .returned (.bool (decide (0<L.length)))/\∃F',TbAt w' b o (L.drop 1) F'/\Chg b o F w w'/\∀k,F' k->F k\/w.heap.size<=k:=by
 obtain⟨vb,h,rfl⟩:=h
 obtain⟨ad,cap,rfl⟩:=zF h.row
 have hlb:=h.lb
 have hc0:=h.c0
 have hlen:=h.kept.le
 by_cases h0:0<L.length
 ·have HD:Hid _:=delFirst_any w h.row hlen h0
  have HX:Hid _:=h
  have e0:Hid (decide (0<L.length)=true):=by simp[Hid,h0]
  have n0:((L.length:Int)==0)=false:=by
   have:¬(L.length:Int)=0:=by omega
   simpa using this
  clear h
  go_enter Tryz.func151,Tryz.ntmps151
  go_wp2_with fail
  refine Calls.mono HD.out ?_
  rintro e w1 ⟨g,cap',he,rfl,hr,hb1⟩
  cases he
  have kb:w1.heap[b]?=w.heap[b]?:=hb1.block b (by omega) HX.out.nb
  have c0:w1.cell? ⟨b,o,none⟩=some (.slice (some ⟨g,0,none⟩) L.length cap):=(World.cell?_of_block (a:=⟨b,o,none⟩) kb).trans HX.out.c0
  have cf:w1.frozen? ⟨b,o,none⟩=false:=(World.frozen?_of_block (a:=⟨b,o,none⟩) kb).trans (HX.out.fb o)
  have HF:Hid _:=HX.out.put hb1 hr (fun j hj=> .inl hj) HX.out.kept.tail
  clear hb1 hr kb HD hc0
  go_wp2_with fail
  go_ret
  obtain⟨f1,f2,f3⟩:=HF.out
  refine⟨ret_bool e0.out.symm,_,⟨_,f1,rfl⟩,f2,f3⟩
 ·have hL:L=[]:=List.length_eq_zero_iff.1 (by omega)
  subst hL
  have HX:Hid _:=h
  clear h
  go_enter Tryz.func151,Tryz.ntmps151
  go_wp2_with fail
  go_ret
  exact⟨rfl,_,⟨_,HX.out,rfl⟩,Chg.of_below (zR _) hlb,fun k hk=> .inl hk⟩
set_option maxHeartbeats 4000000 in
theorem tbPut_any (l:Pg.Ln) (hm:Pg.fits l.m.p) (w:World) (h:TbAt w b o L F):
 Calls Tryz.prog 147 #[.pointer (some ⟨b,o,none⟩),l.val] w fun e w'=>e= .returned (.bool (l.m.code==0))/\∃F',TbAt w' b o (Pg.kPut L l) F'/\Chg b o F w w'/\∀k,F' k->F k\/w.heap.size<=k:=by
 have HX:Hid _:=h
 have hlF:∀k,F k->k<w.heap.size:=fun k hk=>h.lt hk
 have HCK:=check_any l.m.p l.m.s l.m.f l.m.r
 have hlb:b<w.heap.size:=by obtain⟨vb,h,_⟩:=h;exact h.lb
 by_cases hcode:l.m.code=0
 ·have hce:Pg.check l.m.p l.m.s l.m.f l.m.r=0:=hcode
  rw[hce]at HCK
  have hr:(l.m.code==0)=true:=by simp[hcode]
  have HKK:Hid (Pg.Kept (Pg.kPut L l)):=h.kept.put l
  have HLL:Hid ((Pg.kDrop L l.m).length<=6):=(h.kept.drop l.m).le
  have HD:=fun w' (hb:Below w.heap.size w w')=>tbDrop_any l.m hm w' (h.grow hb)
  rw[hr]
  rw[Pg.kPut_yes hcode]at HKK ⊢
  clear h hcode hce hr
  generalize Pg.kDrop L l.m=L1 at*
  obtain⟨L2,hL2⟩:∃L2,L2=Pg.kRoom L1:=⟨_,rfl⟩
  rw[<-hL2]at HKK
  have HLR:Hid (L2.length<=5):=by rw[hL2];exact Pg.kRoom_len HLL.out
  have HL2:Hid (L2=Pg.kRoom L1):=hL2
  clear hL2
  obtain⟨⟨mp,ms,mf,mr⟩,d⟩:=l
  simp only[Pg.Ln.val,Pg.Mp.val]at*
  have E2:=fun w' F' (h:TbAt w' b o L1 F')=>tbEvict_any w' h
  go_enter Tryz.func147,Tryz.ntmps147
  go_wp2_with fail
  refine(HCK _).mono ?_
  rintro e w1 ⟨rfl,hb1⟩
  have hx1:∀p,w1.cell? ⟨w.heap.size,p,none⟩=_:=fun p=>hb1.cell (p:=⟨w.heap.size,p,none⟩) (by simp)
  have hbb:Below w.heap.size w w1:=zT (zA (zR _) _) hb1
  have hs1:w.heap.size<w1.heap.size:=by have:=hb1.size;simp at this;omega
  have HB1:Hid _:=hbb
  clear hb1 hbb HCK
  go_wp2_with fail
  refine(HD _ HB1.out).mono ?_
  rintro e w2 ⟨rfl,F2,h2,hc2,hF2⟩
  have hnx:¬F w.heap.size:=fun hf=>by have:=hlF _ hf;omega
  have hx2:∀p,w2.cell? ⟨w.heap.size,p,none⟩=_:=fun p=>(hc2.but.cell (a:=⟨w.heap.size,p,none⟩) hs1 hnx).trans (hx1 p)
  have hs2:w.heap.size<w2.heap.size:=Nat.lt_of_lt_of_le hs1 hc2.but.size
  have HC2:Hid (Chg b o F w w2):=(Chg.of_below (o:=o) HB1.out hlb).trans hc2 (fun i _ hi=>hi)
  have hF2:Hid (∀k,F2 k->F k\/w.heap.size<k):=fun k hk=>(hF2 k hk).imp id (fun h=>by omega)
  obtain⟨vb2,t2,hvb2⟩:=h2.ex
  obtain⟨ad2,cap2,rfl⟩:=zF t2.row
  have c20:=t2.c0
  have l20:=t2.lb
  clear t2 hvb2 hc2 HD hx1 HX
  by_cases h6:L1.length=6
  ·have i6:((L1.length:Int)==6)=true:=by simp[h6]
   have eR:L1.drop 1=L2:=by rw[HL2.out];simp[Pg.kRoom,h6]
   rw[eR]at E2
   clear eR
   go_wp2_with fail
   refine(E2 _ _ h2).mono ?_
   rintro e w3 ⟨rfl,F3,h3,hc3,hF3⟩
   have hnx2:¬F2 w.heap.size:=fun hf=>(hF2.out _ hf).elim hnx (fun h=>by omega)
   have hx3:∀p,w3.cell? ⟨w.heap.size,p,none⟩=_:=fun p=>(hc3.but.cell (a:=⟨w.heap.size,p,none⟩) hs2 hnx2).trans (hx2 p)
   have lx3:w.heap.size<w3.heap.size:=Nat.lt_of_lt_of_le hs2 hc3.but.size
   have HC3:Hid (Chg b o F w w3):=HC2.out.trans hc3 (fun i hi hg=>(hF2.out i hg).elim id (fun h=>by omega))
   have HF3:Hid (∀k,F3 k->F k\/w.heap.size<=k):=fun k hk=>(hF3 k hk).elim (fun h=>(hF2.out k h).imp id (fun h=>by omega)) (fun h=> .inr (by omega))
   have H3:Hid _:=h3
   have x0:w3.cell? ⟨w.heap.size,0,none⟩=some (.int .i64 mp):=(hx3 0).trans (by simp[go_sem])
   have x1:w3.cell? ⟨w.heap.size,1,none⟩=some (.int .i64 ms):=(hx3 1).trans (by simp[go_sem])
   have x2:w3.cell? ⟨w.heap.size,2,none⟩=some (.int .i64 mf):=(hx3 2).trans (by simp[go_sem])
   have x3:w3.cell? ⟨w.heap.size,3,none⟩=some (.int .i64 mr):=(hx3 3).trans (by simp[go_sem])
   have x4:w3.cell? ⟨w.heap.size,4,none⟩=some (.bool d):=(hx3 4).trans (by simp[go_sem])
   clear hc3 hx3 hx2 h3 h2 c20 hF3 E2
   obtain⟨vb3,t3,rfl⟩:=H3.out.ex
   obtain⟨ad3,cap3,rfl⟩:=zF t3.row
   have hown:=t3.row
   have r0:=t3.c0
   have rf:=t3.fb o
   have hlk:=t3.lb
   have hn3:=t3.nb
   have hlen3:L2.length<=5:=HLR.out
   have HT3:Hid _:=t3
   have HK3:Hid (Pg.Kept (L2++[⟨⟨mp,ms,mf,mr⟩,d⟩])):=HKK.out
   obtain⟨q0,hqi,hz0,hz1,hz2⟩:=info_parts infoLine
   have hnews:∀(W:World) (j:Nat) (u:Value),[Value.int .i64 mp,.int .i64 ms,.int .i64 mf,.int .i64 mr,.bool d][j]?=some u->(W.alloc (.cells #[.int .i64 mp,.int .i64 ms,.int .i64 mf,.int .i64 mr,.bool d] 141)).cell? ((⟨W.heap.size,0,none⟩:Addr).add j)=some u:=fun W j u hu=>
    World.news_of_block (heap_alloc_new W _) j u hu
   have hone:∀u,u ∈ [Value.int .i64 mp,.int .i64 ms,.int .i64 mf,.int .i64 mr,.bool d]->u.oneCell'=true:=by
    intro u hu;simp at hu;rcases hu with rfl|rfl|rfl|rfl|rfl<;>rfl
   have hm1:L2.length+1<=maxLen:=by unfold maxLen;omega
   have hm2:(L2.length+1)*40<=140737488355328:=by omega
   have hlx:w.heap.size<w3.heap.size:=lx3
   clear t3 lx3
   go_wp2_with fail
   go_region_law (refine step_append_lies _ rfl (.tmp 25) (.tmp 27) 61 rfl 0 141 q0 _ 5 40 Tryz.underlying61 hqi hz0 hz1 hz2 rfl (by decide) (.slice ad3 L2.length cap3) _ _ (by simp[Act.eval]) (hown.alloc _) ⟨w3.heap.size,0,none⟩ 1 1 [.int .i64 mp,.int .i64 ms,.int .i64 mf,.int .i64 mr,.bool d] (by simp[Act.eval]) rfl (hnews w3) hone (by decide) hm1 hm2 (Nat.zero_le _) (w3.heap.size+1) (by simp) ?_;intro g6 cap6 w6 hown6 hgrow6 hat6 hlt6;have hG6:Hid ((w3.alloc (.cells #[.int .i64 mp,.int .i64 ms,.int .i64 mf,.int .i64 mr,.bool d] 141)).drew.grownBy w6 (Value.slice ad3 L2.length cap3).ownBlock):=hgrow6;have hk6:w6.heap[b]?=w3.heap[b]?:=(hG6.out.block b (by simp;omega) (fun e=>hn3 e.symm)).trans (Below.heap_alloc _ _ _ hlk);have e9:w6.cell? ⟨b,o,none⟩=some (.slice ad3 L2.length cap3):=(World.cell?_of_block hk6).trans r0;have ef9:w6.frozen? ⟨b,o,none⟩=false:=(World.frozen?_of_block hk6).trans rf;have hO6:Hid (w6.ownsRow 0 141 5 (.slice (some ⟨g6,0,none⟩) (L2.length+1) cap6) (L2.length+1) (zL L2++[.int .i64 mp,.int .i64 ms,.int .i64 mf,.int .i64 mr,.bool d])):=hown6;have hA6:Hid ((Value.slice ad3 L2.length cap3).ownBlock=some g6\/g6=w3.heap.size+1):=hat6;clear hown6 hgrow6 hat6 hk6)
   all_goals
    have hB6:But (fun j=>(Value.slice ad3 L2.length cap3).ownBlock=some j) w3 w6:=((But.refl _ w3).alloc _).drew.grown hG6.out (fun k hk=> .inr hk)
    have hr6:w6.ownsRow 0 141 5 (.slice (some ⟨g6,0,none⟩) (L2.length+1) cap6) (L2++[Pg.Ln.mk ⟨mp,ms,mf,mr⟩ d]).length (zL (L2++[Pg.Ln.mk ⟨mp,ms,mf,mr⟩ d])):=by
     rw[lnCells_push,List.length_append]
     exact hO6.out
    have HF:Hid _:=HT3.out.put hB6 hr6 (fun j hj=>by
     rcases hA6.out with h|h
     ·exact .inl (h.trans hj)
     ·exact .inr (by simp[Value.ownBlock]at hj;omega)) HK3.out
    clear hB6 hr6 hG6 hO6 hA6
    go_wp2_with fail
    go_ret
    obtain⟨f1,f2,f3⟩:=HF.out
    refine⟨rfl,_,by rw[<-HL2.out];exact⟨_,f1,rfl⟩,HC3.out.trans f2 (fun i hi hg=>(HF3.out i hg).elim id (fun h=>by omega)),fun k hk=>(f3 k hk).elim (HF3.out k) (fun h=> .inr (by omega))⟩
  ·have i6:((L1.length:Int)==6)=false:=by
    have:¬((L1.length:Int)=6):=by omega
    simpa using this
   have eR:L1=L2:=by rw[HL2.out];simp[Pg.kRoom,h6]
   rw[eR]at h2 c20 i6
   clear eR
   have HC3:Hid _:=HC2.out
   have HF3:Hid (∀k,F2 k->F k\/w.heap.size<=k):=fun k hk=>(hF2.out k hk).imp id (fun h=>by omega)
   have H3:Hid _:=h2
   have x0:w2.cell? ⟨w.heap.size,0,none⟩=some (.int .i64 mp):=(hx2 0).trans (by simp[go_sem])
   have x1:w2.cell? ⟨w.heap.size,1,none⟩=some (.int .i64 ms):=(hx2 1).trans (by simp[go_sem])
   have x2:w2.cell? ⟨w.heap.size,2,none⟩=some (.int .i64 mf):=(hx2 2).trans (by simp[go_sem])
   have x3:w2.cell? ⟨w.heap.size,3,none⟩=some (.int .i64 mr):=(hx2 3).trans (by simp[go_sem])
   have x4:w2.cell? ⟨w.heap.size,4,none⟩=some (.bool d):=(hx2 4).trans (by simp[go_sem])
   have lx3:w.heap.size<w2.heap.size:=hs2
   clear hx2 h2 E2 l20
   go_wp2_with fail
   clear c20
   generalize w2=w3 at*
   obtain⟨vb3,t3,rfl⟩:=H3.out.ex
   obtain⟨ad3,cap3,rfl⟩:=zF t3.row
   have hown:=t3.row
   have r0:=t3.c0
   have rf:=t3.fb o
   have hlk:=t3.lb
   have hn3:=t3.nb
   have hlen3:L2.length<=5:=HLR.out
   have HT3:Hid _:=t3
   have HK3:Hid (Pg.Kept (L2++[⟨⟨mp,ms,mf,mr⟩,d⟩])):=HKK.out
   obtain⟨q0,hqi,hz0,hz1,hz2⟩:=info_parts infoLine
   have hnews:∀(W:World) (j:Nat) (u:Value),[Value.int .i64 mp,.int .i64 ms,.int .i64 mf,.int .i64 mr,.bool d][j]?=some u->(W.alloc (.cells #[.int .i64 mp,.int .i64 ms,.int .i64 mf,.int .i64 mr,.bool d] 141)).cell? ((⟨W.heap.size,0,none⟩:Addr).add j)=some u:=fun W j u hu=>
    World.news_of_block (heap_alloc_new W _) j u hu
   have hone:∀u,u ∈ [Value.int .i64 mp,.int .i64 ms,.int .i64 mf,.int .i64 mr,.bool d]->u.oneCell'=true:=by
    intro u hu;simp at hu;rcases hu with rfl|rfl|rfl|rfl|rfl<;>rfl
   have hm1:L2.length+1<=maxLen:=by unfold maxLen;omega
   have hm2:(L2.length+1)*40<=140737488355328:=by omega
   have hlx:w.heap.size<w3.heap.size:=lx3
   clear t3 lx3
   go_wp2_with fail
   go_region_law (refine step_append_lies _ rfl (.tmp 25) (.tmp 27) 61 rfl 0 141 q0 _ 5 40 Tryz.underlying61 hqi hz0 hz1 hz2 rfl (by decide) (.slice ad3 L2.length cap3) _ _ (by simp[Act.eval]) (hown.alloc _) ⟨w3.heap.size,0,none⟩ 1 1 [.int .i64 mp,.int .i64 ms,.int .i64 mf,.int .i64 mr,.bool d] (by simp[Act.eval]) rfl (hnews w3) hone (by decide) hm1 hm2 (Nat.zero_le _) (w3.heap.size+1) (by simp) ?_;intro g6 cap6 w6 hown6 hgrow6 hat6 hlt6;have hG6:Hid ((w3.alloc (.cells #[.int .i64 mp,.int .i64 ms,.int .i64 mf,.int .i64 mr,.bool d] 141)).drew.grownBy w6 (Value.slice ad3 L2.length cap3).ownBlock):=hgrow6;have hk6:w6.heap[b]?=w3.heap[b]?:=(hG6.out.block b (by simp;omega) (fun e=>hn3 e.symm)).trans (Below.heap_alloc _ _ _ hlk);have e9:w6.cell? ⟨b,o,none⟩=some (.slice ad3 L2.length cap3):=(World.cell?_of_block hk6).trans r0;have ef9:w6.frozen? ⟨b,o,none⟩=false:=(World.frozen?_of_block hk6).trans rf;have hO6:Hid (w6.ownsRow 0 141 5 (.slice (some ⟨g6,0,none⟩) (L2.length+1) cap6) (L2.length+1) (zL L2++[.int .i64 mp,.int .i64 ms,.int .i64 mf,.int .i64 mr,.bool d])):=hown6;have hA6:Hid ((Value.slice ad3 L2.length cap3).ownBlock=some g6\/g6=w3.heap.size+1):=hat6;clear hown6 hgrow6 hat6 hk6)
   all_goals
    have hB6:But (fun j=>(Value.slice ad3 L2.length cap3).ownBlock=some j) w3 w6:=((But.refl _ w3).alloc _).drew.grown hG6.out (fun k hk=> .inr hk)
    have hr6:w6.ownsRow 0 141 5 (.slice (some ⟨g6,0,none⟩) (L2.length+1) cap6) (L2++[Pg.Ln.mk ⟨mp,ms,mf,mr⟩ d]).length (zL (L2++[Pg.Ln.mk ⟨mp,ms,mf,mr⟩ d])):=by
     rw[lnCells_push,List.length_append]
     exact hO6.out
    have HF:Hid _:=HT3.out.put hB6 hr6 (fun j hj=>by
     rcases hA6.out with h|h
     ·exact .inl (h.trans hj)
     ·exact .inr (by simp[Value.ownBlock]at hj;omega)) HK3.out
    clear hB6 hr6 hG6 hO6 hA6
    go_wp2_with fail
    go_ret
    obtain⟨f1,f2,f3⟩:=HF.out
    refine⟨rfl,_,by rw[<-HL2.out];exact⟨_,f1,rfl⟩,HC3.out.trans f2 (fun i hi hg=>(HF3.out i hg).elim id (fun h=>by omega)),fun k hk=>(f3 k hk).elim (HF3.out k) (fun h=> .inr (by omega))⟩
 ·have hr:(l.m.code==0)=false:=by simp[hcode]
  have hne:(Pg.check l.m.p l.m.s l.m.f l.m.r !=0)=true:=by
   have:Pg.check l.m.p l.m.s l.m.f l.m.r≠0:=hcode
   simpa using this
  rw[hr,Pg.kPut_no hcode]
  clear hcode hr h
  obtain⟨⟨mp,ms,mf,mr⟩,d⟩:=l
  simp only at HCK hne
  simp only[Pg.Ln.val]
  generalize Pg.check mp ms mf mr=x at*
  go_enter Tryz.func147,Tryz.ntmps147
  go_wp2_with fail
  refine(HCK _).mono ?_
  rintro e w1 ⟨rfl,hb1⟩
  have HB:Hid (Below w.heap.size w w1):=zT (zA (zR _) _) hb1
  clear hb1
  go_wp2_with fail
  go_ret
  exact⟨rfl,_,HX.out.grow HB.out,Chg.of_below HB.out hlb,fun k hk=> .inl hk⟩
end
end Go.Proofs.YtkhnelgommaioaaGreat
