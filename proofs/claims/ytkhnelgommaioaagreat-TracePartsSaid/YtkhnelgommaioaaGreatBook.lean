import Derived.Test.YtkhnelgommaioaaGreatBookFind
import Derived.Test.YtkhnelgommaioaaGreatBookDel
import Derived.Deep.RegionWith
namespace Go.Proofs.YtkhnelgommaioaaGreat
open Go.RowKit Go.Sort
set_option linter.unusedVariables false
set_option maxRecDepth 100000
structure DbAt (w:World) (b:Nat) (L:List Pg.Mp) (F:Nat->Prop):Prop where
 ex:∃vb,Dbk w b vb L/\F=bkF b vb
section
variable {w w':World} {b:Nat} {L:List Pg.Mp} {F G:Nat->Prop}
theorem DbAt.lt (h:DbAt w b L F) {k:Nat} (hk:F k):k<w.heap.size:=by
 obtain⟨vb,h,rfl⟩:=h
 exact h.lt hk
theorem DbAt.keep (h:DbAt w b L F) (hb:But G w w') (hF:∀k,F k->¬G k):DbAt w' b L F:=by
 obtain⟨vb,h,rfl⟩:=h
 exact⟨vb,h.keep hb hF,rfl⟩
end
theorem dboxed {w:World} {vb:Value} {L:List Pg.Mp} {t:TypeId} (hr:w.ownsRow 0 39 4 vb L.length (zC L)) (hg:Pg.Good L):Dbk (w.alloc (.cells #[vb] t)) w.heap.size vb L:=by
 have hb:=heap_alloc_new w (.cells #[vb] t)
 refine⟨cell_of_row _ _ 0 _ _ _ hb,fun o=>by unfold World.frozen?;simp only[hb];simp,hr.alloc _,fun e=> ?_,hg⟩
 have:=(hr.lt _ e).2
 omega
theorem dbNew_any (w:World):
 Calls Tryz.prog 74 #[] w fun e w'=>∃b F,e= .returned (.pointer (some ⟨b,0,none⟩))/\DbAt w' b [] F/\Below w.heap.size w w'/\∀k,F k->w.heap.size<=k:=by
 go_enter Tryz.func74,Tryz.ntmps74
 go_wp2_with fail
 go_ret
 refine⟨_,_,rfl,⟨.slice none 0 0,dboxed (World.ownsRow_nil _ _ _ _) Pg.Good.nil,rfl⟩,zA (zR _) _,fun k hk=> ?_⟩
 rcases hk with rfl|hk
 ·exact Nat.le_refl _
 ·simp[Value.ownBlock]at hk
section
variable {b:Nat} {L:List Pg.Mp} {F:Nat->Prop}
theorem dbList_any (w:World) (h:DbAt w b L F):
 Calls Tryz.prog 167 #[.pointer (some ⟨b,0,none⟩)] w fun e w'=>∃ad cap,e= .returned (.slice ad L.length cap)/\MapsAt w' ad L/\Below w.heap.size w w'/\∀k,(Value.slice ad L.length cap).ownBlock=some k->w.heap.size<=k:=by
 obtain⟨vb,h,rfl⟩:=h
 have hc0:=h.c0
 have HC:Hid _:=clone_any w h.row h.good.len
 clear h
 go_enter Tryz.func167,Tryz.ntmps167
 go_wp2_with fail
 refine Calls.mono HC.out ?_
 rintro e w1 ⟨v',rfl,hr,hb⟩
 obtain⟨ad,cap,rfl⟩:=zF hr
 have HR:Hid _:=hr
 have HB:Hid _:=hb
 clear hr hb
 go_wp2_with fail
 go_ret
 exact⟨ad,cap,rfl,owns_mapsAt HR.out,HB.out,fun k hk=>(World.ownsRow.lt HR.out k hk).1⟩
theorem dbCopy_any (w:World) (h:DbAt w b L F):
 Calls Tryz.prog 163 #[.pointer (some ⟨b,0,none⟩)] w fun e w'=>∃b' F',e= .returned (.pointer (some ⟨b',0,none⟩))/\DbAt w' b' L F'/\Below w.heap.size w w'/\∀k,F' k->w.heap.size<=k:=by
 obtain⟨vb,h,rfl⟩:=h
 have hc0:=h.c0
 have HG:Hid _:=h.good
 have HC:Hid _:=clone_any w h.row h.good.len
 clear h
 go_enter Tryz.func163,Tryz.ntmps163
 go_wp2_with fail
 refine Calls.mono HC.out ?_
 rintro e w1 ⟨v',rfl,hr,hb⟩
 obtain⟨ad,cap,rfl⟩:=zF hr
 have HR:Hid _:=hr
 have HB:Hid _:=hb
 clear hr hb
 go_wp2_with fail
 go_ret
 refine⟨_,_,rfl,⟨_,dboxed (ownsMaps_zero HR.out) HG.out,rfl⟩,zA HB.out _,fun k hk=> ?_⟩
 rcases hk with rfl|hk
 ·exact HB.out.size
 ·exact(World.ownsRow.lt HR.out k hk).1
set_option maxHeartbeats 4000000 in
theorem dbFind_any (q:Int) (hq:Pg.fits q) (w:World) (h:DbAt w b L F):
 Calls Tryz.prog 196 #[.pointer (some ⟨b,0,none⟩),.int .i64 q] w fun e w'=>e= .returned (.tuple #[(Pg.at' L q).val,.bool (Pg.fnd L q).isSome])/\Below w.heap.size w w':=by
 obtain⟨vb,h,rfl⟩:=h
 have hfh:=Pg.fnd_hit h.good q
 have HH:=fun o=>having_any q hq (w.alloc o) (h.grow (zA (zR _) o))
 cases hh:Pg.hit L (Pg.lkP q)
 ·have e0:Pg.fnd L q=none:=by rw[hfh,hh];rfl
  have e1:Pg.at' L q= .zz:=by simp only[Pg.at',e0]
  rw[e0,e1]
  simp only[hh]at HH
  clear h e0 e1 hfh hh
  generalize Pg.cut L (Pg.lkP q)=c at*
  go_enter Tryz.func196,Tryz.ntmps196
  go_wp2_with fail
  refine(HH _).mono ?_
  rintro e w1 ⟨rfl,hb1⟩
  have hr:∀o,w1.cell? ⟨w.heap.size,o,none⟩=_:=fun o=>hb1.cell (p:=⟨w.heap.size,o,none⟩) (by simp)
  have hf:∀o,w1.frozen? ⟨w.heap.size,o,none⟩=_:=fun o=>hb1.frozen (p:=⟨w.heap.size,o,none⟩) (by simp)
  have hB:Hid (Below w.heap.size w w1):=zT (zA (zR _) _) hb1
  clear hb1 HH
  go_wp2_with fail
  refine bodyPost_ret (v:= .tuple #[.agg #[.int .i64 0,.int .i64 0,.int .i64 0,.int .i64 0],.bool false]) ?_ rfl ⟨rfl,?_⟩
  ·simp[results,Tryz.results196,go_sem,hr]
  ·exact below_set4 hB.out _ (Nat.le_refl _) _ _ _ _
 ·obtain⟨hlt,_⟩:=Pg.hit_iff.1 hh
  have e0:Pg.fnd L q=some (Pg.cut L (Pg.lkP q)):=by rw[hfh,hh];rfl
  have e1:Pg.at' L q=L.getD (Pg.cut L (Pg.lkP q)) .zz:=by simp only[Pg.at',e0]
  rw[e0,e1]
  simp only[hh]at HH
  clear e0 e1 hfh hh
  generalize Pg.cut L (Pg.lkP q)=j at*
  obtain⟨g,cap,rfl,hg,hm0,hm1,hm2,hm3⟩:=h.mp hlt
  have hc0:=h.c0
  have hlb:=h.lb
  have hlen:=h.good.len
  have i0:(0:Int)<=(j:Int):=by omega
  have i1:(j:Int)<(L.length:Int):=by omega
  clear h
  generalize L.getD j .zz=m at*
  generalize L.length=n at*
  obtain⟨mp,ms,mf,mr⟩:=m
  simp only at hm0 hm1 hm2 hm3
  go_enter Tryz.func196,Tryz.ntmps196
  go_wp2_with fail
  refine(HH _).mono ?_
  rintro e w1 ⟨rfl,hb1⟩
  have hr:∀o,w1.cell? ⟨w.heap.size,o,none⟩=_:=fun o=>hb1.cell (p:=⟨w.heap.size,o,none⟩) (by simp)
  have hf:∀o,w1.frozen? ⟨w.heap.size,o,none⟩=_:=fun o=>hb1.frozen (p:=⟨w.heap.size,o,none⟩) (by simp)
  have hB0:Below w.heap.size w w1:=zT (zA (zR _) _) hb1
  have hB:Hid _:=hB0
  have c0:=cell_later hB0 hc0
  have m0:=cell_later hB0 hm0
  have m1:=cell_later hB0 hm1
  have m2:=cell_later hB0 hm2
  have m3:=cell_later hB0 hm3
  clear hb1 HH hB0 hc0 hm0 hm1 hm2 hm3
  go_wp2_with fail
  refine bodyPost_ret (v:= .tuple #[.agg #[.int .i64 mp,.int .i64 ms,.int .i64 mf,.int .i64 mr],.bool true]) ?_ rfl ⟨rfl,?_⟩
  ·simp[results,Tryz.results196,go_sem,hr]
  ·exact below_set4 hB.out _ (Nat.le_refl _) _ _ _ _
set_option maxHeartbeats 4000000 in
theorem dbAnswer_any (q k:Int) (u:Bool) (hq:Pg.fits q) (w:World) (h:DbAt w b L F):
 Calls Tryz.prog 165 #[.pointer (some ⟨b,0,none⟩),.agg #[.int .i64 q,.int .i64 k,.bool u]] w fun e w'=>
  e= .returned (.agg #[.int .i64 (Pg.ansE L q k u),.int .i64 (Pg.ansF L q k u),.int .i64 (Pg.ansR L q k u)])/\Below w.heap.size w w':=by
 have HF:=fun o o'=>dbFind_any q hq ((w.alloc o).alloc o') (h.keep (G:=fun _=>False) (But.of_below (zA (zA (zR _) o) o')) (fun _ _=>id))
 clear h
 cases hf:Pg.fnd L q with
 | none=>
   have e1:Pg.at' L q= .zz:=by simp only[Pg.at',hf]
   have e2:Pg.ansE L q k u=1:=by simp[Pg.ansE,hf]
   have e3:Pg.ansF L q k u=0:=by simp[Pg.ansF,hf]
   have e4:Pg.ansR L q k u=0:=by simp[Pg.ansR,hf]
   rw[e2,e3,e4]
   rw[e1,hf]at HF
   rw[show(.zz:Pg.Mp).val= .agg #[.int .i64 0,.int .i64 0,.int .i64 0,.int .i64 0]from rfl]at HF
   simp only[Option.isSome_none]at HF
   clear e1 e2 e3 e4 hf
   go_enter Tryz.func165,Tryz.ntmps165
   go_wp2_with fail
   refine(HF _ _).mono ?_
   rintro e w1 ⟨rfl,hb1⟩
   have hr:∀o,w1.cell? ⟨w.heap.size+1,o,none⟩=_:=fun o=>hb1.cell (p:=⟨w.heap.size+1,o,none⟩) (by simp)
   have hf:∀o,w1.frozen? ⟨w.heap.size+1,o,none⟩=_:=fun o=>hb1.frozen (p:=⟨w.heap.size+1,o,none⟩) (by simp)
   have hs:w.heap.size+1<w1.heap.size:=by have:=hb1.size;simp at this;omega
   have hB:Hid (Below w.heap.size w w1):=zT (zA (zA (zR _) _) _) hb1
   clear hb1 HF
   go_wp2_with fail
   refine bodyPost_ret (v:= .agg #[.int .i64 1,.int .i64 0,.int .i64 0]) ?_ rfl ⟨rfl,?_⟩
   ·simp[results,Tryz.results165,go_sem,hr,hs]
   ·exact zA (((hB.out.setCell (by simp) _).setCell (by simp) _).setCell (by simp) _) _
 | some j=>
   have e1:Pg.at' L q=L.getD j .zz:=by simp only[Pg.at',hf]
   have e2:Pg.ansE L q k u=Pg.aEnd (L.getD j .zz).r k u:=by simp only[Pg.ansE,hf]
   have e3:Pg.ansF L q k u=Pg.aFrame (L.getD j .zz).p (L.getD j .zz).f (L.getD j .zz).r q k u:=by simp only[Pg.ansF,hf]
   have e4:Pg.ansR L q k u=Pg.aRights (L.getD j .zz).r k u:=by simp only[Pg.ansR,hf]
   rw[e2,e3,e4]
   rw[e1,hf]at HF
   simp only[Option.isSome_some]at HF
   have HA:=answer_any (L.getD j .zz).p (L.getD j .zz).s (L.getD j .zz).f (L.getD j .zz).r q k u
   clear e1 e2 e3 e4 hf
   generalize L.getD j .zz=y at*
   obtain⟨mp,ms,mf,mr⟩:=y
   simp only[Pg.Mp.val]at HF HA ⊢
   generalize Pg.aEnd mr k u=x0 at*
   generalize Pg.aFrame mp mf mr q k u=x1 at*
   generalize Pg.aRights mr k u=x2 at*
   go_enter Tryz.func165,Tryz.ntmps165
   go_wp2_with fail
   refine(HF _ _).mono ?_
   rintro e w1 ⟨rfl,hb1⟩
   have hs:w.heap.size+1<w1.heap.size:=by have:=hb1.size;simp at this;omega
   have a0:w1.cell? ⟨w.heap.size,0,none⟩=some (.int .i64 q):=(hb1.cell (p:=⟨w.heap.size,0,none⟩) (by simp;omega)).trans (by simp[go_sem])
   have a1:w1.cell? ⟨w.heap.size,1,none⟩=some (.int .i64 k):=(hb1.cell (p:=⟨w.heap.size,1,none⟩) (by simp;omega)).trans (by simp[go_sem])
   have a2:w1.cell? ⟨w.heap.size,2,none⟩=some (.bool u):=(hb1.cell (p:=⟨w.heap.size,2,none⟩) (by simp;omega)).trans (by simp[go_sem])
   have hr:∀o,w1.cell? ⟨w.heap.size+1,o,none⟩=_:=fun o=>hb1.cell (p:=⟨w.heap.size+1,o,none⟩) (by simp)
   have hf:∀o,w1.frozen? ⟨w.heap.size+1,o,none⟩=_:=fun o=>hb1.frozen (p:=⟨w.heap.size+1,o,none⟩) (by simp)
   have hs0:w.heap.size<w1.heap.size:=by omega
   have hB:Hid (Below w.heap.size w w1):=zT (zA (zA (zR _) _) _) hb1
   clear hb1 HF
   go_wp2_with fail
   refine(HA _).mono ?_
   rintro e w2 ⟨rfl,hb2⟩
   have hs2:w.heap.size+1<w2.heap.size:=by have:=hb2.size;simp at this;omega
   have hr2:∀o,w2.cell? ⟨w.heap.size+1,o,none⟩=_:=fun o=>(hb2.cell (p:=⟨w.heap.size+1,o,none⟩) (by simp;omega)).trans ((Below.cell (p:=⟨w.heap.size+1,o,none⟩) (zA (zR w1) _) hs).trans (hr o))
   have hf2:∀o,w2.frozen? ⟨w.heap.size+1,o,none⟩=_:=fun o=>(hb2.frozen (p:=⟨w.heap.size+1,o,none⟩) (by simp;omega)).trans ((Below.frozen (p:=⟨w.heap.size+1,o,none⟩) (zA (zR w1) _) hs).trans (hf o))
   have hB2:Hid (Below w.heap.size w w2):=zT (zA hB.out _) hb2
   clear hb2 hr hf hB a0 a1 a2 hs hs0 HA
   go_wp2_with fail
   refine bodyPost_ret (v:= .agg #[.int .i64 x0,.int .i64 x1,.int .i64 x2]) ?_ rfl ⟨rfl,?_⟩
   ·simp[results,Tryz.results165,go_sem,hr2]
   ·exact((hB2.out.setCell (by simp) _).setCell (by simp) _).setCell (by simp) _
end
theorem Dbk.put {w W:World} {b:Nat} {vb v':Value} {L L':List Pg.Mp} (h:Dbk w b vb L) (hb:But (fun j=>vb.ownBlock=some j) w W) (hr:W.ownsRow 0 39 4 v' L'.length (zC L')) (hv:∀j,v'.ownBlock=some j->vb.ownBlock=some j\/w.heap.size<=j) (hg:Pg.Good L'):
 Dbk (W.setCell ⟨b,0,none⟩ v') b v' L'/\But (bkF b vb) w (W.setCell ⟨b,0,none⟩ v')/\(∀k,bkF b v' k->bkF b vb k\/w.heap.size<=k):=by
 have hl:=h.lb
 have kb:W.heap[b]?=w.heap[b]?:=hb.block b hl h.nb
 have hc:W.cell? ⟨b,0,none⟩=some vb:=(World.cell?_of_block (a:=⟨b,0,none⟩) kb).trans h.c0
 have hne:v'.ownBlock≠some b:=fun e=>(hv b e).elim h.nb (fun h=>by omega)
 refine⟨⟨World.cell?_setCell_same _ _ _ hc,fun o=> ?_,?_,hne,hg⟩,?_,fun k hk=> ?_⟩
 ·have:=(World.frozen?_of_block (a:=⟨b,o,none⟩) kb).trans (h.fb o)
  simpa using this
 ·exact owns_of_block hr fun k hk=>Below.heap_setCell _ _ _ _ (fun e=>hne (by rw[hk];exact congrArg some e))
 ·exact(hb.mono (G:=bkF b vb) fun i _ hi=> .inr hi).setCell (a:=⟨b,0,none⟩) (.inr (.inl rfl)) _
 ·rcases hk with rfl|hk
  ·exact .inl (.inl rfl)
  ·exact(hv k hk).imp .inr id
section
variable {b:Nat} {L:List Pg.Mp} {F:Nat->Prop}
set_option maxHeartbeats 4000000 in
theorem dbAdd_any (m:Pg.Mp) (hm:Pg.fits m.p) (w:World) (h:DbAt w b L F):
 Calls Tryz.prog 158 #[.pointer (some ⟨b,0,none⟩),m.val] w fun e w'=>e= .returned (.int .i64 (Pg.addC L m))/\∃F',DbAt w' b (Pg.addL L m) F'/\But F w w'/\∀k,F' k->F k\/w.heap.size<=k:=by
 obtain⟨vb,h,rfl⟩:=h
 have HK:Hid (∀w',Below w.heap.size w w'->Pg.addC L m≠0->∃F',DbAt w' b (Pg.addL L m) F'/\But (bkF b vb) w w'/\∀k,F' k->bkF b vb k\/w.heap.size<=k):=fun w' hb hc=>
  ⟨bkF b vb,⟨vb,by rw[Pg.addL,if_neg hc];exact h.grow hb,rfl⟩,But.of_below hb,fun _ hk=> .inl hk⟩
 by_cases hcode:m.code=0
 ·have HM:=fun w' hb=>meeting_any m hm w' (h.grow (w':=w') hb)
  have hah:=Pg.any_hit h.good hcode
  cases hh:Pg.hit L (Pg.lkM m)
  ·have hC:Hid (Pg.addC L m=0):=by simp only[Hid,Pg.addC,hah,hh];simp[hcode]
   have hL:Hid (Pg.addL L m=L.take (Pg.cut L (Pg.lkM m))++m::L.drop (Pg.cut L (Pg.lkM m))):=by
    simp only[Hid,Pg.addL]
    rw[if_pos hC.out]
    exact Pg.ins_cut h.good hh
   have HI:Hid (∀(W:World) (V:Nat) (tV:TypeId),Below w.heap.size w W->w.heap.size<=V->W.heap[V]?=some (.cells #[.int .i64 m.p,.int .i64 m.s,.int .i64 m.f,.int .i64 m.r] tV)->
    Calls Tryz.prog 192 #[vb,.int .i64 (Pg.cut L (Pg.lkM m)),.slice (some ⟨V,0,none⟩) 1 1] W fun e w'=>∃ad cap,e= .returned (.slice ad (L.length+1) cap)/\w'.cell? ⟨b,0,none⟩=some vb/\w'.frozen? ⟨b,0,none⟩=false/\
     Hid (∃F',DbAt (w'.setCell ⟨b,0,none⟩ (.slice ad (L.length+1) cap)) b (Pg.addL L m) F'/\But (bkF b vb) w (w'.setCell ⟨b,0,none⟩ (.slice ad (L.length+1) cap))/\∀k,F' k->bkF b vb k\/w.heap.size<=k)):=by
    intro W V tV hb hV hVc
    have hW:=h.grow hb
    refine(insert_any W hW.row h.good.len (Pg.cut_le _ _) hVc (fun e=>by have:=(h.row.lt _ e).2;omega)).mono ?_
    rintro e w' ⟨v',rfl,hr,hB,hv⟩
    obtain⟨ad,cap,rfl⟩:=zF hr
    have kb:w'.heap[b]?=W.heap[b]?:=hB.block b hW.lb hW.nb
    have hlen:(Pg.addL L m).length=L.length+1:=by
     rw[hL.out]
     have:=Pg.cut_le L (Pg.lkM m)
     simp only[List.length_append,List.length_cons,List.length_take,List.length_drop]
     omega
    have hg:=h.good.add m
    have hr':w'.ownsRow 0 39 4 (.slice ad (L.length+1) cap) (Pg.addL L m).length (zC (Pg.addL L m)):=by rw[hlen,hL.out];exact hr
    obtain⟨p1,p2,p3⟩:=hW.put hB hr' hv hg
    refine⟨ad,cap,rfl,(World.cell?_of_block (a:=⟨b,0,none⟩) kb).trans hW.c0,(World.frozen?_of_block (a:=⟨b,0,none⟩) kb).trans (hW.fb 0),⟨_,⟨_,p1,rfl⟩,?_,fun k hk=> ?_⟩⟩
    ·exact(But.of_below hb).trans p2 (fun i _ hi=>hi)
    ·exact(p3 k hk).imp id (fun h=>Nat.le_trans hb.size h)
   have hc0:=h.c0
   have hlb:=h.lb
   simp only[hh]at HM
   rw[hC.out]
   have hce:Pg.check m.p m.s m.f m.r=0:=hcode
   have HCK:=check_any m.p m.s m.f m.r
   rw[hce]at HCK
   clear h hah hh HK hcode hL hC hce
   generalize Pg.cut L (Pg.lkM m)=c at*
   generalize Pg.addL L m=L' at*
   generalize L.length=n at*
   obtain⟨mp,ms,mf,mr⟩:=m
   simp only[Pg.Mp.val]at HM ⊢
   simp only at HI HCK
   go_enter Tryz.func158,Tryz.ntmps158
   go_wp2_with fail
   refine(HCK _).mono ?_
   rintro e w1 ⟨rfl,hb1⟩
   have hx:∀o,w1.cell? ⟨w.heap.size,o,none⟩=_:=fun o=>hb1.cell (p:=⟨w.heap.size,o,none⟩) (by simp)
   have b1:Below w.heap.size w w1:=zT (zA (zR _) _) hb1
   have hs1:w.heap.size<w1.heap.size:=by have:=hb1.size;simp at this;omega
   clear hb1
   go_wp2_with fail
   refine(HM _ b1).mono ?_
   rintro e w2 ⟨rfl,hb2⟩
   have z0:w2.cell? ⟨w.heap.size,0,none⟩=some (.int .i64 mp):=((hb2.cell (p:=⟨w.heap.size,0,none⟩) hs1).trans (hx 0)).trans (by simp[go_sem])
   have z1:w2.cell? ⟨w.heap.size,1,none⟩=some (.int .i64 ms):=((hb2.cell (p:=⟨w.heap.size,1,none⟩) hs1).trans (hx 1)).trans (by simp[go_sem])
   have z2:w2.cell? ⟨w.heap.size,2,none⟩=some (.int .i64 mf):=((hb2.cell (p:=⟨w.heap.size,2,none⟩) hs1).trans (hx 2)).trans (by simp[go_sem])
   have z3:w2.cell? ⟨w.heap.size,3,none⟩=some (.int .i64 mr):=((hb2.cell (p:=⟨w.heap.size,3,none⟩) hs1).trans (hx 3)).trans (by simp[go_sem])
   have hb3:Below w.heap.size w w2:=zT b1 hb2
   have y0:=cell_later hb3 hc0
   have HB2:Hid _:=hb3
   have hs2:w.heap.size<=w2.heap.size:=hb3.size
   have hlb2:b<w2.heap.size:=Nat.lt_of_lt_of_le hlb hs2
   clear hx hb2 hb3 b1 hs1 hc0 HM HCK
   go_wp2_with fail
   have hcall:Hid _:=HI.out ((w2.alloc (.cells #[.int .i64 mp,.int .i64 ms,.int .i64 mf,.int .i64 mr] 39)).drew) w2.heap.size 39 ((zA HB2.out _).trans ⟨rfl,rfl,rfl,Nat.le_refl _,fun _ _=>rfl⟩) hs2 (heap_alloc_new w2 _)
   clear HI
   go_region_with (go_at_call 192;refine Calls.mono hcall.out ?_;rintro e w' ⟨ad,cap,rfl,k0,k1,HF⟩)
   all_goals
    go_wp2_with fail
    go_ret
    exact⟨rfl,HF.out⟩
  ·have hC:Hid (Pg.addC L m=4):=by simp only[Hid,Pg.addC,hah,hh];simp[hcode]
   have HK':Hid _:=fun w' hb=>HK.out w' hb (by rw[hC.out];decide)
   simp only[hh]at HM
   rw[hC.out]
   have hce:Pg.check m.p m.s m.f m.r=0:=hcode
   have HCK:=check_any m.p m.s m.f m.r
   rw[hce]at HCK
   clear h hah hh HK hcode hC hce
   generalize Pg.cut L (Pg.lkM m)=c at*
   generalize Pg.addL L m=L' at*
   obtain⟨mp,ms,mf,mr⟩:=m
   simp only[Pg.Mp.val]at HM ⊢
   simp only at HCK
   go_enter Tryz.func158,Tryz.ntmps158
   go_wp2_with fail
   refine(HCK _).mono ?_
   rintro e w1 ⟨rfl,hb1⟩
   have hx:∀o,w1.cell? ⟨w.heap.size,o,none⟩=_:=fun o=>hb1.cell (p:=⟨w.heap.size,o,none⟩) (by simp)
   have b1:Below w.heap.size w w1:=zT (zA (zR _) _) hb1
   have hs1:w.heap.size<w1.heap.size:=by have:=hb1.size;simp at this;omega
   clear hb1
   go_wp2_with fail
   refine(HM _ b1).mono ?_
   rintro e w2 ⟨rfl,hb2⟩
   have HB2:Hid (Below w.heap.size w w2):=zT b1 hb2
   clear hx hb2 b1 hs1 HM HCK
   go_wp2_with fail
   go_ret
   exact⟨rfl,HK'.out _ HB2.out⟩
 ·have hC:Hid (Pg.addC L m=Pg.check m.p m.s m.f m.r):=by simp only[Hid,Pg.addC];rw[if_pos hcode];rfl
  have HK':Hid _:=fun w' hb=>HK.out w' hb (by rw[hC.out];exact hcode)
  have hne:(Pg.check m.p m.s m.f m.r !=0)=true:=by
   have:Pg.check m.p m.s m.f m.r≠0:=hcode
   simpa using this
  rw[hC.out]
  have HCK:=check_any m.p m.s m.f m.r
  clear h HK hcode hC
  generalize Pg.addL L m=L' at*
  obtain⟨mp,ms,mf,mr⟩:=m
  simp only at HCK hne
  simp only[Pg.Mp.val]
  generalize Pg.check mp ms mf mr=x at*
  go_enter Tryz.func158,Tryz.ntmps158
  go_wp2_with fail
  refine(HCK _).mono ?_
  rintro e w1 ⟨rfl,hb1⟩
  have HB:Hid (Below w.heap.size w w1):=zT (zA (zR _) _) hb1
  clear hb1
  go_wp2_with fail
  go_ret
  exact⟨rfl,HK'.out _ HB.out⟩
theorem delete_any {vb:Value} {L:List Pg.Mp} {k:Nat} (w:World) (hr:w.ownsRow 0 39 4 vb L.length (zC L)) (hn:L.length<=4096) (hk:k<L.length):
 Calls Tryz.prog 194 #[vb,.int .i64 k,.int .i64 (k+1)] w fun e w'=>∃g cap,vb= .slice (some ⟨g,0,none⟩) L.length cap/\e= .returned (.slice (some ⟨g,0,none⟩) (L.length-1) cap)/\w'.ownsRow 0 39 4 (.slice (some ⟨g,0,none⟩) (L.length-1) cap) (L.eraseIdx k).length (zC (L.eraseIdx k))/\But (fun j=>vb.ownBlock=some j) w w':=by
 have hlen:(L.eraseIdx k).length=L.length-1:=by rw[List.length_eraseIdx,if_pos hk]
 have hcut:(zC L).take (k*4)++(zC L).drop ((k+1)*4)=zC (L.eraseIdx k):=by
  have e:∀j,j<=L.length->(zC L).take (j*4)=zC (L.take j)/\(zC L).drop (j*4)=zC (L.drop j):=by
   intro j hj
   have e:zC L=zC (L.take j)++zC (L.drop j):=by rw[<-mpCells_append,List.take_append_drop]
   have hl:(zC (L.take j)).length=j*4:=by rw[mpCells_len,List.length_take];congr 1;omega
   exact⟨by rw[e,List.take_left' hl],by rw[e,List.drop_left' hl]⟩
  rw[(e k (by omega)).1,(e (k+1) (by omega)).2,<-mpCells_append,List.eraseIdx_eq_take_drop_succ]
 obtain⟨_,hrr⟩:=hr
 rcases hrr with ⟨_,e0⟩|⟨g,cap,cur,rfl,_,hg,hc1,hc2,hc3,hc4⟩
 ·omega
 ·refine(delete_raw w hg hn hk hc1 (by unfold maxLen at hc2;omega) hc3 hc4 (mpCells_one' L)).mono ?_
  rintro e w' ⟨rfl,h1,h2⟩
  rw[hcut]at h1
  exact⟨g,cap,rfl,rfl,by rw[hlen];exact h1,h2.mono fun i _ hi=>by rw[hi];rfl⟩
set_option maxHeartbeats 4000000 in
theorem dbDrop_any (q:Int) (hq:Pg.fits q) (w:World) (h:DbAt w b L F):
 Calls Tryz.prog 160 #[.pointer (some ⟨b,0,none⟩),.int .i64 q] w fun e w'=>e= .returned (.tuple #[(Pg.dropM L q).val,.int .i64 (Pg.dropC L q)])/\∃F',DbAt w' b (Pg.dropL L q) F'/\But F w w'/\∀k,F' k->F k\/w.heap.size<=k:=by
 obtain⟨vb,h,rfl⟩:=h
 have HK:Hid (∀w',Below w.heap.size w w'->Pg.dropC L q≠0->∃F',DbAt w' b (Pg.dropL L q) F'/\But (bkF b vb) w w'/\∀k,F' k->bkF b vb k\/w.heap.size<=k):=fun w' hb hc=>
  ⟨bkF b vb,⟨vb,by rw[Pg.dropL,if_neg hc];exact h.grow hb,rfl⟩,But.of_below hb,fun _ hk=> .inl hk⟩
 cases hb4:Pg.below q 4096
 ·have hC:Pg.dropC L q=1:=by simp[Pg.dropC,hb4]
  have hM:Pg.dropM L q= .zz:=by simp[Pg.dropM,hC]
  have HK':Hid _:=fun w' hb=>HK.out w' hb (by rw[hC];decide)
  rw[hC,hM,show(.zz:Pg.Mp).val= .agg #[.int .i64 0,.int .i64 0,.int .i64 0,.int .i64 0]from rfl]
  clear h HK hC hM
  generalize Pg.dropL L q=L' at*
  go_enter Tryz.func160,Tryz.ntmps160
  go_wp2_with (go_at_call 173;refine(has_any _ _).mono ?_;rintro e w' ⟨rfl,rfl⟩)
  refine bodyPost_ret (v:= .tuple #[.agg #[.int .i64 0,.int .i64 0,.int .i64 0,.int .i64 0],.int .i64 1]) ?_ rfl ⟨rfl,?_⟩
  ·simp[results,Tryz.results160,go_sem]
  ·exact HK'.out _ (zA (zR _) _)
 ·have hfh:=Pg.fnd_hit h.good q
  have HH:=fun o=>having_any q hq (w.alloc o) (h.grow (zA (zR _) o))
  cases hh:Pg.hit L (Pg.lkP q)
  ·have e0:Pg.fnd L q=none:=by rw[hfh,hh];rfl
   have hC:Pg.dropC L q=5:=by simp[Pg.dropC,hb4,e0]
   have hM:Pg.dropM L q= .zz:=by simp[Pg.dropM,hC]
   have HK':Hid _:=fun w' hb=>HK.out w' hb (by rw[hC];decide)
   rw[hC,hM,show(.zz:Pg.Mp).val= .agg #[.int .i64 0,.int .i64 0,.int .i64 0,.int .i64 0]from rfl]
   simp only[hh]at HH
   clear h HK hC hM e0 hfh hh
   generalize Pg.dropL L q=L' at*
   generalize Pg.cut L (Pg.lkP q)=c at*
   go_enter Tryz.func160,Tryz.ntmps160
   go_wp2_with (go_at_call 173;refine(has_any _ _).mono ?_;rintro e w' ⟨rfl,rfl⟩)
   refine(HH _).mono ?_
   rintro e w1 ⟨rfl,hb1⟩
   have hr:∀o,w1.cell? ⟨w.heap.size,o,none⟩=_:=fun o=>hb1.cell (p:=⟨w.heap.size,o,none⟩) (by simp)
   have hf:∀o,w1.frozen? ⟨w.heap.size,o,none⟩=_:=fun o=>hb1.frozen (p:=⟨w.heap.size,o,none⟩) (by simp)
   have hB:Hid (Below w.heap.size w w1):=zT (zA (zR _) _) hb1
   clear hb1 HH
   go_wp2_with fail
   refine bodyPost_ret (v:= .tuple #[.agg #[.int .i64 0,.int .i64 0,.int .i64 0,.int .i64 0],.int .i64 5]) ?_ rfl ⟨rfl,?_⟩
   ·simp[results,Tryz.results160,go_sem,hr]
   ·exact HK'.out _ (below_set4 hB.out _ (Nat.le_refl _) _ _ _ _)
  ·obtain⟨hlt,_⟩:=Pg.hit_iff.1 hh
   have e0:Pg.fnd L q=some (Pg.cut L (Pg.lkP q)):=by rw[hfh,hh];rfl
   have hC:Pg.dropC L q=0:=by simp[Pg.dropC,hb4,e0]
   have hM:Pg.dropM L q=L.getD (Pg.cut L (Pg.lkP q)) .zz:=by simp only[Pg.dropM,hC,if_true,Pg.at',e0]
   have hL:Pg.dropL L q=L.eraseIdx (Pg.cut L (Pg.lkP q)):=by simp only[Pg.dropL,hC,if_true,e0]
   rw[hC,hM,hL]
   simp only[hh]at HH
   clear HK hC hM hL e0 hfh hh
   generalize Pg.cut L (Pg.lkP q)=j at*
   obtain⟨g,cap,rfl,hg,hm0,hm1,hm2,hm3⟩:=h.mp hlt
   have hnb:g≠b:=fun e=>h.nb (by rw[e];rfl)
   have HD:Hid (∀W,Below w.heap.size w W->Calls Tryz.prog 194 #[.slice (some ⟨g,0,none⟩) L.length cap,.int .i64 j,.int .i64 (j+1)] W fun e w'=>e= .returned (.slice (some ⟨g,0,none⟩) (L.length-1) cap)/\w'.cell? ⟨b,0,none⟩=some (.slice (some ⟨g,0,none⟩) L.length cap)/\w'.frozen? ⟨b,0,none⟩=false/\But (fun k=>k=g) W w'/\
    Hid (DbAt (w'.setCell ⟨b,0,none⟩ (.slice (some ⟨g,0,none⟩) (L.length-1) cap)) b (L.eraseIdx j) (bkF b (.slice (some ⟨g,0,none⟩) L.length cap))/\But (bkF b (.slice (some ⟨g,0,none⟩) L.length cap)) w (w'.setCell ⟨b,0,none⟩ (.slice (some ⟨g,0,none⟩) (L.length-1) cap)))):=by
    intro W hb
    have hW:=h.grow hb
    refine(delete_any W hW.row h.good.len hlt).mono ?_
    rintro e w' ⟨g',cap',he,rfl,hr,hB⟩
    cases he
    have kb:w'.heap[b]?=W.heap[b]?:=hB.block b hW.lb hW.nb
    obtain⟨p1,p2,p3⟩:=hW.put hB hr (fun k hk=> .inl hk) (h.good.erase j)
    refine⟨rfl,(World.cell?_of_block (a:=⟨b,0,none⟩) kb).trans hW.c0,(World.frozen?_of_block (a:=⟨b,0,none⟩) kb).trans (hW.fb 0),hB.mono (fun i _ hi=>by simpa[Value.ownBlock]using hi.symm),⟨⟨_,p1,rfl⟩,?_⟩⟩
    exact(But.of_below hb).trans p2 (fun i _ hi=>hi)
   have hc0:=h.c0
   have hlb:=h.lb
   have hlen:=h.good.len
   have i0:(0:Int)<=(j:Int):=by omega
   have i1:(j:Int)<(L.length:Int):=by omega
   clear h
   generalize L.eraseIdx j=L' at*
   generalize L.getD j .zz=m at*
   generalize L.length=n at*
   obtain⟨mp,ms,mf,mr⟩:=m
   simp only[Pg.Mp.val]at*
   go_enter Tryz.func160,Tryz.ntmps160
   go_wp2_with (go_at_call 173;refine(has_any _ _).mono ?_;rintro e w' ⟨rfl,rfl⟩)
   refine(HH _).mono ?_
   rintro e w1 ⟨rfl,hb1⟩
   have hr:∀o,w1.cell? ⟨w.heap.size,o,none⟩=_:=fun o=>hb1.cell (p:=⟨w.heap.size,o,none⟩) (by simp)
   have hf:∀o,w1.frozen? ⟨w.heap.size,o,none⟩=_:=fun o=>hb1.frozen (p:=⟨w.heap.size,o,none⟩) (by simp)
   have hs1:w.heap.size<w1.heap.size:=by have:=hb1.size;simp at this;omega
   have hB0:Below w.heap.size w w1:=zT (zA (zR _) _) hb1
   have hlb1:b<w1.heap.size:=by omega
   have hB:Hid _:=hB0
   have c0:=cell_later hB0 hc0
   have m0:=cell_later hB0 hm0
   have m1:=cell_later hB0 hm1
   have m2:=cell_later hB0 hm2
   have m3:=cell_later hB0 hm3
   clear hb1 HH hB0 hc0 hm0 hm1 hm2 hm3
   go_wp2_with fail
   have hbW:Below w.heap.size w (w1.alloc (.cells #[.int .i64 mp,.int .i64 ms,.int .i64 mf,.int .i64 mr] 39)):=zA hB.out _
   refine Calls.mono (HD.out _ hbW) ?_
   rintro e w2 ⟨rfl,k0,k1,hbt,HF⟩
   have hl1:w1.heap.size<(w1.alloc (.cells #[.int .i64 mp,.int .i64 ms,.int .i64 mf,.int .i64 mr] 39)).heap.size:=by simp
   have t1:∀o,w2.cell? ⟨w1.heap.size,o,none⟩=_:=fun o=>hbt.cell (a:=⟨w1.heap.size,o,none⟩) hl1 (by show ¬w1.heap.size=g;omega)
   have z0:w2.cell? ⟨w1.heap.size,0,none⟩=some (.int .i64 mp):=(t1 0).trans (by simp[go_sem])
   have z1:w2.cell? ⟨w1.heap.size,1,none⟩=some (.int .i64 ms):=(t1 1).trans (by simp[go_sem])
   have z2:w2.cell? ⟨w1.heap.size,2,none⟩=some (.int .i64 mf):=(t1 2).trans (by simp[go_sem])
   have z3:w2.cell? ⟨w1.heap.size,3,none⟩=some (.int .i64 mr):=(t1 3).trans (by simp[go_sem])
   have hl2:w.heap.size<(w1.alloc (.cells #[.int .i64 mp,.int .i64 ms,.int .i64 mf,.int .i64 mr] 39)).heap.size:=by simp;omega
   have t2:∀o,w2.cell? ⟨w.heap.size,o,none⟩=_:=fun o=>(hbt.cell (a:=⟨w.heap.size,o,none⟩) hl2 (by show ¬w.heap.size=g;omega)).trans ((Below.cell (p:=⟨w.heap.size,o,none⟩) (zA (zR w1) _) hs1).trans (hr o))
   have t3:∀o,w2.frozen? ⟨w.heap.size,o,none⟩=_:=fun o=>(hbt.frozen (a:=⟨w.heap.size,o,none⟩) hl2 (by show ¬w.heap.size=g;omega)).trans ((Below.frozen (p:=⟨w.heap.size,o,none⟩) (zA (zR w1) _) hs1).trans (hf o))
   have n1:w1.heap.size≠b:=by omega
   have n2:w.heap.size≠b:=by omega
   have n3:w1.heap.size≠w.heap.size:=by omega
   clear hbt t1 hr hf hbW hB c0 m0 m1 m2 m3 HD hl1 hl2
   go_wp2_with fail
   refine bodyPost_ret (v:= .tuple #[.agg #[.int .i64 mp,.int .i64 ms,.int .i64 mf,.int .i64 mr],.int .i64 0]) ?_ rfl ⟨rfl,?_⟩
   ·simp[results,Tryz.results160,go_sem,t2]
   ·obtain⟨f1,f2⟩:=HF.out
    have hbs:=but_set4 (But.refl (fun k=>k=w.heap.size) (w2.setCell ⟨b,0,none⟩ (.slice (some ⟨g,0,none⟩) (n-1) cap))) w.heap.size (.inr rfl) (.int .i64 mp) (.int .i64 ms) (.int .i64 mf) (.int .i64 mr)
    refine⟨_,f1.keep hbs (fun k hk=> ?_),f2.trans hbs (fun i hi e=> ?_),fun k hk=> .inl hk⟩
    ·rcases hk with rfl|hk
     ·exact fun e=>n2 e.symm
     ·simp only[Value.ownBlock,Option.some.injEq]at hk
      omega
    ·omega
end
theorem mpCells_set:∀(L:List Pg.Mp) (k:Nat) (r:Int),k<L.length->(zC L).set (k*4+3) (.int .i64 r)=zC (L.set k ((L.getD k .zz).rts r))
 | [],_,_,h=>by simp at h
 | x::t,0,r,_=>by simp[zC,Pg.Mp.rts]
 | x::t,k+1,r,h=>by
   have ih:=mpCells_set t k r (by simpa using h)
   have e1:∀(y:Pg.Mp) (s:List Pg.Mp),zC (y::s)= .int .i64 y.p:: .int .i64 y.s:: .int .i64 y.f:: .int .i64 y.r::zC s:=fun y s=>by simp[zC]
   rw[e1,show(k+1)*4+3=k*4+3+4 by omega]
   simp only[List.set_cons_succ,List.getD_cons_succ,e1,ih]
theorem small_check (q r:Int):Pg.check q 0 0 r=if Pg.below q 4096=true/\Pg.below r 8=true then 0 else 1:=by
 have hs:Pg.span 0=1:=rfl
 have hb:Pg.below 0 1048576=true:=rfl
 unfold Pg.check
 rw[hs,hb]
 cases Pg.below q 4096<;>cases Pg.below r 8<;>simp
theorem fits_good_set {L:List Pg.Mp} (h:Pg.Good L) {k:Nat} (hk:k<L.length) {r:Int} (hr:Pg.below r 8=true):Pg.Good (L.set k ((L.getD k .zz).rts r)):=by
 obtain⟨_,h2⟩:=Pg.prot_add h hk hr
 rw[<-h2]
 exact(h.erase k).add _
section
variable {b:Nat} {L:List Pg.Mp} {F:Nat->Prop}
set_option maxHeartbeats 4000000 in
theorem dbProtect_any (q r:Int) (hq:Pg.fits q) (w:World) (h:DbAt w b L F):
 Calls Tryz.prog 162 #[.pointer (some ⟨b,0,none⟩),.int .i64 q,.int .i64 r] w fun e w'=>e= .returned (.tuple #[(Pg.protM L q r).val,.int .i64 (Pg.protC L q r)])/\∃F',DbAt w' b (Pg.protL L q r) F'/\But F w w'/\∀k,F' k->F k\/w.heap.size<=k:=by
 obtain⟨vb,h,rfl⟩:=h
 have HK:Hid (∀w',Below w.heap.size w w'->Pg.protC L q r≠0->∃F',DbAt w' b (Pg.protL L q r) F'/\But (bkF b vb) w w'/\∀k,F' k->bkF b vb k\/w.heap.size<=k):=fun w' hb hc=>
  ⟨bkF b vb,⟨vb,by rw[Pg.protL,if_neg hc];exact h.grow hb,rfl⟩,But.of_below hb,fun _ hk=> .inl hk⟩
 have HCK:=check_any q 0 0 r
 rw[small_check]at HCK
 by_cases hc:Pg.below q 4096=true/\Pg.below r 8=true
 ·obtain⟨hbq,hbr⟩:=hc
  rw[if_pos ⟨hbq,hbr⟩]at HCK
  have hfh:=Pg.fnd_hit h.good q
  have HH:=fun w' hb=>having_any q hq w' (h.grow (w':=w') hb)
  cases hh:Pg.hit L (Pg.lkP q)
  ·have e0:Pg.fnd L q=none:=by rw[hfh,hh];rfl
   have hC:Pg.protC L q r=5:=by simp[Pg.protC,Pg.dropC,hbq,hbr,e0]
   have hM:Pg.protM L q r= .zz:=by simp[Pg.protM,hC]
   have HK':Hid _:=fun w' hb=>HK.out w' hb (by rw[hC];decide)
   rw[hC,hM,show(.zz:Pg.Mp).val= .agg #[.int .i64 0,.int .i64 0,.int .i64 0,.int .i64 0]from rfl]
   simp only[hh]at HH
   clear h HK hC hM e0 hfh hh
   generalize Pg.protL L q r=L' at*
   generalize Pg.cut L (Pg.lkP q)=c at*
   go_enter Tryz.func162,Tryz.ntmps162
   go_wp2_with fail
   refine(HCK _).mono ?_
   rintro e w1 ⟨rfl,hb1⟩
   have b1:Below w.heap.size w w1:=zT (zA (zR _) _) hb1
   have hs1:w.heap.size<w1.heap.size:=by have:=hb1.size;simp at this;omega
   have hr1:∀o,w1.cell? ⟨w.heap.size,o,none⟩=_:=fun o=>hb1.cell (p:=⟨w.heap.size,o,none⟩) (by simp)
   have hf1:∀o,w1.frozen? ⟨w.heap.size,o,none⟩=_:=fun o=>hb1.frozen (p:=⟨w.heap.size,o,none⟩) (by simp)
   clear hb1
   go_wp2_with fail
   refine(HH _ b1).mono ?_
   rintro e w2 ⟨rfl,hb2⟩
   have hr2:∀o,w2.cell? ⟨w.heap.size,o,none⟩=_:=fun o=>(hb2.cell (p:=⟨w.heap.size,o,none⟩) hs1).trans (hr1 o)
   have hf2:∀o,w2.frozen? ⟨w.heap.size,o,none⟩=_:=fun o=>(hb2.frozen (p:=⟨w.heap.size,o,none⟩) hs1).trans (hf1 o)
   have hB:Hid (Below w.heap.size w w2):=zT b1 hb2
   clear hb2 HH HCK hr1 hf1 b1 hs1
   go_wp2_with fail
   refine bodyPost_ret (v:= .tuple #[.agg #[.int .i64 0,.int .i64 0,.int .i64 0,.int .i64 0],.int .i64 5]) ?_ rfl ⟨rfl,?_⟩
   ·simp[results,Tryz.results162,go_sem,hr2]
   ·exact HK'.out _ (below_set4 hB.out _ (Nat.le_refl _) _ _ _ _)
  ·obtain⟨hlt,_⟩:=Pg.hit_iff.1 hh
   have e0:Pg.fnd L q=some (Pg.cut L (Pg.lkP q)):=by rw[hfh,hh];rfl
   have hC:Pg.protC L q r=0:=by simp[Pg.protC,Pg.dropC,hbq,hbr,e0]
   have hM:Pg.protM L q r=(L.getD (Pg.cut L (Pg.lkP q)) .zz).rts r:=by simp only[Pg.protM,hC,if_true,Pg.at',e0]
   have hL:Pg.protL L q r=L.set (Pg.cut L (Pg.lkP q)) ((L.getD (Pg.cut L (Pg.lkP q)) .zz).rts r):=by simp only[Pg.protL,hC,if_true,e0]
   rw[hC,hM,hL]
   simp only[hh]at HH
   clear HK hC hM hL e0 hfh hh
   generalize Pg.cut L (Pg.lkP q)=j at*
   obtain⟨g,cap,rfl,hg,hm0,hm1,hm2,hm3⟩:=h.mp hlt
   have hnb:g≠b:=fun e=>h.nb (by rw[e];rfl)
   have HP:Hid (∀W,Below w.heap.size w W->W.frozen? ⟨g,j*4+3,none⟩=false/\Dbk (W.setCell ⟨g,j*4+3,none⟩ (.int .i64 r)) b (.slice (some ⟨g,0,none⟩) L.length cap) (L.set j ((L.getD j .zz).rts r))):=by
    intro W hb
    have hW:=h.grow hb
    obtain⟨hl,hrr⟩:=hW.row
    rcases hrr with ⟨e,_⟩|⟨g',cap',cur,e,_,hgc,hc1,hc2,hc3,hc4⟩
    ·cases e
    ·cases e
     refine⟨by simp[World.frozen?,hgc],?_⟩
     have hset:=setCell_eq_setRow W g (j*4+3) cur _ _ (.int .i64 r) hgc
     have hgn:b≠g:=fun e=>hnb e.symm
     refine⟨?_,fun o=> ?_,?_,hW.nb,fits_good_set h.good hlt hbr⟩
     ·rw[hset,cell_setRow_other _ _ _ _ hgn];exact hW.c0
     ·rw[hset,World.frozen?_of_block (a:=⟨b,o,none⟩) (setRow_other _ _ _ _ hgn)];exact hW.fb o
     ·rw[hset,List.length_set,<-mpCells_set L j r hlt]
      refine⟨by rw[List.length_set];exact hl,.inr ⟨g,cap,_,rfl,Nat.zero_le _,setRow_heap W g cur _ _ _ hgc,hc1,hc2,by simpa using hc3,?_⟩⟩
      rw[Array.toList_setIfInBounds,List.take_set,hc4]
   have HX:Hid _:=h
   have hc0:=h.c0
   have hlb:=h.lb
   have hlen:=h.good.len
   have i0:(0:Int)<=(j:Int):=by omega
   have i1:(j:Int)<(L.length:Int):=by omega
   clear h
   generalize L.set j ((L.getD j .zz).rts r)=L' at*
   generalize L.getD j .zz=m at*
   generalize L.length=n at*
   obtain⟨mp,ms,mf,mr⟩:=m
   simp only[Pg.Mp.val,Pg.Mp.rts]at*
   go_enter Tryz.func162,Tryz.ntmps162
   go_wp2_with fail
   refine(HCK _).mono ?_
   rintro e w1 ⟨rfl,hb1⟩
   have b1:Below w.heap.size w w1:=zT (zA (zR _) _) hb1
   have hs1:w.heap.size<w1.heap.size:=by have:=hb1.size;simp at this;omega
   have hr1:∀o,w1.cell? ⟨w.heap.size,o,none⟩=_:=fun o=>hb1.cell (p:=⟨w.heap.size,o,none⟩) (by simp)
   have hf1:∀o,w1.frozen? ⟨w.heap.size,o,none⟩=_:=fun o=>hb1.frozen (p:=⟨w.heap.size,o,none⟩) (by simp)
   clear hb1
   go_wp2_with fail
   refine(HH _ b1).mono ?_
   rintro e w2 ⟨rfl,hb2⟩
   have hr2:∀o,w2.cell? ⟨w.heap.size,o,none⟩=_:=fun o=>(hb2.cell (p:=⟨w.heap.size,o,none⟩) hs1).trans (hr1 o)
   have hf2:∀o,w2.frozen? ⟨w.heap.size,o,none⟩=_:=fun o=>(hb2.frozen (p:=⟨w.heap.size,o,none⟩) hs1).trans (hf1 o)
   have hB0:Below w.heap.size w w2:=zT b1 hb2
   have c0:=cell_later hB0 hc0
   have m0:=cell_later hB0 hm0
   have m1:=cell_later hB0 hm1
   have m2:=cell_later hB0 hm2
   have m3:=cell_later hB0 hm3
   obtain⟨fz,HD⟩:=HP.out w2 hB0
   have HD:Hid _:=HD
   have hB:Hid _:=hB0
   have n1:g≠w.heap.size:=by omega
   have n2:b≠w.heap.size:=by omega
   clear hb2 HH HCK hr1 hf1 b1 hs1 hB0 hc0 hm0 hm1 hm2 hm3 HP
   go_wp2_with fail
   refine bodyPost_ret (v:= .tuple #[.agg #[.int .i64 mp,.int .i64 ms,.int .i64 mf,.int .i64 r],.int .i64 0]) ?_ rfl ⟨rfl,?_⟩
   ·simp[results,Tryz.results162,go_sem,hr2]
   ·have f1:DbAt (w2.setCell ⟨g,j*4+3,none⟩ (.int .i64 r)) b L' (bkF b (.slice (some ⟨g,0,none⟩) n cap)):=⟨_,HD.out,rfl⟩
    have f2:But (bkF b (.slice (some ⟨g,0,none⟩) n cap)) w (w2.setCell ⟨g,j*4+3,none⟩ (.int .i64 r)):=(But.of_below hB.out).setCell (a:=⟨g,j*4+3,none⟩) (.inr (.inr rfl)) _
    have hbs:=but_set4 (But.refl (fun k=>k=w.heap.size) (w2.setCell ⟨g,j*4+3,none⟩ (.int .i64 r))) w.heap.size (.inr rfl) (.int .i64 mp) (.int .i64 ms) (.int .i64 mf) (.int .i64 r)
    refine⟨_,f1.keep hbs (fun k hk=> ?_),f2.trans hbs (fun i hi e=> ?_),fun k hk=> .inl hk⟩
    ·rcases hk with rfl|hk
     ·exact n2
     ·simp only[Value.ownBlock,Option.some.injEq]at hk
      omega
    ·omega
 ·rw[if_neg hc]at HCK
  have hC:Pg.protC L q r=1:=by
   unfold Pg.protC Pg.dropC
   cases h1:Pg.below q 4096<;>cases h2:Pg.below r 8<;>simp_all
  have hM:Pg.protM L q r= .zz:=by simp[Pg.protM,hC]
  have HK':Hid _:=fun w' hb=>HK.out w' hb (by rw[hC];decide)
  rw[hC,hM,show(.zz:Pg.Mp).val= .agg #[.int .i64 0,.int .i64 0,.int .i64 0,.int .i64 0]from rfl]
  clear h HK hC hM hc
  generalize Pg.protL L q r=L' at*
  go_enter Tryz.func162,Tryz.ntmps162
  go_wp2_with fail
  refine(HCK _).mono ?_
  rintro e w1 ⟨rfl,hb1⟩
  have hr:∀o,w1.cell? ⟨w.heap.size,o,none⟩=_:=fun o=>hb1.cell (p:=⟨w.heap.size,o,none⟩) (by simp)
  have hf:∀o,w1.frozen? ⟨w.heap.size,o,none⟩=_:=fun o=>hb1.frozen (p:=⟨w.heap.size,o,none⟩) (by simp)
  have hB:Hid (Below w.heap.size w w1):=zT (zA (zR _) _) hb1
  clear hb1 HCK
  go_wp2_with fail
  refine bodyPost_ret (v:= .tuple #[.agg #[.int .i64 0,.int .i64 0,.int .i64 0,.int .i64 0],.int .i64 1]) ?_ rfl ⟨rfl,?_⟩
  ·simp[results,Tryz.results162,go_sem,hr]
  ·exact HK'.out _ (below_set4 hB.out _ (Nat.le_refl _) _ _ _ _)
end
end Go.Proofs.YtkhnelgommaioaaGreat
