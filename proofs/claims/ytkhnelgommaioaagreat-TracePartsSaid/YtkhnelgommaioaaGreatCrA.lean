import Derived.Test.YtkhnelgommaioaaGreatPlainKB
import Derived.Test.YtkhnelgommaioaaGreatTlbB
import Derived.Test.YtkhnelgommaioaaGreatKC
namespace Go.Proofs.YtkhnelgommaioaaGreat
open Go.RowKit Go.Sort
set_option linter.unusedVariables false
set_option maxRecDepth 100000
attribute [local go_sem] Loose.gent
structure Crk (w:World) (b bt bk:Nat) (Ft:Nat->Prop) (root:Int) (C:Pg.Cr):Prop where
 c0:w.cell? ⟨b,0,none⟩=some (.pointer (some ⟨bt,0,none⟩))
 c1:w.cell? ⟨b,1,none⟩=some (.pointer (some ⟨bk,0,none⟩))
 tb:TbAt w bt 0 C.L Ft
 wk:WkAt w bk 0 root C.K
 nb:¬Ft b
 nk:¬Ft bk
 ne:b≠bk
 ok:C.K.Ok
def crF (b bk:Nat) (Ft:Nat->Prop):Nat->Prop:=fun j=>j=b\/j=bk\/Ft j
namespace Crk
variable {w w':World} {b bt bk:Nat} {Ft Ft' G:Nat->Prop} {root:Int} {C:Pg.Cr} {K':Pg.Wk} {L':List Pg.Ln}
theorem lb (h:Crk w b bt bk Ft root C):b<w.heap.size:=World.block_lt_of_cell? _ _ h.c0
theorem lt (h:Crk w b bt bk Ft root C) {k:Nat} (hk:crF b bk Ft k):k<w.heap.size:=by
 rcases hk with rfl|rfl|hk
 ·exact h.lb
 ·exact h.wk.lb
 ·exact h.tb.lt hk
theorem keep (h:Crk w b bt bk Ft root C) (hb:But G w w') (hG:∀k,crF b bk Ft k->¬G k):Crk w' b bt bk Ft root C:=by
 have n:=hG b (.inl rfl)
 exact⟨(hb.cell (a:=⟨b,0,none⟩) h.lb n).trans h.c0,(hb.cell (a:=⟨b,1,none⟩) h.lb n).trans h.c1,h.tb.keep hb fun k hk=>hG k (.inr (.inr hk)),h.wk.keep hb (hG bk (.inr (.inl rfl))),h.nb,h.nk,h.ne,h.ok⟩
theorem grow (h:Crk w b bt bk Ft root C) (hb:Below w.heap.size w w'):Crk w' b bt bk Ft root C:=h.keep (G:=fun _=>False) (But.of_below hb) (fun _ _=>id)
theorem stepK (h:Crk w b bt bk Ft root C) (hk:WkAt w' bk 0 root K') (ok:K'.Ok) (hb:But (fun j=>j=bk) w w'):Crk w' b bt bk Ft root ⟨C.L,K'⟩:=
 ⟨(hb.cell (a:=⟨b,0,none⟩) h.lb h.ne).trans h.c0,(hb.cell (a:=⟨b,1,none⟩) h.lb h.ne).trans h.c1,h.tb.keep hb fun k hk e=>h.nk (e▸hk),hk,h.nb,h.nk,h.ne,ok⟩
theorem stepT (h:Crk w b bt bk Ft root C) (ht:TbAt w' bt 0 L' Ft') (hb:But Ft w w') (hF:∀k,Ft' k->Ft k\/w.heap.size<=k):Crk w' b bt bk Ft' root ⟨L',C.K⟩:=by
 have hl:=h.lb
 have hlk:=h.wk.lb
 exact⟨(hb.cell (a:=⟨b,0,none⟩) h.lb h.nb).trans h.c0,(hb.cell (a:=⟨b,1,none⟩) h.lb h.nb).trans h.c1,ht,h.wk.keep hb h.nk,fun hk=>(hF b hk).elim h.nb (fun h=>by omega),fun hk=>(hF bk hk).elim h.nk (fun h=>by omega),h.ne,h.ok⟩
theorem stepS {Ff:Nat->Prop} (h:Crk w b bt bk Ft root C) (hk:WkAt w' bk 0 root K') (ok:K'.Ok) (hb:But (fun j=>j=bk\/Ff j) w w') (hne:∀j,crF b bk Ft j->¬Ff j):Crk w' b bt bk Ft root ⟨C.L,K'⟩:=by
 have n:¬(b=bk\/Ff b):=fun e=>e.elim h.ne (hne b (.inl rfl))
 exact⟨(hb.cell (a:=⟨b,0,none⟩) h.lb n).trans h.c0,(hb.cell (a:=⟨b,1,none⟩) h.lb n).trans h.c1,h.tb.keep hb fun k hk e=>e.elim (fun e=>h.nk (e▸hk)) (hne k (.inr (.inr hk))),hk,h.nb,h.nk,h.ne,ok⟩
end Crk
structure CrAt (w:World) (b:Nat) (root:Int) (C:Pg.Cr) (F:Nat->Prop):Prop where
 ex:∃bt bk Ft,Crk w b bt bk Ft root C/\F=crF b bk Ft
section
variable {w w':World} {b:Nat} {root:Int} {C:Pg.Cr} {F G:Nat->Prop}
theorem CrAt.lt (h:CrAt w b root C F) {k:Nat} (hk:F k):k<w.heap.size:=by
 obtain⟨bt,bk,Ft,h,rfl⟩:=h
 exact h.lt hk
theorem CrAt.keep (h:CrAt w b root C F) (hb:But G w w') (hF:∀k,F k->¬G k):CrAt w' b root C F:=by
 obtain⟨bt,bk,Ft,h,rfl⟩:=h
 exact⟨bt,bk,Ft,h.keep hb hF,rfl⟩
theorem CrAt.grow (h:CrAt w b root C F) (hb:Below w.heap.size w w'):CrAt w' b root C F:=h.keep (G:=fun _=>False) (But.of_below hb) (fun _ _=>id)
end
theorem row3a {w:World} {r:Nat} {v0 v1 v2:Value} {t:TypeId} (h:w.heap[r]?=some (.cells #[v0,v1,v2] t (0,0))):
 (w.cell? ⟨r,0,none⟩=some v0/\w.cell? ⟨r,1,none⟩=some v1/\w.cell? ⟨r,2,none⟩=some v2)/\∀i,w.frozen? ⟨r,i,none⟩=false:=
 ⟨by simp[World.cell?,h],fun i=>by simp[World.frozen?,h]⟩
theorem but_set3a {F:Nat->Prop} {w w1:World} (h:But F w w1) (r:Nat) (hr:w.heap.size<=r\/F r) (x0 x1 x2:Value):But F w (((w1.setCell ⟨r,0,none⟩ x0).setCell ⟨r,1,none⟩ x1).setCell ⟨r,2,none⟩ x2):=
 ((h.setCell (a:=⟨r,0,none⟩) hr x0).setCell (a:=⟨r,1,none⟩) hr x1).setCell (a:=⟨r,2,none⟩) hr x2
theorem below_set3a {w w1:World} (h:Below w.heap.size w w1) (r:Nat) (hr:w.heap.size<=r) (x0 x1 x2:Value):Below w.heap.size w (((w1.setCell ⟨r,0,none⟩ x0).setCell ⟨r,1,none⟩ x1).setCell ⟨r,2,none⟩ x2):=
 ((h.setCell (p:=⟨r,0,none⟩) hr x0).setCell (p:=⟨r,1,none⟩) hr x1).setCell (p:=⟨r,2,none⟩) hr x2
theorem crNew_any (root:Int) (w:World):
 Calls Tryz.prog 49 #[.int .i64 root] w fun e w'=>∃b F,e= .returned (.pointer (some ⟨b,0,none⟩))/\CrAt w' b root Pg.Cr.new F/\Below w.heap.size w w'/\∀k,F k->w.heap.size<=k:=by
 go_enter Tryz.func49,Tryz.ntmps49
 go_wp2_with fail
 refine(tbNew_any _).mono ?_
 rintro e w1 ⟨bt,Ft,rfl,ht,hb1,hF⟩
 have HT:Hid _:=ht
 have HB1:Hid _:=hb1
 have HF:Hid _:=hF
 clear ht hb1 hF
 go_wp2_with fail
 refine(kNew_any root _).mono ?_
 rintro e w2 ⟨bk,rfl,hk,hb2,hbk⟩
 have HK:Hid _:=hk
 have HB2:Hid _:=hb2
 have s1:=HB1.out.size
 have s2:=hb2.size
 clear hk hb2
 go_wp2_with fail
 go_ret
 have hb3:=zA (zR w2) (.cells #[.pointer (some ⟨bt,0,none⟩),.pointer (some ⟨bk,0,none⟩)] 132)
 have hkl:=HK.out.lb
 have n1:¬Ft w2.heap.size:=fun hj=>by have:=HT.out.lt hj;omega
 have n2:¬Ft bk:=fun hj=>by have:=HT.out.lt hj;omega
 refine⟨_,_,rfl,⟨bt,bk,Ft,⟨?_,?_,(HT.out.grow HB2.out).grow hb3,HK.out.grow hb3,n1,n2,by omega,Pg.Wk.off_ok⟩,rfl⟩,zT (zT HB1.out HB2.out) hb3,fun k hk=> ?_⟩
 ·simp[go_sem]
 ·simp[go_sem]
 ·rcases hk with rfl|rfl|hk
  ·omega
  ·omega
  ·exact HF.out k hk
section
variable {b:Nat} {root:Int} {C:Pg.Cr} {F:Nat->Prop}
theorem crBusy_any (w:World) (h:CrAt w b root C F):
 Calls Tryz.prog 64 #[.pointer (some ⟨b,0,none⟩)] w fun e w'=>e= .returned (.bool C.K.on)/\w'=w:=by
 obtain⟨bt,bk,Ft,h,rfl⟩:=h
 have c1:=h.c1
 have HO:=kOn_any w h.wk
 clear h
 go_enter Tryz.func64,Tryz.ntmps64
 go_wp2_with fail
 refine HO.mono ?_
 rintro e w1 ⟨rfl,hw⟩
 subst w1
 go_wp2_with fail
 go_ret
 exact⟨rfl,rfl⟩
theorem crTold_any (m:Pg.Mp) (hm:Pg.fits m.p) (w:World) (h:CrAt w b root C F):
 Calls Tryz.prog 149 #[.pointer (some ⟨b,0,none⟩),m.val] w fun e w'=>e= .returned (.tuple #[])/\∃F',CrAt w' b root (C.told root m) F'/\But F w w'/\∀k,F' k->F k\/w.heap.size<=k:=by
 obtain⟨bt,bk,Ft,h,rfl⟩:=h
 obtain⟨W,hW⟩:∃W,W=w.alloc (.cells #[.int .i64 m.p,.int .i64 m.s,.int .i64 m.f,.int .i64 m.r] 39):=⟨_,rfl⟩
 have hB:Below w.heap.size w W:=by rw[hW];exact zA (zR _) _
 have k1:MpAt W w.heap.size 0 m:=by rw[hW];exact⟨by simp[go_sem],by simp[go_sem],by simp[go_sem],by simp[go_sem]⟩
 have HW:Hid _:=h.grow hB
 have HB:Hid _:=hB
 have HD:=fun w' (ht:TbAt w' bt 0 C.L Ft)=>tbDrop_any m hm w' ht
 obtain⟨x0,x1,x2,x3⟩:=k1
 have g0:=cell_regrown x0
 have g1:=cell_regrown x1
 have g2:=cell_regrown x2
 have g3:=cell_regrown x3
 have g4:=cell_regrown HW.out.c0
 simp only[Nat.zero_add]at g0 g1 g2 g3
 clear h hB x0 x1 x2 x3
 obtain⟨L,K⟩:=C
 unfold Pg.Cr.told
 simp only at HD ⊢
 generalize Pg.kDrop L m=L' at*
 obtain⟨mp,ms,mf,mr⟩:=m
 simp only[Pg.Mp.val]at hW g0 g1 g2 g3 HD ⊢
 go_enter Tryz.func149,Tryz.ntmps149
 go_wp2_with fail
 rw[<-hW]
 clear hW
 refine Loose.wp_region_late 5 (by kernel_rfl) (by kernel_rfl) ?_
 simp only[List.take_succ_cons,List.take_zero,List.drop_succ_cons,List.drop_zero]
 repeat (
  refine Loose.zS (fun k hk=> ?_)
  go_simp
  (refine hk _ ?_;clear hk k))
 refine Loose.wpGent_nil ?_
 intro w3 hb3
 have H3:Hid _:=HW.out.grow hb3
 have HB3:Hid (Below w.heap.size w w3):=zT HB.out hb3
 clear hb3 g0 g1 g2 g3 g4 HW HB
 go_wp2_with fail
 refine(HD _ H3.out.tb).mono ?_
 rintro e w4 ⟨rfl,Ft',ht,hc,hF⟩
 have H4:Hid _:=H3.out.stepT ht hc.but hF
 have HB4:Hid (But (crF b bk Ft) w w4):=(But.of_below HB3.out).trans hc.but (fun _ _ h=> .inr (.inr h))
 have HF4:Hid (∀k,crF b bk Ft' k->crF b bk Ft k\/w.heap.size<=k):=fun k hk=>by
  have hs:=HB3.out.size
  rcases hk with hk|hk|hk
  ·exact .inl (.inl hk)
  ·exact .inl (.inr (.inl hk))
  ·exact(hF k hk).imp (fun h=> .inr (.inr h)) (fun h=>by omega)
 have c1:=H4.out.c1
 clear ht hc hF HD H3 HB3
 go_wp2_with fail
 refine(kAgain_any _ H4.out.wk).mono ?_
 rintro e w5 ⟨rfl,hk5,hc5⟩
 have H5:Hid _:=H4.out.stepK hk5 (H4.out.ok.again root) hc5.but
 have HB5:Hid (But (crF b bk Ft) w w5):=HB4.out.trans hc5.but (fun _ _ h=> .inr (.inl h))
 clear hk5 hc5 H4 HB4 c1
 go_wp2_with fail
 go_end0
 exact⟨rfl,_,⟨_,_,_,H5.out,rfl⟩,HB5.out,HF4.out⟩
theorem wantsMark_any (l:Pg.Ln) (q k:Int) (u:Bool) (w:World):
 Calls Tryz.prog 143 #[l.val,.agg #[.int .i64 q,.int .i64 k,.bool u]] w fun e w'=>e= .returned (.bool (l.wants k u))/\Below w.heap.size w w':=by
 obtain⟨⟨mp,ms,mf,mr⟩,d⟩:=l
 have HM:=fun w=>may_any mr q k u w
 simp only[Pg.Ln.val,Pg.Ln.wants]
 cases hk:(k==1)
 ·go_enter Tryz.func143,Tryz.ntmps143
  go_wp2_with fail
  go_ret
  exact⟨rfl,zA (zA (zR w) _) _⟩
 ·cases d
  ·generalize Pg.may mr k u=x at*
   go_enter Tryz.func143,Tryz.ntmps143
   go_wp2_with fail
   refine(HM _).mono ?_
   rintro e w1 ⟨rfl,hb1⟩
   have HB:Hid (Below w.heap.size w w1):=zT (zA (zA (zR w) _) _) hb1
   clear hb1
   go_wp2_with fail
   go_ret
   exact⟨rfl,HB.out⟩
  ·go_enter Tryz.func143,Tryz.ntmps143
   go_wp2_with fail
   go_ret
   exact⟨rfl,zA (zA (zR w) _) _⟩
end
end Go.Proofs.YtkhnelgommaioaaGreat
