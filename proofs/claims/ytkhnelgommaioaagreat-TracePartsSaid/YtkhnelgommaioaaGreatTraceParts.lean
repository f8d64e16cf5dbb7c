
/-
  WHAT COMES BEHIND DOES NOT MATTER: TraceParts is proved: of whatever script, cut at whatever place, the beginning of it comes to the beginning of what the whole comes to, and the whole, run again, comes to the same.
  Conditions: none.
-/
import Derived.Test.YtkhnelgommaioaaGreatTrF
import Derived.Test.YtkhnelgommaioaaGreatFrameB
namespace Go.Proofs.YtkhnelgommaioaaGreat
open Go.ChangeShapes Go.WideShapes Go.ChangeAt Go.RowKit Go.Joins Go.Sort
set_option linter.unusedVariables false
set_option linter.unusedSimpArgs false
set_option maxRecDepth 100000
attribute [local go_sem] Loose.gent
section
variable {H:Type} {enc:TypeId×Value->H} {W:World} {r:Reach} {b0 base:Nat} {spare:Nat->Bool} {held:Bool} {v:Value} {d:DataW H} {p:List MemPlace}
theorem openBstsC (hv:Value.okWide Tryz.prog W r b0 22 v) (h:DataW.Trod enc Tryz.prog W base spare held 22 v d p):
 ∃(ad:Option Addr) (len cap:Nat) (q:Nat->Bst),v= .slice ad len cap/\
  (∀j,j<len->(∃b o,ad=some ⟨b,o,none⟩/\b<W.heap.size/\BstAt W b (o+j*9) (q j))/\BstFits (q j))/\len<=cap:=by
 obtain⟨ad,len,cap,q,rfl,hq⟩:=openBsts hv h
 refine⟨ad,len,cap,q,rfl,hq,?_⟩
 obtain⟨fuel,hf⟩:=h
 rcases Go.Deep.open_slice Tryz.underlying22 hf with ⟨e,_⟩|⟨a,len',cap',m,n,D,Pl,e,_,hl,_⟩
 ·simp[Value.cells]at e
  omega
 ·simp[Value.cells]at e
  omega
end
theorem cut_is (cut:Int) (len:Nat) (hl:len<=300):∃k:Nat,wrap64 ((IntKind.u64.wrap cut).tmod ((len:Int)+1))=(k:Int)/\k<=len:=by
 have h0:0<=IntKind.u64.wrap cut:=by
  simp only[IntKind.wrap,IntKind.bits,IntKind.signed,Bool.false_and,Bool.false_eq_true,if_false]
  exact Int.emod_nonneg _ (by decide)
 obtain⟨B,hB⟩:=Int.eq_ofNat_of_zero_le h0
 rw[hB]
 have e1:(B:Int).tmod ((len:Int)+1)=((B%(len+1):Nat):Int):=by rw[Int.tmod_eq_emod_of_nonneg (by omega)];simp
 have hlt:B%(len+1)<len+1:=Nat.mod_lt _ (by omega)
 exact⟨B%(len+1),by rw[e1,wrap64_in (by omega) (by omega)],by omega⟩
set_option maxHeartbeats 4000000 in
theorem traceParts_walk (W:World) (co:Int) (hco:Pg.fits co) (n:Int) (hn:Pg.fits n) (ad:Option Addr) (len cap:Nat) (q:Nat->Bst)
 (hq:∀j,j<len->(∃b o,ad=some ⟨b,o,none⟩/\b<W.heap.size/\BstAt W b (o+j*9) (q j))/\BstFits (q j)) (hcap:len<=cap) (cut:Int) (hcut:Pg.fits cut):
 Calls Tryz.prog 7 #[.int .i64 co,.int .i64 n,.slice ad len cap,.int .i64 cut] W fun e W'=>e= .returned (.bool true)/\Below W.heap.size W W':=by
 have HQ:Hid _:=hq
 clear hq
 by_cases hl:300<len
 ·as_aux_lemma=>
  have d1:decide ((300:Int)<(len:Int))=true:=by simp;omega
  go_enter Tryz.func7,Tryz.ntmps7
  go_wp2_with fail
  refine(traceBegun_any _).mono ?_
  rintro e w1 ⟨rfl,hb1⟩
  have HB:Hid _:=hb1
  clear hb1
  go_wp2_with fail
  refine(greatSteps_any ad len cap 300 _).mono ?_
  rintro e w2 ⟨rfl,rfl⟩
  go_wp2_with fail
  go_ret
  exact⟨rfl,HB.out⟩
 ·have d1:decide ((300:Int)<(len:Int))=false:=by simp;omega
  go_enter Tryz.func7,Tryz.ntmps7
  go_wp2_with fail
  refine(traceBegun_any _).mono ?_
  rintro e w1 ⟨rfl,hb1⟩
  have HB:Hid _:=hb1
  clear hb1
  go_wp2_with fail
  refine(greatSteps_any ad len cap 300 _).mono ?_
  rintro e w2 ⟨rfl,rfl⟩
  go_upto_region 6 with fail
  obtain⟨kc,hkc,hkl⟩:=cut_is cut len (by omega)
  rw[hkc]
  have HKC:Hid _:=hkc
  clear hkc
  have k0:¬(kc:Int)<0:=by omega
  have k1:(0:Int)<=(kc:Int):=by omega
  have k2:(kc:Int)<=(cap:Int):=by omega
  have k3:¬(cap:Int)<(kc:Int):=by omega
  by_cases hbad:co<1\/4<co\/n<1\/128<n
  ·as_aux_lemma=>
   have HR:=fun w (m:Nat)=>trRun_bad co n ad m cap w hbad
   clear hbad
   go_wp2_with fail
   refine(HR _ _).mono ?_
   rintro e w3 ⟨rfl,hb3⟩
   obtain⟨W4,hW4⟩:∃W4,W4=w3.alloc (.cells #[.int .i64 1,.int .i64 (-1)] 27):=⟨_,rfl⟩
   have hb4:Below w3.heap.size w3 W4:=by rw[hW4];exact zA (zR _) _
   have y0:W4.cell? ⟨w3.heap.size,0,none⟩=some (.int .i64 1):=by rw[hW4];simp[go_sem]
   have y1:W4.cell? ⟨w3.heap.size,1,none⟩=some (.int .i64 (-1)):=by rw[hW4];simp[go_sem]
   have HB4:Hid _:=zT (zT HB.out hb3) hb4
   clear hb3 hb4
   go_upto_region 7 with fail
   rw[<-hW4]
   clear hW4
   go_wp2_with fail
   refine(HR _ kc).mono ?_
   rintro e w5 ⟨rfl,hb5⟩
   obtain⟨W6,hW6⟩:∃W6,W6=w5.alloc (.cells #[.int .i64 1,.int .i64 (-1)] 27):=⟨_,rfl⟩
   have hb6:Below w5.heap.size w5 W6:=by rw[hW6];exact zA (zR _) _
   have hb46:Below W4.heap.size W4 W6:=zT hb5 hb6
   have y0:=cell_later hb46 y0
   have y1:=cell_later hb46 y1
   have z0:W6.cell? ⟨w5.heap.size,0,none⟩=some (.int .i64 1):=by rw[hW6];simp[go_sem]
   have z1:W6.cell? ⟨w5.heap.size,1,none⟩=some (.int .i64 (-1)):=by rw[hW6];simp[go_sem]
   have HB6:Hid _:=zT HB4.out hb46
   clear hb5 hb6 hb46
   go_upto_region 8 with fail
   rw[<-hW6]
   clear hW6
   go_wp2_with fail
   refine(HR _ _).mono ?_
   rintro e w7 ⟨rfl,hb7⟩
   have y0:=cell_later hb7 y0
   have y1:=cell_later hb7 y1
   have z0:=cell_later hb7 z0
   have z1:=cell_later hb7 z1
   have ly:=World.block_lt_of_cell? _ _ y0
   have lz:=World.block_lt_of_cell? _ _ z0
   have ny:w3.heap.size≠w7.heap.size:=Nat.ne_of_lt ly
   have nz:w5.heap.size≠w7.heap.size:=Nat.ne_of_lt lz
   have HB7:Hid _:=zT HB6.out hb7
   clear hb7 HR
   go_wp2_with fail
   go_ret
   exact⟨rfl,zA HB7.out _⟩
  ·obtain⟨cn,rfl⟩:=Int.eq_ofNat_of_zero_le (show 0<=co by omega)
   obtain⟨nn,rfl⟩:=Int.eq_ofNat_of_zero_le (show 0<=n by omega)
   have HR:=fun(m:Nat) (hm:m<=len) (w:World) (hb:Below W.heap.size W w)=>trRun_any cn nn (ad:=ad) (len:=m) (cap:=cap) (q:=q) w (by omega) (by omega) (by omega) (by omega) (by omega) fun j hj=>by
    obtain⟨⟨xb,xo,e,hx,hc⟩,hf⟩:=HQ.out j (by omega)
    refine⟨⟨xb,xo,e,Nat.lt_of_lt_of_le hx hb.size,?_⟩,hf⟩
    obtain⟨x0,x1,x2,x3,x4,x5,x6,x7,x8⟩:=hc
    exact⟨(hb.cell (p:=⟨xb,_,none⟩) hx).trans x0,(hb.cell (p:=⟨xb,_,none⟩) hx).trans x1,(hb.cell (p:=⟨xb,_,none⟩) hx).trans x2,(hb.cell (p:=⟨xb,_,none⟩) hx).trans x3,(hb.cell (p:=⟨xb,_,none⟩) hx).trans x4,(hb.cell (p:=⟨xb,_,none⟩) hx).trans x5,(hb.cell (p:=⟨xb,_,none⟩) hx).trans x6,(hb.cell (p:=⟨xb,_,none⟩) hx).trans x7,(hb.cell (p:=⟨xb,_,none⟩) hx).trans x8⟩
   have ET:=Pg.Trs.upto_take (Pg.Trs.new cn nn) (fun j=>(q j).sx) rfl hkl
   have EL:=Pg.Trs.upto_len (Pg.Trs.new cn nn) (fun j=>(q j).sx) len
   have EK:=Pg.Trs.upto_len (Pg.Trs.new cn nn) (fun j=>(q j).sx) kc
   rw[show(Pg.Trs.new cn nn).E.length=0 from rfl]at EL EK
   have HRL:=HR len (Nat.le_refl _)
   have HRK:=HR kc hkl
   generalize ((Pg.Trs.new cn nn).upto (fun j=>(q j).sx) len).E=EA at*
   generalize ((Pg.Trs.new cn nn).upto (fun j=>(q j).sx) kc).E=EB at*
   have hEA:EA.length=len:=by omega
   have hEB:EB.length=kc:=by omega
   clear HR hbad HQ EL EK
   as_aux_lemma=>
   have HRA:=HRL _ HB.out
   go_wp2_with fail
   refine HRA.mono ?_
   rintro e w3 ⟨ae,ce,hce,rfl,ea,hb3⟩
   obtain⟨W4,hW4⟩:∃W4,W4=w3.alloc (.cells #[.int .i64 0,.int .i64 0] 27):=⟨_,rfl⟩
   have hb4:Below w3.heap.size w3 W4:=by rw[hW4];exact zA (zR _) _
   have y0:W4.cell? ⟨w3.heap.size,0,none⟩=some (.int .i64 0):=by rw[hW4];simp[go_sem]
   have y1:W4.cell? ⟨w3.heap.size,1,none⟩=some (.int .i64 0):=by rw[hW4];simp[go_sem]
   have HB4:Hid (Below W.heap.size W W4):=zT (zT HB.out hb3) hb4
   have EA4:Hid (EvsAt W4 ae EA):=ea.below hb4
   have HRB:=HRK _ HB4.out
   clear hb3 hb4 ea HRA HRK
   go_upto_region 7 with fail
   rw[<-hW4]
   clear hW4
   go_wp2_with fail
   refine HRB.mono ?_
   rintro e w5 ⟨ab,cb,_,rfl,eb,hb5⟩
   obtain⟨W6,hW6⟩:∃W6,W6=w5.alloc (.cells #[.int .i64 0,.int .i64 0] 27):=⟨_,rfl⟩
   have hb6:Below w5.heap.size w5 W6:=by rw[hW6];exact zA (zR _) _
   have hb46:Below W4.heap.size W4 W6:=zT hb5 hb6
   have y0:=cell_later hb46 y0
   have y1:=cell_later hb46 y1
   have z0:W6.cell? ⟨w5.heap.size,0,none⟩=some (.int .i64 0):=by rw[hW6];simp[go_sem]
   have z1:W6.cell? ⟨w5.heap.size,1,none⟩=some (.int .i64 0):=by rw[hW6];simp[go_sem]
   have HB6:Hid (Below W.heap.size W W6):=zT HB4.out hb46
   have EA6:Hid (EvsAt W6 ae EA):=EvsAt.below EA4.out hb46
   have EB6:Hid (EvsAt W6 ab EB):=eb.below hb6
   have HRC:=HRL _ HB6.out
   clear hb5 hb6 hb46 eb HRB HRL EA4
   go_upto_region 8 with fail
   rw[<-hW6]
   clear hW6
   go_wp2_with fail
   refine HRC.mono ?_
   rintro e w7 ⟨ac,cc,_,rfl,ec,hb7⟩
   obtain⟨W8,hW8⟩:∃W8,W8=w7.alloc (.cells #[.int .i64 0,.int .i64 0] 27):=⟨_,rfl⟩
   have hb8:Below w7.heap.size w7 W8:=by rw[hW8];exact zA (zR _) _
   have hb68:Below W6.heap.size W6 W8:=zT hb7 hb8
   have y0:=cell_later hb68 y0
   have y1:=cell_later hb68 y1
   have z0:=cell_later hb68 z0
   have z1:=cell_later hb68 z1
   have u0:W8.cell? ⟨w7.heap.size,0,none⟩=some (.int .i64 0):=by rw[hW8];simp[go_sem]
   have u1:W8.cell? ⟨w7.heap.size,1,none⟩=some (.int .i64 0):=by rw[hW8];simp[go_sem]
   have HB8:Hid (Below W.heap.size W W8):=zT HB6.out hb68
   have EA8:Hid (EvsAt W8 ae EA):=EvsAt.below EA6.out hb68
   have EB8:Hid (EvsAt W8 ab EB):=EvsAt.below EB6.out hb68
   have EC8:Hid (EvsAt W8 ac EA):=ec.below hb8
   clear hb7 hb8 hb68 ec HRC EA6 EB6
   go_upto_region 9 with fail
   rw[<-hW8]
   clear hW8
   have j1:(kc:Int)<=(ce:Int):=by omega
   have j2:¬(ce:Int)<(kc:Int):=by omega
   have HS1:=sameEvents_yes (cap:=cb) (cap':=ce) W8 EB8.out (ET▸EvsAt.take EA8.out kc) (by omega)
   have HS2:=fun w' (hb:Below W8.heap.size W8 w')=>sameEvents_yes (cap:=ce) (cap':=cc) w' (EvsAt.below EA8.out hb) (EvsAt.below EC8.out hb) (by omega)
   rw[hEB]at HS1
   rw[hEA]at HS2
   clear EA8 EB8 EC8 ET hEA hEB
   go_wp2_with fail
   refine HS1.mono ?_
   rintro e w9 ⟨rfl,hb9⟩
   have HS2:=HS2 _ hb9
   have HB9:Hid (Below W.heap.size W w9):=zT HB8.out hb9
   clear hb9 HS1
   go_wp2_with fail
   refine HS2.mono ?_
   rintro e w10 ⟨rfl,hb10⟩
   have HB10:Hid (Below W.heap.size W w10):=zT HB9.out hb10
   clear hb10 HS2
   go_wp2_with fail
   go_ret
   exact⟨rfl,HB10.out⟩
set_option maxRecDepth 100000 in
theorem traceParts_lifted (os:Os) (started:os.Started) (H:Type) (enc:TypeId×Value->H):
 ReturnsInHanded {} Tryz.checked os 7 .any (Rows.tracePartsSpec.pre6 enc Tryz.prog Tryz.f7 Rows.tracePartsRow.domain false) (Rows.tracePartsSpec.post enc Tryz.prog Tryz.f7 false true false false):=by
 refine returnsInHanded_of_change (C:=Tryz.checked) own started (by kernel_rfl) Tryz.func7
  (ChangeSpec.witness6 (enc:=enc) (C:=Tryz.checked) false ⟨#[],#[.int .i64 0,.int .i64 0,.slice none 0 0,.int .i64 0],[]⟩ 8 (by kernel_rfl) (by kernel_rfl) (by kernel_rfl) (by kernel_rfl)) ?_
 intro W base args ds gs before hval0 hW hcnd _
 have hval:∀(j:Nat) t v,Tryz.f7.params[j]?=some t->args[j]?=some v->Value.okWide Tryz.prog W .any base t v:=hval0
 have hW':=hW
 obtain⟨p,q,hA0,hV,rfl,hfz,hnd⟩:=hW
 have hA:DataW.TrodAll enc Tryz.prog W 0 (fun _=>true) true Tryz.f7.params.toList args.toList ds p:=hA0
 rw[Tryz.params7]at hA hval
 obtain⟨v0,vs0,d0,ds0,p0,q0,hargs,rfl,rfl,h0,r0⟩:=trodAll_cons hA
 obtain⟨v1,vs1,d1,ds1,p1,q1,rfl,rfl,rfl,h1,r1⟩:=trodAll_cons r0
 obtain⟨v2,vs2,d2,ds2,p2,q2,rfl,rfl,rfl,h2,r2⟩:=trodAll_cons r1
 obtain⟨v3,vs3,d3,ds3,p3,q3,rfl,rfl,rfl,h3,r3⟩:=trodAll_cons r2
 obtain⟨rfl,rfl,rfl⟩:=trodAll_nil r3
 obtain rfl:args=#[v0,v1,v2,v3]:=by cases args;simp_all
 obtain⟨rfl,rfl⟩:=trodVars_none hV
 obtain⟨a0a,rfl,f0a⟩:=openInt (hval 0 3 v0 rfl rfl) h0
 obtain⟨a1a,rfl,f1a⟩:=openInt (hval 1 3 v1 rfl rfl) h1
 obtain⟨a2a,a2b,a2c,a2d,rfl,f2a,f2b⟩:=openBstsC (hval 2 22 v2 rfl rfl) h2
 obtain⟨a3a,rfl,f3a⟩:=openInt (hval 3 3 v3 rfl rfl) h3
 clear hA0 hval0
 refine(traceParts_walk W a0a f0a a1a f1a a2a a2b a2c a2d f2a f2b a3a f3a).mono fun e W' ⟨he,bel⟩=> ?_
 subst he
 exact⟨_,rfl,_,_,_,[],_,[],hW',trodAll_mk1 (shut_bool Tryz.underlying4 _),(trodAll_cons_mk (stays (by kernel_rfl) (of_decide_eq_true (by kernel_rfl)) h0 bel) (trodAll_cons_mk (stays (by kernel_rfl) (of_decide_eq_true (by kernel_rfl)) h1 bel) (trodAll_cons_mk (stays (by kernel_rfl) (of_decide_eq_true (by kernel_rfl)) h2 bel) (trodAll_cons_mk (stays (by kernel_rfl) (of_decide_eq_true (by kernel_rfl)) h3 bel) trodAll_mk0)))),rfl,bel.frame _,fun h=>by cases h⟩
theorem traceParts_over:Rows.tracePartsRow.holds Tryz.pinned (OpenSpec.ofChange Rows.tracePartsSpec):=
 OpenClaim.holds_of_wide 7 Tryz.f7 rfl rfl rfl rfl rfl rfl rfl ⟨rfl,rfl,rfl,rfl,rfl⟩ rfl rfl rfl rfl rfl (by kernel_rfl) Tryz.func7 (by kernel_rfl)
  (of_decide_eq_true (by kernel_rfl)) (by unfold Func.isWrapper;first|(rw[if_pos (by decide+kernel)];kernel_rfl)|(rw[if_neg (by decide+kernel)];exact⟨rfl,rfl⟩))
  (fun os started H enc _=>traceParts_lifted os started H enc)
theorem traceParts_proved:Rows.TracePartsSaid:=traceParts_over
#print axioms traceParts_proved
end Go.Proofs.YtkhnelgommaioaaGreat
