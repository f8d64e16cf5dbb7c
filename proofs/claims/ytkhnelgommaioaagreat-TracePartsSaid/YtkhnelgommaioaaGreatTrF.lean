import Derived.Test.YtkhnelgommaioaaGreatTrD
namespace Go.Proofs.YtkhnelgommaioaaGreat
open Go.RowKit Go.Sort
set_option linter.unusedVariables false
set_option linter.unusedSimpArgs false
set_option maxRecDepth 100000
attribute [local go_sem] Loose.gent
set_option maxHeartbeats 1000000 in
theorem trRun_bad (co n:Int) (ad:Option Addr) (len cap:Nat) (w:World) (hbad:co<1\/4<co\/n<1\/128<n):
 Calls Tryz.prog 38 #[.int .i64 co,.int .i64 n,.slice ad len cap] w fun e w'=>e= .returned (.tuple #[.slice none 0 0,.agg #[.int .i64 1,.int .i64 (-1)]])/\Below w.heap.size w w':=by
 have HN:=fun w=>wtNew_bad co n w hbad
 clear hbad
 go_enter Tryz.func38,Tryz.ntmps38
 go_wp2_with fail
 refine(HN _).mono ?_
 rintro e w1 ⟨rfl,hb1⟩
 have r0:w1.cell? ⟨w.heap.size,0,none⟩=some (.int .i64 0):=(hb1.cell (p:=⟨w.heap.size,0,none⟩) (by simp)).trans (by simp[go_sem])
 have r1:w1.cell? ⟨w.heap.size,1,none⟩=some (.int .i64 0):=(hb1.cell (p:=⟨w.heap.size,1,none⟩) (by simp)).trans (by simp[go_sem])
 have rz:∀p,w1.frozen? ⟨w.heap.size,p,none⟩=false:=fun p=>(hb1.frozen (p:=⟨w.heap.size,p,none⟩) (by simp)).trans (by simp[go_sem])
 have hs:w.heap.size<w1.heap.size:=by have:=hb1.size;simp at this;omega
 have HB:Hid (Below w.heap.size w w1):=zT (zA (zR w) _) hb1
 have n1:w.heap.size≠w1.heap.size:=by omega
 have n2:w1.heap.size≠w.heap.size:=by omega
 clear hb1 HN
 go_wp2_with fail
 go_region
 all_goals
  go_wp2_with fail
  refine bodyPost_ret (v:= .tuple #[.slice none 0 0,.agg #[.int .i64 1,.int .i64 (-1)]]) ?_ rfl ⟨rfl,?_⟩
  ·simp[results,Tryz.results38,go_sem,r0,r1,hs,n1,n2]
  ·repeat (first|exact HB.out|exact(HB.out.setCell (p:=⟨w.heap.size,0,none⟩) (Nat.le_refl _) _).setCell (p:=⟨w.heap.size,1,none⟩) (Nat.le_refl _) _|refine Below.drew ?_|refine zA ?_ _)
set_option maxHeartbeats 1000000 in
theorem trRun_many (co n:Nat) (ad:Option Addr) (len cap:Nat) (w:World) (h1:1<=co) (h4:co<=4) (h2:1<=n) (h3:n<=128) (hl:2000<len):
 Calls Tryz.prog 38 #[.int .i64 co,.int .i64 n,.slice ad len cap] w fun e w'=>e= .returned (.tuple #[.slice none 0 0,.agg #[.int .i64 10,.int .i64 (-1)]])/\Below w.heap.size w w':=by
 have HN:=fun w=>wtNew_any co n w h1 h4 h2 h3
 clear h1 h4 h2 h3
 go_enter Tryz.func38,Tryz.ntmps38
 go_wp2_with fail
 refine(HN _).mono ?_
 rintro e w1 ⟨b,F,rfl,t1,hb1,hF1⟩
 have r0:w1.cell? ⟨w.heap.size,0,none⟩=some (.int .i64 0):=(hb1.cell (p:=⟨w.heap.size,0,none⟩) (by simp)).trans (by simp[go_sem])
 have r1:w1.cell? ⟨w.heap.size,1,none⟩=some (.int .i64 0):=(hb1.cell (p:=⟨w.heap.size,1,none⟩) (by simp)).trans (by simp[go_sem])
 have rz:∀p,w1.frozen? ⟨w.heap.size,p,none⟩=false:=fun p=>(hb1.frozen (p:=⟨w.heap.size,p,none⟩) (by simp)).trans (by simp[go_sem])
 have hs:w.heap.size<w1.heap.size:=by have:=hb1.size;simp at this;omega
 have HB:Hid (Below w.heap.size w w1):=zT (zA (zR w) _) hb1
 have n1:w.heap.size≠w1.heap.size:=by omega
 have n2:w1.heap.size≠w.heap.size:=by omega
 have i1:(2000:Int)<(len:Int):=by omega
 clear hb1 HN t1 hF1
 go_wp2_with fail
 refine bodyPost_ret (v:= .tuple #[.slice none 0 0,.agg #[.int .i64 10,.int .i64 (-1)]]) ?_ rfl ⟨rfl,?_⟩
 ·simp[results,Tryz.results38,go_sem,r0,r1,hs,n1,n2]
 ·repeat (first|exact HB.out|exact(HB.out.setCell (p:=⟨w.heap.size,0,none⟩) (Nat.le_refl _) _).setCell (p:=⟨w.heap.size,1,none⟩) (Nat.le_refl _) _|refine Below.drew ?_|refine zA ?_ _)
set_option maxHeartbeats 1000000 in
theorem trRun_any (co n:Nat) {ad:Option Addr} {len cap:Nat} {q:Nat->Bst} (w:World) (h1:1<=co) (h4:co<=4) (h2:1<=n) (h3:n<=128) (hl:len<=2000)
 (hq:∀j,j<len->(∃b o,ad=some ⟨b,o,none⟩/\b<w.heap.size/\BstAt w b (o+j*9) (q j))/\BstFits (q j)):
 Calls Tryz.prog 38 #[.int .i64 co,.int .i64 n,.slice ad len cap] w fun e w'=>∃ae ce,len<=ce/\e= .returned (.tuple #[.slice ae len ce,.agg #[.int .i64 0,.int .i64 0]])/\EvsAt w' ae ((Pg.Trs.new co n).upto (fun j=>(q j).sx) len).E/\Below w.heap.size w w':=by
 have HN:=fun w=>wtNew_any co n w h1 h4 h2 h3
 clear h1 h4 h2 h3
 have HQ:Hid (∀j,j<len->(∃b o,ad=some ⟨b,o,none⟩/\b<w.heap.size/\BstAt w b (o+j*9) (q j))/\BstFits (q j)):=hq
 clear hq
 go_enter Tryz.func38,Tryz.ntmps38
 go_wp2_with fail
 refine(HN _).mono ?_
 rintro e w1 ⟨b,F,rfl,t1,hb1,hF1⟩
 have r0:w1.cell? ⟨w.heap.size,0,none⟩=some (.int .i64 0):=(hb1.cell (p:=⟨w.heap.size,0,none⟩) (by simp)).trans (by simp[go_sem])
 have r1:w1.cell? ⟨w.heap.size,1,none⟩=some (.int .i64 0):=(hb1.cell (p:=⟨w.heap.size,1,none⟩) (by simp)).trans (by simp[go_sem])
 have rz:∀p,w1.frozen? ⟨w.heap.size,p,none⟩=false:=fun p=>(hb1.frozen (p:=⟨w.heap.size,p,none⟩) (by simp)).trans (by simp[go_sem])
 have hs:w.heap.size<w1.heap.size:=by have:=hb1.size;simp at this;omega
 have n1:w.heap.size≠w1.heap.size:=by omega
 have n2:w1.heap.size≠w.heap.size:=by omega
 have i1:¬(2000:Int)<(len:Int):=by omega
 obtain⟨W2,hW2⟩:∃W2,W2=w1.alloc (.cells #[.int .i64 0,.int .i64 0] 27):=⟨_,rfl⟩
 have hb2:Below w1.heap.size w1 W2:=by rw[hW2];exact zA (zR _) _
 have f0:W2.cell? ⟨w1.heap.size,0,none⟩=some (.int .i64 0):=by rw[hW2];simp[go_sem]
 have f1:W2.cell? ⟨w1.heap.size,1,none⟩=some (.int .i64 0):=by rw[hW2];simp[go_sem]
 have hB2:Below w.heap.size w W2:=zT (zT (zA (zR w) _) hb1) hb2
 have hF:∀k,F k->w.heap.size<k:=fun k hk=>by have:=hF1 k hk;simp at this;omega
 have r0:=cell_later hb2 r0
 have r1:=cell_later hb2 r1
 have rz:∀p,W2.frozen? ⟨w.heap.size,p,none⟩=false:=fun p=>(hb2.frozen (p:=⟨w.heap.size,p,none⟩) hs).trans (rz p)
 have T2:=t1.grow hb2
 obtain⟨W3,hW3⟩:∃W3,W3=W2.alloc (.cells #[.slice ad len cap] 22):=⟨_,rfl⟩
 have hb3:Below W2.heap.size W2 W3:=by rw[hW3];exact zA (zR _) _
 have hB3:Below w.heap.size w W3:=zT hB2 hb3
 have sv:W3.cell? ⟨W2.heap.size,0,none⟩=some (.slice ad len cap):=by rw[hW3];simp[go_sem]
 have SEQ:=trValues_seq (b:=b) (F0:=F) (w:=W3) (q:=q) (s0:=Pg.Trs.new co n) rfl ⟨by simp[Pg.Trs.new],by simp[Pg.Trs.new]⟩ hl sv (fun e=>by have:=T2.lt e;omega) fun j hj=>by
  obtain⟨⟨xb,xo,e,hx,hc⟩,hf⟩:=HQ.out j hj
  refine⟨⟨xb,xo,e,Nat.lt_of_lt_of_le hx hB3.size,fun e=>by have:=hF xb e;omega,?_⟩,hf⟩
  obtain⟨x0,x1,x2,x3,x4,x5,x6,x7,x8⟩:=hc
  exact⟨(hB3.cell (p:=⟨xb,_,none⟩) hx).trans x0,(hB3.cell (p:=⟨xb,_,none⟩) hx).trans x1,(hB3.cell (p:=⟨xb,_,none⟩) hx).trans x2,(hB3.cell (p:=⟨xb,_,none⟩) hx).trans x3,(hB3.cell (p:=⟨xb,_,none⟩) hx).trans x4,(hB3.cell (p:=⟨xb,_,none⟩) hx).trans x5,(hB3.cell (p:=⟨xb,_,none⟩) hx).trans x6,(hB3.cell (p:=⟨xb,_,none⟩) hx).trans x7,(hB3.cell (p:=⟨xb,_,none⟩) hx).trans x8⟩
 have EV:=trEvents_any W3 (s0:=Pg.Trs.new co n) (T2.grow hb3) rfl (enters_of Tryz.func130 (by kernel_rfl) rfl) SEQ
 have hs2:w.heap.size<W2.heap.size:=by have:=hb2.size;omega
 have r0':=cell_later hb3 r0
 have r1':=cell_later hb3 r1
 have rz':∀p,W3.frozen? ⟨w.heap.size,p,none⟩=false:=fun p=>(hb3.frozen (p:=⟨w.heap.size,p,none⟩) hs2).trans (rz p)
 have HB3:Hid (Below w.heap.size w W3):=hB3
 have HF:Hid (∀k,F k->w.heap.size<k):=hF
 clear hb1 HN t1 hF1 SEQ T2 hB2 hB3 hF HQ sv hb2
 go_upto_region 2 with fail
 rw[<-hW2]
 clear hW2
 go_wp2_with fail
 refine(trValues_any ad len cap W2).mono ?_
 rintro e w3 ⟨rfl,hw3⟩
 rw[<-hW3]at hw3
 subst w3
 clear r0 r1 rz f0 f1 hb3 hW3
 go_wp2_with fail
 refine EV.mono ?_
 have hlE:=Pg.Trs.upto_len (Pg.Trs.new co n) (fun j=>(q j).sx) len
 rw[show(Pg.Trs.new co n).E.length+len=len by simp[Pg.Trs.new]]at hlE
 generalize hsE:((Pg.Trs.new co n).upto (fun j=>(q j).sx) len)=sE at*
 have HSE:Hid (((Pg.Trs.new co n).upto (fun j=>(q j).sx) len)=sE):=hsE
 clear hsE
 rintro e w4 ⟨s,ae,ce,rfl,hce,rfl,he4,hb4,_,_,_,ge⟩
 rw[hlE]at hce ⊢
 have HCE:Hid (len<=ce):=hce
 clear hce
 have hs3:w.heap.size<W3.heap.size:=World.block_lt_of_cell? _ _ r0'
 have nf:¬F w.heap.size:=fun e=>by have:=HF.out _ e;omega
 have r0:=(hb4.cell (a:=⟨w.heap.size,0,none⟩) hs3 nf).trans r0'
 have r1:=(hb4.cell (a:=⟨w.heap.size,1,none⟩) hs3 nf).trans r1'
 have rz:∀p,w4.frozen? ⟨w.heap.size,p,none⟩=false:=fun p=>(hb4.frozen (a:=⟨w.heap.size,p,none⟩) hs3 nf).trans (rz' p)
 have hs4:w.heap.size<w4.heap.size:=World.block_lt_of_cell? _ _ r0
 have FIN:Hid (∀Wf,But (fun k=>k=w.heap.size) w4 Wf->EvsAt Wf ae s.E/\Below w.heap.size w Wf):=fun Wf hb=>⟨he4.but hb fun g hg e=>by have:=(ge g hg).1;omega,(HB3.out.trans (hb4.below HB3.out.size fun k hk=>Nat.le_of_lt (HF.out k hk))).trans (hb.below (Nat.le_of_lt hs4) fun k e=>by omega)⟩
 clear he4 hb4 ge r0' r1' rz' hs3 nf EV
 go_wp2_with fail
 refine bodyPost_ret (v:= .tuple #[.slice ae len ce,.agg #[.int .i64 0,.int .i64 0]]) ?_ rfl ⟨ae,ce,HCE.out,rfl,by rw[HSE.out];exact FIN.out _ (by exact(but_set w4 _ _ _).trans (but_set _ _ _ _) fun _ _ e=>e)⟩
 simp[results,Tryz.results38,go_sem,r0,r1,hs4]
namespace Pg
def bgT:Nat->Bst
 | 0=>⟨1,0,⟨5,0,9,0⟩,0,0,false⟩
 | 1=>⟨4,0,⟨0,0,0,0⟩,5,0,false⟩
 | _=>⟨5,1,⟨0,0,0,0⟩,0,0,false⟩
theorem bt_E:((Trs.new 1 4).upto (fun j=>(bgT j).sx) 3).E=[⟨0,false,0,0,0,true⟩,⟨0,false,0,0,0,false⟩,⟨1,false,0,0,0,false⟩]:=by kernel_rfl
end Pg
set_option maxHeartbeats 2000000 in
theorem traceBegun_any (w:World):Calls Tryz.prog 37 #[] w fun e w'=>e= .returned (.bool true)/\Below w.heap.size w w':=by
 obtain⟨W,hW⟩:∃W,W=w.alloc (.cells #[.int .i64 1,.int .i64 0,.int .i64 5,.int .i64 0,.int .i64 9,.int .i64 0,.int .i64 0,.int .i64 0,.bool false,.int .i64 4,.int .i64 0,.int .i64 0,.int .i64 0,.int .i64 0,.int .i64 0,.int .i64 5,.int .i64 0,.bool false,.int .i64 5,.int .i64 1,.int .i64 0,.int .i64 0,.int .i64 0,.int .i64 0,.int .i64 0,.int .i64 0,.bool false] 43):=⟨_,rfl⟩
 have hB:Below w.heap.size w W:=by rw[hW];exact zA (zR _) _
 have hs:w.heap.size<W.heap.size:=by rw[hW];simp
 have HR:=trRun_any 1 4 (ad:=some ⟨w.heap.size,0,none⟩) (len:=3) (cap:=3) (q:=Pg.bgT) W (by decide) (by decide) (by decide) (by decide) (by decide) fun j hj=>by
  have f0:Pg.fits 0:=by unfold Pg.fits;omega
  have f5:Pg.fits 5:=by unfold Pg.fits;omega
  have f9:Pg.fits 9:=by unfold Pg.fits;omega
  obtain rfl|rfl|rfl:j=0\/j=1\/j=2:=by omega
  ·exact⟨⟨_,_,rfl,hs,by unfold BstAt;rw[hW];simp[Pg.bgT,go_sem]⟩,f5,f0,f9,f0,f0,f0⟩
  ·exact⟨⟨_,_,rfl,hs,by unfold BstAt;rw[hW];simp[Pg.bgT,go_sem]⟩,f0,f0,f0,f0,f5,f0⟩
  ·exact⟨⟨_,_,rfl,hs,by unfold BstAt;rw[hW];simp[Pg.bgT,go_sem]⟩,f0,f0,f0,f0,f0,f0⟩
 rw[Pg.bt_E]at HR
 simp only[show((1:Nat):Int)=1 from rfl,show((4:Nat):Int)=4 from rfl]at HR
 go_enter Tryz.func37,Tryz.ntmps37
 go_wp2_with fail
 rw[<-hW]
 refine HR.mono ?_
 rintro e w1 ⟨ae,ce,_,rfl,he,hb1⟩
 obtain⟨g,rfl,hg,a0,a1,a2,a3,a4,a5⟩:=he 0 (by decide)
 obtain⟨g',e',_,b0,b1,b2,b3,b4,b5⟩:=he 1 (by decide)
 obtain⟨g'',e'',_,c0,c1,c2,c3,c4,c5⟩:=he 2 (by decide)
 cases e'
 cases e''
 simp only[List.getD,List.getElem?_cons_zero,List.getElem?_cons_succ,Option.getD_some,Nat.reduceMul,Nat.reduceAdd,Nat.zero_mul,Nat.one_mul]at a0 a1 a2 a3 a4 a5 b0 b1 b2 b3 b4 b5 c0 c1 c2 c3 c4 c5
 have HB:Hid (Below w.heap.size w w1):=zT hB hb1
 have ng:g≠w1.heap.size:=by omega
 have ng':w1.heap.size≠g:=by omega
 clear hb1 he hB hW HR hs
 go_wp2_with fail
 go_ret
 exact⟨rfl,zA HB.out _⟩
end Go.Proofs.YtkhnelgommaioaaGreat
