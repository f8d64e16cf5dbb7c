import Derived.Test.YtkhnelgommaioaaGreatTrB
import Derived.Sort.CutIn
import Derived.Test.YtkhnelgommaioaaGreatSafeFace
namespace Go.Proofs.YtkhnelgommaioaaGreat
open Go.RowKit Go.Sort
set_option linter.unusedVariables false
set_option linter.unusedSimpArgs false
set_option maxRecDepth 100000
attribute [local go_sem] Oper.semAt_some
set_option maxHeartbeats 4000000 in
theorem trEvents_any {b:Nat} {s0:Pg.Trs} {F0:Nat->Prop} {gf:Nat} {lb:Array Value} {Fin:Pg.Trs->Prop} (w:World) (h:WtAt w b s0.X s0.L s0.L0 s0.ti F0) (hE:s0.E=[]) (hgf:∀args w,(callFunc gf args).run Tryz.prog w= .ok (.enter gf args) w)
 (hs:Seq b F0 w s0 gf lb Fin):
 Calls Tryz.prog 80 #[.pointer (some ⟨b,0,none⟩),.func (.func gf) #[] lb] w fun e w'=>∃s ad cap,Fin s/\s.E.length<=cap/\e= .returned (.tuple #[.slice ad s.E.length cap,.agg #[.int .i64 0,.int .i64 0]])/\EvsAt w' ad s.E/\But F0 w w'/\
  ∃F',WtAt w' b s.X s.L s.L0 s.ti F'/\(∀k,F' k->F0 k\/w.heap.size<=k)/\∀g,ad=some ⟨g,0,none⟩->w.heap.size<=g/\¬F' g:=by
 refine(callsIn_wide (n:=3)).1 ?_
 refine callsIn_of_wp_marks Tryz.func80 rfl trivial ?_ rfl
 simp only[Tryz.ntmps80,List.size_toArray,List.length_cons,List.length_nil,Nat.reduceAdd,Nat.reduceSub,Array.replicate_succ,Array.replicate_zero,List.push_toArray,List.append_toArray,List.nil_append,List.cons_append]
 gi_wp2
 obtain⟨Wl,hWl⟩:∃Wl,Wl=(((w.alloc (.cells #[.pointer (some ⟨b,0,none⟩)] 75)).alloc (.cells #[.slice none 0 0] 92)).alloc (.cells #[.int .i64 0,.int .i64 0] 27)).alloc (.cells #[.slice none 0 0] 92):=⟨_,rfl⟩
 rw[<-hWl]
 have hsz:Wl.heap.size=w.heap.size+4:=by rw[hWl];simp
 have al:∀(k:Nat) o,(((w.alloc (.cells #[.pointer (some ⟨b,0,none⟩)] 75)).alloc (.cells #[.slice none 0 0] 92)).alloc (.cells #[.int .i64 0,.int .i64 0] 27)).heap[k]?=some o->Wl.heap[k]?=some o:=fun k o hk=>by
  rw[hWl,Below.heap_alloc _ _ _ (Array.getElem?_eq_some_iff.1 hk).1]
  exact hk
 obtain⟨a0,a1,a2⟩:=alloc3 w (.cells #[.pointer (some ⟨b,0,none⟩)] 75) (.cells #[.slice none 0 0] 92) (.cells #[.int .i64 0,.int .i64 0] 27)
 have a3:Wl.heap[w.heap.size+3]?=some (.cells #[.slice none 0 0] 92 (0,0)):=by
  rw[hWl]
  exact(show(((w.alloc (.cells #[.pointer (some ⟨b,0,none⟩)] 75)).alloc (.cells #[.slice none 0 0] 92)).alloc (.cells #[.int .i64 0,.int .i64 0] 27)).heap.size=w.heap.size+3 by simp)▸heap_alloc_new _ _
 have hbl:Below w.heap.size w Wl:=by rw[hWl];exact zA (zA (zA (zA (zR _) _) _) _) _
 have I0:EvI w b F0 s0 Wl:=⟨al _ _ a0,al _ _ a1,al _ _ a2,⟨F0,_,h.grow hbl,fun k hk=> .inl hk,a3,by rw[hE];exact World.ownsRow_nil _ _ _ _,fun k hk=>by cases hk⟩,But.of_below hbl,fun k hk=>h.lt hk⟩
 have hI:∀s W W',EvI w b F0 s W->But (twoOf Wl) W W'->EvI w b F0 s W':=fun s W W' hi hb=>hi.keep (hb.mono fun i _ e=>by
  rcases e with e|e
  ·exact .inl (by omega)
  ·exact .inr (by omega))
 clear al a0 a1 a2 a3 hbl h
 refine wpIn_range rfl (by omega) (gf:=gf) (lb:=lb) rfl trivial hgf (EvI w b F0) (fun s x s'=>∃sx,SxFits sx/\Bd s/\x=#[Pg.Sx.val sx]/\s'=s.next sx) Fin ?ps hI s0 I0 ?seq
  (fun x a' W=>∃sx Bx,x=#[Pg.Sx.val sx]/\w.heap.size+6<=Bx/\W.heap[Bx]?=some (sxBox sx)/\a'={tmps:=#[.pointer (some ⟨b,0,none⟩),.func (.func gf) #[] lb,.pointer (some ⟨w.heap.size,0,none⟩),undef,.pointer (some ⟨w.heap.size+1,0,none⟩),.pointer (some ⟨w.heap.size+2,0,none⟩),.pointer (some ⟨w.heap.size+3,0,none⟩),.pointer (some ⟨Bx,0,none⟩),undef,undef,.func (.func gf) #[] lb,Pg.Sx.val sx,undef,undef,undef,undef,undef,undef,undef,undef,undef,undef,undef,undef,undef,undef,undef,undef],defers:=[]}) ?hAx ?assign ?body ?done
 case ps=>
  rintro s x s' ⟨sx,_,_,rfl,_⟩
  rfl
 case seq=>
  intro J W1 hJ hJb hY h0
  exact hs _ J W1 (fun s W hj=>⟨(hJ s W hj).but,by obtain⟨F,_,hw,_⟩:=(hJ s W hj).ex;exact⟨F,hw⟩⟩) hJb (fun s x W hj hx hb=>hY s _ _ W hj ⟨x,hx,hb,rfl,rfl⟩) h0
 case hAx=>
  rintro x a' W W' ⟨sx,Bx,h1,h2,h3,h4⟩ hb
  refine⟨sx,Bx,h1,h2,(hb.block Bx (Array.getElem?_eq_some_iff.1 h3).1 fun e=> ?_).trans h3,h4⟩
  rcases e with e|e<;>omega
 case assign=>
  rintro l s x s' W K hi ⟨sx,hx,hbd,rfl,rfl⟩ hlt hK
  have hK:Hid (∀a' W',Below W.heap.size W W'->_->K a' W'):=hK
  obtain⟨W2,hW2⟩:∃W2,W2=W.alloc (sxBox sx):=⟨_,rfl⟩
  have hb2:Hid (Below W.heap.size W W2):=by rw[Hid,hW2];exact zA (zR _) _
  have hx2:Hid (W2.heap[W.heap.size]?=some (sxBox sx)):=by rw[Hid,hW2];exact heap_alloc_new _ _
  have hl:Hid (w.heap.size+6<=W.heap.size):=by rw[Hid];omega
  simp only[sxBox,Pg.Sx.val]at hW2
  simp only[Pg.Sx.val]
  clear hlt hi hbd hx
  gi_wp2
  rw[<-hW2]
  exact hK.out _ _ hb2.out ⟨sx,_,rfl,hl.out,hx2.out,rfl⟩
 case body=>
  rintro l s x s' a' W hi ⟨sx,hx,hbd,rfl,rfl⟩ ⟨sy,Bx,hxy,hBx,hbox,rfl⟩ hlt
  obtain rfl:sx=sy:=by
   obtain⟨kd,cr,⟨mp,ms,mf,mr⟩,xq,xk,xu⟩:=sx
   obtain⟨kd',cr',⟨mp',ms',mf',mr'⟩,xq',xk',xu'⟩:=sy
   simp[Pg.Sx.val]at hxy
   simp[hxy]
  clear hxy
  obtain⟨F,v,hw,hF,hv,hr,hn⟩:=hi.ex
  have HD:=wtDo_any sx hx W hw ⟨hbd.1,by have:=hbd.2.1;omega⟩
  have y0:W.cell? ⟨w.heap.size,0,none⟩=some (.pointer (some ⟨b,0,none⟩)):=by simp[World.cell?,hi.b0]
  have yx:∀p v,(#[.int .i64 sx.kind,.int .i64 sx.core,.int .i64 sx.m.p,.int .i64 sx.m.s,.int .i64 sx.m.f,.int .i64 sx.m.r,.int .i64 sx.q,.int .i64 sx.k,.bool sx.u]:Array Value)[p]?=some v->W.cell? ⟨Bx,p,none⟩=some v:=fun p v hp=>by
   unfold sxBox at hbox
   simp[World.cell?,hbox,hp]
  have x1:=yx 0 _ rfl
  have x2:=yx 1 _ rfl
  have x3:=yx 2 _ rfl
  have x4:=yx 3 _ rfl
  have x5:=yx 4 _ rfl
  have x6:=yx 5 _ rfl
  have x7:=yx 6 _ rfl
  have x8:=yx 7 _ rfl
  have x9:=yx 8 _ rfl
  clear yx hbox
  have HI:Hid (EvI w b F0 s W):=hi
  have hWs:w.heap.size+6<=W.heap.size:=by omega
  have HF:Hid (∀k,F k->F0 k\/w.heap.size+6<=k):=hF
  have HV:Hid (Boxed W (w.heap.size+3) 92 v):=hv
  have HR:Hid (W.ownsRow (w.heap.size+6) 36 6 v s.E.length (evCells s.E)):=hr
  have HN:Hid (∀k,v.ownBlock=some k->¬F k):=hn
  have BD:Hid (s.E.length<=100000):=hbd.2.2
  generalize hs1:s.next sx=s1
  have HS1:Hid (s.next sx=s1):=hs1
  clear hi hF hv hr hn hx hbd hw hs1 hlt
  obtain⟨i0,hii,hz0,hz1,hz2⟩:=info_parts ev_info
  have HE:Hid (s1.E=s.E++[s.X.goE sx]):=by rw[Hid,<-HS1.out];rfl
  have HW:Hid (s1.X=s.X.goN sx/\s1.L=s.X.nxL s.L sx/\s1.L0=s.X.nxP s.L s.L0 sx/\s1.ti=s.ti+s.X.chg sx):=by rw[Hid,<-HS1.out];exact⟨rfl,rfl,rfl,rfl⟩
  rw[<-HW.out.1,<-HW.out.2.1,<-HW.out.2.2.1,<-HW.out.2.2.2]at HD
  generalize s.X.goE sx=E at*
  obtain⟨ec,en,ea,ef,er,eb⟩:=E
  simp only[Pg.Sx.val,Pg.Ev.val]at HD
  clear HS1 HW
  gi_wp2_with fail
  refine⟨trivial,(CallsIn.inRound l (callsIn_wide.2 HD)).mono ?_⟩
  rintro e w1 ⟨rfl,F1,h1,hb1,hF1⟩
  have nF:∀k,F k->k<w.heap.size\/w.heap.size+6<=k:=fun k hk=>(HF.out k hk).imp (HI.out.lt k) id
  have s1':=hb1.size
  have blk:∀(k:Nat) o,w.heap.size<=k->k<w.heap.size+6->W.heap[k]?=some o->w1.heap[k]?=some o:=fun k o h1 h2 hk=>(hb1.block k (Array.getElem?_eq_some_iff.1 hk).1 fun e=>by have:=nF k e;omega).trans hk
  have hv1:Boxed w1 (w.heap.size+3) 92 v:=blk _ _ (by omega) (by omega) HV.out
  have hr1:=ownsMaps_but HR.out hb1 HN.out
  have hn1:∀k,v.ownBlock=some k->¬F1 k:=fun k hk e=>(hF1 k e).elim (HN.out k hk) fun e=>by have:=(HR.out.lt k hk).2;omega
  obtain⟨W2,hW2⟩:∃W2,W2=(w1.alloc (.cells #[.int .i64 ec,.bool en,.int .i64 ea,.int .i64 ef,.int .i64 er,.bool eb] 36)).alloc (.cells #[.int .i64 0,.int .i64 0] 27):=⟨_,rfl⟩
  have hb2:Below w1.heap.size w1 W2:=by rw[hW2];exact zA (zA (zR _) _) _
  have e6:W2.heap[w1.heap.size]?=some (.cells #[.int .i64 ec,.bool en,.int .i64 ea,.int .i64 ef,.int .i64 er,.bool eb] 36 (0,0)):=by
   rw[hW2,Below.heap_alloc _ _ _ (by simp)]
   exact heap_alloc_new _ _
  have s2:W2.heap.size=w1.heap.size+2:=by rw[hW2];simp
  have f0:W2.cell? ⟨w1.heap.size+1,0,none⟩=some (.int .i64 0):=by rw[hW2];simp[go_sem]
  have f1:W2.cell? ⟨w1.heap.size+1,1,none⟩=some (.int .i64 0):=by rw[hW2];simp[go_sem]
  have hv2:Boxed W2 (w.heap.size+3) 92 v:=(hb2.block _ hv1.lt).trans hv1
  have hr2:=ownsMaps_below hr1 hb2
  have H1:Hid (WtAt W2 b s1.X s1.L s1.L0 s1.ti F1):=h1.grow hb2
  have HB1:Hid (But F W w1):=hb1
  have HB2:Hid (Below w1.heap.size w1 W2):=hb2
  have HF1:Hid (∀k,F1 k->F k\/W.heap.size<=k):=hF1
  have NF:Hid (∀k,F k->k<w.heap.size\/w.heap.size+6<=k):=nF
  have HN1:Hid (∀k,v.ownBlock=some k->¬F1 k):=hn1
  have HV2:Hid (Boxed W2 (w.heap.size+3) 92 v):=hv2
  have HR2:Hid (W2.ownsRow (w.heap.size+6) 36 6 v s.E.length (evCells s.E)):=hr2
  have hc2:=hv2.cell
  have BLK:Hid (∀(k:Nat) o,w.heap.size<=k->k<w.heap.size+6->W.heap[k]?=some o->w1.heap[k]?=some o):=blk
  clear hb1 hF1 nF hv1 hr1 hn1 hb2 hv2 hr2 h1 blk HD y0 x1 x2 x3 x4 x5 x6 x7 x8 x9
  gi_upto_region 5 with fail
  rw[<-hW2]
  clear hW2
  gi_upto_region 7 with fail
  obtain⟨⟨e0,e1,e2,e3,e4,e5⟩,_⟩:=row6a e6
  have hsz2:w.heap.size+6<=W2.heap.size:=by omega
  have bd:=BD.out
  have S2:Hid (W2.heap.size=w1.heap.size+2):=s2
  clear s2
  gi_wp2_with (gi_at_builtin;refine wpListIn_append_lies _ rfl _ _ 92 rfl (w.heap.size+6) 36 i0 _ 6 48 Tryz.underlying92 hii hz0 hz1 hz2 rfl (by decide) v s.E.length (evCells s.E) rfl (HR2.out.alloc _) ⟨W2.heap.size,0,none⟩ 1 1 (evCell ⟨ec,en,ea,ef,er,eb⟩) rfl rfl (World.news_of_block (heap_alloc_new _ _)) (by simp[evCell,Value.oneCell']) (by decide) (by simp[maxLen];omega) (by omega) (by simp;omega) ?_;intro g cap w3 hown hgrow hat hlt3;have hv3:=(HV2.out.alloc (.cells #[.int .i64 ec,.bool en,.int .i64 ea,.int .i64 ef,.int .i64 er,.bool eb] 36)).kept hgrow (HV2.out.not_row (by decide) HR2.out);have hc3:=hv3.cell;have hf3:=hv3.frozen)
  exact HI.out.more hWs HF.out HB1.out HB2.out H1.out HF1.out HN1.out HR2.out HE.out hown hgrow hat hv3
 case done=>
  intro s W hf hi hK
  rw[hsz]at hK
  obtain⟨F,v,hw,hF,hv,hr,hn⟩:=hi.ex
  have c3:=hv.cell
  obtain⟨ad,cap,rfl⟩:=zF hr
  have c1:=hi.b1.cell
  have z1:=hi.b1.frozen
  have hb2:=hi.b2
  have f0:W.cell? ⟨w.heap.size+2,0,none⟩=some (.int .i64 0):=by simp[World.cell?,hb2]
  have f1:W.cell? ⟨w.heap.size+2,1,none⟩=some (.int .i64 0):=by simp[World.cell?,hb2]
  have fz:∀i,W.frozen? ⟨w.heap.size+2,i,none⟩=false:=fun i=>by simp[World.frozen?,hb2]
  have HI:Hid (EvI w b F0 s W):=hi
  have HCP:Hid (s.E.length<=cap):=by
   rcases hr.2 with ⟨e,e0⟩|⟨g,cap',cur,e,_,_,hc,_⟩
   ·rw[Hid,e0]
    exact Nat.zero_le _
   ·injection e with _ _ e
    rw[Hid,e]
    exact hc
  clear hi hb2
  gi_wp2
  obtain⟨Wf,hWf⟩:∃Wf,Wf=(((W.setCell ⟨w.heap.size+1,0,none⟩ (.slice ad s.E.length cap)).setCell ⟨w.heap.size+1+1,0,none⟩ (.int .i64 0)).setCell ⟨w.heap.size+1+1,1,none⟩ (.int .i64 0)):=⟨_,rfl⟩
  rw[<-hWf]
  have bf:But (fun k=>k=w.heap.size+1\/k=w.heap.size+2) W Wf:=by
   rw[hWf]
   exact(((But.refl _ W).setCell (a:=⟨w.heap.size+1,0,none⟩) (.inr (.inl rfl)) _).setCell (a:=⟨w.heap.size+1+1,0,none⟩) (.inr (.inr rfl)) _).setCell (a:=⟨w.heap.size+1+1,1,none⟩) (.inr (.inr rfl)) _
  have hKf:Wf.heap[Wl.heap.size]?=some (.deferred (some [])):=by
   rw[hsz]
   exact(bf.block _ (Array.getElem?_eq_some_iff.1 hK).1 (by omega)).trans hK
  have bg:But (fun k=>k=w.heap.size+1\/k=w.heap.size+2\/k=w.heap.size+4) W (Wf.putObj Wl.heap.size (.deferred none)):=(bf.mono fun i _ e=>e.imp id .inl).putObj (.inr (.inr (.inr hsz))) _
  have nF:∀k,F k->k<w.heap.size\/w.heap.size+6<=k:=fun k hk=>(hF k hk).imp (HI.out.lt k) id
  have g0:(Wf.putObj Wl.heap.size (.deferred none)).heap[w.heap.size+1]?=Wf.heap[w.heap.size+1]?:=World.putObj_heap_other (by omega)
  have g1:(Wf.putObj Wl.heap.size (.deferred none)).heap[w.heap.size+2]?=Wf.heap[w.heap.size+2]?:=World.putObj_heap_other (by omega)
  have d0:(Wf.putObj Wl.heap.size (.deferred none)).cell? ⟨w.heap.size+1,0,none⟩=some (.slice ad s.E.length cap):=(World.cell?_of_block (a:=⟨w.heap.size+1,0,none⟩) g0).trans (by rw[hWf];simp[go_sem,c1])
  have d1:(Wf.putObj Wl.heap.size (.deferred none)).cell? ⟨w.heap.size+2,0,none⟩=some (.int .i64 0):=(World.cell?_of_block (a:=⟨w.heap.size+2,0,none⟩) g1).trans (by rw[hWf];simp[go_sem,f0,f1])
  have d2:(Wf.putObj Wl.heap.size (.deferred none)).cell? ⟨w.heap.size+2,1,none⟩=some (.int .i64 0):=(World.cell?_of_block (a:=⟨w.heap.size+2,1,none⟩) g1).trans (by rw[hWf];simp[go_sem,f0,f1])
  have FIN:Hid (EvsAt (Wf.putObj Wl.heap.size (.deferred none)) ad s.E/\But F0 w (Wf.putObj Wl.heap.size (.deferred none))/\∃F',WtAt (Wf.putObj Wl.heap.size (.deferred none)) b s.X s.L s.L0 s.ti F'/\(∀k,F' k->F0 k\/w.heap.size<=k)/\∀g,ad=some ⟨g,0,none⟩->w.heap.size<=g/\¬F' g):=by
   refine⟨owns_evs (ownsMaps_but hr bg fun k hk e=> ?_),HI.out.but.trans bg fun i hi e=>by omega,F,hw.keep bg fun k hk e=> ?_,fun k hk=> ?_,fun g hg=>⟨?_,?_⟩⟩
   ·have:=(hr.lt k hk).1;omega
   ·have:=nF k hk;omega
   ·rcases hF k hk with hk|hk
    ·exact .inl hk
    ·exact .inr (by omega)
   ·subst hg
    have:=(hr.lt g rfl).1;omega
   ·subst hg
    exact hn g rfl
  clear g0 g1 bf bg hWf c1 c3 z1 f0 f1 fz
  refine⟨by simp,.inl ⟨_,_,rfl,run_takeDeferred hKf,?_⟩⟩
  generalize Wf.putObj Wl.heap.size (.deferred none)=Wg at*
  refine⟨.tuple #[.slice ad s.E.length cap,.agg #[.int .i64 0,.int .i64 0]],?_,s,ad,cap,hf,HCP.out,rfl,FIN.out⟩
  simp[results,Tryz.results80,go_sem,d0,d1,d2]
set_option maxHeartbeats 1000000 in
theorem trValues_any (ad:Option Addr) (len cap:Nat) (w:World):
 Calls Tryz.prog 81 #[.slice ad len cap] w fun e w'=>e= .returned (.func (.func 130) #[] #[.pointer (some ⟨w.heap.size,0,none⟩)])/\w'=w.alloc (.cells #[.slice ad len cap] 22):=by
 go_enter Tryz.func81,Tryz.ntmps81
 go_wp2
 go_ret
 exact⟨rfl,rfl⟩
set_option maxHeartbeats 4000000 in
theorem trValues_seq {b:Nat} {F0:Nat->Prop} {w:World} {ad:Option Addr} {len cap Bs:Nat} {q:Nat->Bst} {s0:Pg.Trs} (hE:s0.E=[]) (hti:0<=s0.ti/\s0.ti<=1000) (hlen:len<=2000)
 (hBs:w.cell? ⟨Bs,0,none⟩=some (.slice ad len cap)) (nBs:¬F0 Bs) (hq:∀j,j<len->(∃b o,ad=some ⟨b,o,none⟩/\b<w.heap.size/\¬F0 b/\BstAt w b (o+j*9) (q j))/\BstFits (q j)):
 Seq b F0 w s0 130 #[.pointer (some ⟨Bs,0,none⟩)] (fun s=>s=s0.upto (fun j=>(q j).sx) len):=by
 intro l J W1 hI hJb hY h0
 have hI:Hid (∀s W,J s W->But F0 w W/\∃F,WtAt W b s.X s.L s.L0 s.ti F):=hI
 have hJb:Hid (∀s W W',J s W->Below W.heap.size W W'->J s W'):=hJb
 have hY:Hid (∀s x W,J s W->SxFits x->Bd s->YieldAt Fence.wide 1 Tryz.prog l #[x.val] W fun e W'=>e= .returned (.bool true)/\J (s.next x) W'):=hY
 have hq:Hid (∀j,j<len->(∃b o,ad=some ⟨b,o,none⟩/\b<w.heap.size/\¬F0 b/\BstAt w b (o+j*9) (q j))/\BstFits (q j)):=hq
 have hJ0:Hid (J s0 W1):=h0
 have hbs:Bs<w.heap.size:=World.block_lt_of_cell? _ _ hBs
 have c1:W1.cell? ⟨Bs,0,none⟩=some (.slice ad len cap):=((hI.out _ _ h0).1.cell (a:=⟨Bs,0,none⟩) hbs nBs).trans hBs
 clear h0 hBs
 refine callsIn_of_wp Tryz.func130 rfl trivial ?_ rfl
 simp only[Tryz.ntmps130,List.size_toArray,List.length_cons,List.length_nil,Nat.reduceAdd,Nat.reduceSub,Array.replicate_succ,Array.replicate_zero,List.push_toArray,List.append_toArray,List.nil_append,List.cons_append]
 gi_wp2
 gi_loopw [7] (fun i wr=>∃k:Nat,k<=len/\i= .int .i64 k/\Hid (J (s0.upto (fun j=>(q j).sx) k) wr)) (fun i _=>len-(intOf i).toNat)
 case atStart=>exact⟨0,Nat.zero_le _,rfl,hJ0.out⟩
 case round=>
  obtain⟨k,hk,rfl,HJ⟩:=hrel
  clear hJ0 c1
  by_cases hlt:k<len
  ·obtain⟨⟨xb,xo,rfl,hxl,nx,hx⟩,fx⟩:=hq.out k hlt
   have hbt:=(hI.out _ _ HJ.out).1
   have cc:∀p v,w.cell? ⟨xb,p,none⟩=some v->wr.cell? ⟨xb,p,none⟩=some v:=fun p v hv=>(hbt.cell (a:=⟨xb,p,none⟩) hxl nx).trans hv
   obtain⟨x0,x1,x2,x3,x4,x5,x6,x7,x8⟩:=hx
   have x0:=cc _ _ x0
   have x1:=cc _ _ x1
   have x2:=cc _ _ x2
   have x3:=cc _ _ x3
   have x4:=cc _ _ x4
   have x5:=cc _ _ x5
   have x6:=cc _ _ x6
   have x7:=cc _ _ x7
   have x8:=cc _ _ x8
   clear cc hbt
   have bd:Hid (Bd (s0.upto (fun j=>(q j).sx) k)):=by
    have h1:=Pg.Trs.upto_ti s0 (fun j=>(q j).sx) k
    have h2:=Pg.Trs.upto_len s0 (fun j=>(q j).sx) k
    rw[hE]at h2
    simp only[List.length_nil]at h2
    exact⟨by omega,by omega,by omega⟩
   have i0:(0:Int)<=(k:Int):=by omega
   have i1:(k:Int)<(len:Int):=by omega
   have HX:Hid (∀W o,W=wr.alloc o->YieldAt Fence.wide 1 Tryz.prog l #[(q k).sx.val] W fun e W'=>e= .returned (.bool true)/\J (s0.upto (fun j=>(q j).sx) (k+1)) W'):=fun W o hW=>hY.out _ _ W (by rw[hW];exact hJb.out _ _ _ HJ.out (zA (zR _) _)) fx bd.out
   generalize hs1:s0.upto (fun j=>(q j).sx) (k+1)=s1 at*
   have HS1:Hid (s0.upto (fun j=>(q j).sx) (k+1)=s1):=hs1
   clear hq hs1
   generalize (q k)=x at*
   obtain⟨kd,cr,⟨mp,ms,mf,mr⟩,xq,xk,xu⟩:=x
   simp only[Bst.sx,Pg.Sx.val]at HX x0 x1 x2 x3 x4 x5 x6 x7 x8
   obtain⟨fn,tmps,assign,body,hy,hR⟩:=HX.out _ (.cells #[.int .i64 kd,.int .i64 cr,.int .i64 mp,.int .i64 ms,.int .i64 mf,.int .i64 mr,.int .i64 xq,.int .i64 xk,.bool xu] 43) rfl
   clear HX
   gi_wp2
   refine hR.mono ?_
   rintro e W3 ⟨rfl,hJ3⟩
   have HJ3:Hid (J s1 W3):=hJ3
   clear hJ3 x0 x1 x2 x3 x4 x5 x6 x7 x8
   gi_wp2
   go_roundw
   case rel=>exact⟨k+1,by omega,by go_num,by rw[HS1.out];exact HJ3.out⟩
   case measure=>simp[intOf];omega
  ·have hk:k=len:=by omega
   have i1:¬(k:Int)<(len:Int):=by omega
   gi_wp2
   go_end0
   exact⟨⟨_,rfl⟩,by rw[<-hk];exact HJ.out⟩
end Go.Proofs.YtkhnelgommaioaaGreat
