import Derived.Test.YtkhnelgommaioaaGreatTabF
import Derived.Test.YtkhnelgommaioaaGreatTabH
namespace Go.Proofs.YtkhnelgommaioaaGreat
open Go.RowKit Go.Sort
set_option linter.unusedVariables false
set_option linter.unusedSimpArgs false
set_option maxRecDepth 100000
theorem St.rebase {w0 w:World} {k b:Nat} {F0:Nat->Prop} {S:Pg.Fs} {lv:Int} {e:Pg.En} {ts ps:List Int} {p:Int} (h:St w0 w k b F0 S lv e ts ps p):
 ∃H:Nat->Prop,St w w k b H S lv e ts ps p/\(∀j,H j->F0 j\/w0.heap.size<=j)/\∀j,H j->j<w.heap.size:=by
 obtain⟨B,v1,v2,F,hM,hF,hB,h1,h2,hBB,hm⟩:=h.body
 refine⟨fun j=>F j\/mkF k v1 v2 j,⟨B,v1,v2,F,hM,hF,But.refl _ _,fun j hj=> .inl (.inl hj),h2,hBB,fun j hj=> .inl (.inr hj)⟩,fun j hj=>hj.elim (h1 j) (hm j),fun j hj=>hj.elim (fun h=>hF.lt h) fun h=>(hM.lt h).2⟩
theorem St.other {w0 w w':World} {k b:Nat} {H:Nat->Prop} {S:Pg.Fs} {lv:Int} {e:Pg.En} {ts ps:List Int} {p:Int} (h:St w0 w k b H S lv e ts ps p) {G:Nat->Prop} (hb:But G w w') (hG:∀j,G j->j<w0.heap.size/\¬H j):
 ∃H':Nat->Prop,St w' w' k b H' S lv e ts ps p/\(∀j,H' j->H j\/w0.heap.size<=j)/\∀j,H' j->j<w.heap.size:=by
 obtain⟨B,v1,v2,F,hM,hF,hB,h1,h2,hBB,hm⟩:=h.body
 have n1:∀j,F j->¬G j:=fun j hj hg=>by
  obtain⟨g1,g2⟩:=hG j hg
  rcases h1 j hj with h|h
  ·exact g2 h
  ·omega
 have n2:∀j,mkF k v1 v2 j->¬G j:=fun j hj hg=>by
  obtain⟨g1,g2⟩:=hG j hg
  rcases hm j hj with h|h
  ·exact g2 h
  ·omega
 exact⟨fun j=>F j\/mkF k v1 v2 j,⟨B,v1,v2,F,hM.keep hb n2,hF.keep hb n1,But.refl _ _,fun j hj=> .inl (.inl hj),h2,Nat.le_trans hBB hb.size,fun j hj=> .inl (.inr hj)⟩,fun j hj=>hj.elim (h1 j) (hm j),fun j hj=>hj.elim (fun h=>hF.lt h) fun h=>(hM.lt h).2⟩
def rmRest (p:Int) (ts:List Int) (n:Nat) (S:Pg.Fs) (G:List Int):Pg.Fs×List Int:=
 if n<=1\/Pg.emptyT S (ts.getD (n-1) 0)=false then(S,G)else Pg.rmW p ts (n-1) S (G++[ts.getD (n-1) 0])
theorem rmW_rest (p:Int) (ts:List Int) (m:Nat) (S:Pg.Fs) (G:List Int):Pg.rmW p ts (m+1) S G=rmRest p ts (m+1) (S.store (ts.getD m 0) (Pg.index p (3-(m:Int))) 0) G:=by
 unfold rmRest
 rw[Pg.rmW]
 by_cases h:m=0\/Pg.emptyT (S.store (ts.getD m 0) (Pg.index p (3-(m:Int))) 0) (ts.getD m 0)=false
 ·rw[if_pos h,if_pos (by simpa using h.imp (fun e=>by omega) id)]
 ·rw[if_neg h,if_neg (by intro hh;exact h (by simpa using hh.imp (fun e=>by omega) id))]
  simp
theorem take_last (l:List Int) (m:Nat) (h:m<l.length):l.take (m+1)=l.take m++[l.getD m 0]:=by
 rw[List.take_succ_eq_append_getElem h]
 simp[List.getD,h]
structure RmDone (w:World) (b:Nat) (F:Nat->Prop) (S S':Pg.Fs) (m:Pg.Mp) (G:List Int) (c:Int) (en:Ending) (w':World):Prop where
 body:∃ad cap F',en= .returned (.tuple #[m.val,.slice ad G.length cap,.int .i64 c])/\IntsAt w' ad G/\FrAt w' b S' F'/\But F w w'/\(∀k,F' k->F k\/w.heap.size<=k)/\∀g,ad=some ⟨g,0,none⟩->w.heap.size<=g/\¬F' g
def lenOf:Value->Nat
 | .slice _ n _=>n
 | _=>0
structure RmInv (W5 wr:World) (k b:Nat) (H0 Hc:Nat->Prop) (Si:Pg.Fs) (ei:Pg.En) (T P:List Int) (n:Nat) (p:Int) (vg:Value) (Gi:List Int) (R:Pg.Fs×List Int):Prop where
 st:St wr wr k b Hc Si (4-(n:Int)) ei (T.take n) (P.take n) p
 but:But H0 W5 wr
 hc:∀j,Hc j->H0 j\/W5.heap.size<=j
 lt:∀j,Hc j->j<wr.heap.size
 own:wr.ownsRow W5.heap.size 3 1 vg Gi.length (ints Gi)
 far:∀j,vg.ownBlock=some j->¬Hc j
 has:∀x,x ∈ T->Si.has x=true
 rest:rmRest p T n Si Gi=R
theorem rm_finish {w W1 W5 wr w7:World} {k b n:Nat} {F H0 Hc:Nat->Prop} {S Si:Pg.Fs} {ei:Pg.En} {T P Gi:List Int} {p:Int} {ga:Option Addr} {gc:Nat} {R:Pg.Fs×List Int} (HI:RmInv W5 wr k b H0 Hc Si ei T P n p (.slice ga Gi.length gc) Gi R) (hb:Below wr.heap.size wr w7) (H:FrAt w b S F) (hB5:But F w W5) (hH0:∀j,H0 j->F j\/W1.heap.size<=j) (hlw:w.heap.size<W1.heap.size) (h15:W1.heap.size<=W5.heap.size) (a0 a1 a2 a3:Value) (m:Pg.Mp) (c:Int):
 RmDone w b F S Si m Gi c (.returned (.tuple #[m.val,.slice ga Gi.length gc,.int .i64 c])) ((((w7.setCell ⟨w.heap.size,0,none⟩ a0).setCell ⟨w.heap.size,1,none⟩ a1).setCell ⟨w.heap.size,2,none⟩ a2).setCell ⟨w.heap.size,3,none⟩ a3):=by
 obtain⟨F2,hF,hB,h1⟩:=HI.st.leaves
 have hFc:∀j,F2 j->Hc j:=fun j hj=>by
  rcases h1 j hj with h|h
  ·exact h
  ·have:=hF.lt hj;omega
 have hFf:∀j,F2 j->F j\/W1.heap.size<=j:=fun j hj=>by
  rcases HI.hc j (hFc j hj)with h|h
  ·exact hH0 j h
  ·exact .inr (by omega)
 have hbt:But (fun j=>j=w.heap.size) wr ((((w7.setCell ⟨w.heap.size,0,none⟩ a0).setCell ⟨w.heap.size,1,none⟩ a1).setCell ⟨w.heap.size,2,none⟩ a2).setCell ⟨w.heap.size,3,none⟩ a3):=by
  iterate 4 refine But.setCell ?_ (by exact .inr rfl) _
  exact But.of_below hb
 refine⟨ga,gc,F2,rfl,?_,hF.keep hbt fun j hj e=> ?_,?_,fun j hj=>(hFf j hj).imp id fun h=>by omega,fun g hg=> ?_⟩
 ·exact owns_intsAt (cap:=gc) (n:=Gi.length) (ownsMaps_but HI.own hbt fun j hj e=>by have:=(HI.own.lt j hj).1;omega)
 ·rcases hFf j hj with h|h
  ·have:=H.lt h;omega
  ·omega
 ·refine(hB5.trans HI.but fun i hi h=> ?_).trans hbt fun i hi e=>by omega
  rcases hH0 i h with h|h
  ·exact h
  ·omega
 ·subst hg
  have:=(HI.own.lt g rfl).1
  exact⟨by omega,fun h=>HI.far g rfl (hFc g h)⟩
set_option maxHeartbeats 4000000 in
theorem tRemove_any {b:Nat} {S:Pg.Fs} {F:Nat->Prop} (t p:Int) (w:World) (h:FrAt w b S F):
 Calls Tryz.prog 90 #[.pointer (some ⟨b,0,none⟩),.int .i64 t,.int .i64 p] w fun en w'=>RmDone w b F S (Pg.rmR S t p).1 (Pg.tFM S t p) (Pg.rmR S t p).2 (Pg.tFC S t p) en w':=by
 have H:Hid (FrAt w b S F):=h
 obtain⟨W1,hW1⟩:∃W1,W1=w.alloc (.cells #[.int .i64 0,.int .i64 0,.int .i64 0,.int .i64 0] 39):=⟨_,rfl⟩
 have hB1:Below w.heap.size w W1:=by rw[hW1];exact zA (zR w) _
 have r4:W1.cell? ⟨w.heap.size,0,none⟩=some (.int .i64 0)/\W1.cell? ⟨w.heap.size,1,none⟩=some (.int .i64 0)/\W1.cell? ⟨w.heap.size,2,none⟩=some (.int .i64 0)/\W1.cell? ⟨w.heap.size,3,none⟩=some (.int .i64 0):=by rw[hW1];simp[go_sem]
 have rf4:∀o,W1.frozen? ⟨w.heap.size,o,none⟩=false:=fun o=>by rw[hW1];simp[go_sem]
 have HR4:Hid _:=r4
 have HF4:Hid _:=rf4
 have HB1:Hid _:=hB1
 have hlw:w.heap.size<W1.heap.size:=World.block_lt_of_cell? _ _ r4.1
 have HW:=newLeafMaker_any t p W1 (h.keep (G:=fun _=>False) (But.of_below hB1) fun _ _=>id)
 by_cases hc:Pg.tFC S t p=0
 ·have hz:fndC S t p=0:=by
   by_cases hz:fndC S t p=0
   ·exact hz
   ·rw[Pg.tFC,if_pos hz]at hc
    exact absurd hc hz
  obtain⟨Y,s,lv,hY,W,hsl,hl3,hY3,hpl,hix⟩:=way_split hz
  have hhas:=W.has
  have hlenX:=W.len
  have e5:Pg.tFM S t p=s.e.map (lv:Int) p:=by rw[Pg.tFM,if_pos hc,hY,W.lastE,W.lastL]
  have eR:Pg.rmR S t p=Pg.rmW p (tabs (Y++[s])) (Y.length+1) S []:=by rw[Pg.rmR,if_pos hc,hY];simp
  have hps:∀i,i<Y.length+1->(plcs (Y++[s])).getD i 0=Pg.index p (3-(i:Int)):=fun i hi=>by
   have:=(find_place S t p (i:=i) (by rw[hY];simpa using hi)).2.2
   rw[hY]at this
   exact this
  rw[hc,e5,eR]
  rw[hc,hY,W.lastL,W.lastE]at HW
  have hlT:(tabs (Y++[s])).length=Y.length+1:=by rw[tabs_len];simp
  have hlP:(plcs (Y++[s])).length=Y.length+1:=by rw[plcs_len];simp
  rw[List.length_append,List.length_singleton]at hlenX
  clear hc hz W hY hsl hpl hix h e5 eR r4 rf4 hB1
  generalize tabs (Y++[s])=T at*
  generalize plcs (Y++[s])=P at*
  generalize Y.length=N at*
  generalize hee:s.e=e at*
  clear hee
  generalize hmm:e.map (lv:Int) p=mm at*
  have HMM:Hid _:=hmm
  clear hmm
  obtain⟨mp,ms,mf,mr⟩:=mm
  rw[rmW_rest]
  go_enter Tryz.func90,Tryz.ntmps90
  go_wp2_with fail
  rw[<-hW1]
  clear hW1
  refine HW.mono ?_
  rintro en w3 ⟨k,rfl,hS,hb3⟩
  have HMap:=mkMapping_any hS
  rw[HMM.out]at HMap
  simp only[Pg.Mp.val]at HMap
  have HS3:Hid _:=hS
  have HB3:Hid (Below W1.heap.size W1 w3):=hb3
  clear hS hb3 HW
  go_wp2_with fail
  refine HMap.mono ?_
  rintro en w4 ⟨rfl,hb4⟩
  have HB4:Hid (Below w3.heap.size w3 w4):=hb4
  clear hb4 HMap
  obtain⟨W5,hW5⟩:∃W5,W5=w4.alloc (.cells #[.int .i64 mp,.int .i64 ms,.int .i64 mf,.int .i64 mr] 39):=⟨_,rfl⟩
  have hB5:Below w3.heap.size w3 W5:=by rw[hW5];exact zA HB4.out _
  have m4:W5.cell? ⟨w4.heap.size,0,none⟩=some (.int .i64 mp)/\W5.cell? ⟨w4.heap.size,1,none⟩=some (.int .i64 ms)/\W5.cell? ⟨w4.heap.size,2,none⟩=some (.int .i64 mf)/\W5.cell? ⟨w4.heap.size,3,none⟩=some (.int .i64 mr):=by rw[hW5];simp[go_sem]
  have hl45:w4.heap.size<W5.heap.size:=World.block_lt_of_cell? _ _ m4.1
  have Z5:Hid _:=later4 (zT HB3.out hB5) HR4.out
  have ZF5:Hid (∀o,W5.frozen? ⟨w.heap.size,o,none⟩=false):=fun o=>((zT HB3.out hB5).frozen (p:=⟨w.heap.size,o,none⟩) hlw).trans (HF4.out o)
  have hS6:∃H0':Nat->Prop,St W5 W5 k b H0' S (lv:Int) e T P p/\(∀j,H0' j->F j\/W1.heap.size<=j)/\∀j,H0' j->j<w4.heap.size:=by
   obtain⟨H',q1,q2,q3⟩:=(HS3.out.grow HB4.out).other (w':=W5) (G:=fun _=>False) (by rw[hW5];exact But.of_below (zA (zR _) _)) fun _ h=>h.elim
   exact⟨H',q1,q2,q3⟩
  obtain⟨H0,hS5,hH0,hH0'⟩:=hS6
  have HP2:Calls Tryz.prog 135 #[.pointer (some ⟨k,0,none⟩),.agg #[.bool false,.bool false,.int .i64 0,.bool false,.bool false,.int .i64 0]] W5 fun en w'=>en= .returned (.tuple #[])/\St W5 w' k b H0 (S.store (T.getD N 0) (Pg.index p (3-(N:Int))) 0) (lv:Int) Pg.En.zero (T.take (N+1)) (P.take (N+1)) p:=by
   have eT:T=T.take N++[T.getD N 0]:=by rw[<-take_last T N (by omega),<-hlT,List.take_length]
   have eP:P=P.take N++[Pg.index p (3-(N:Int))]:=by rw[<-hps N (by omega),<-take_last P N (by omega),<-hlP,List.take_length]
   have hS7:St W5 W5 k b H0 S (lv:Int) e (T.take N++[T.getD N 0]) (P.take N++[Pg.index p (3-(N:Int))]) p:=by rw[<-eT,<-eP];exact hS5
   have:=put_any Pg.En.zero hS7 (by simp;omega) (by simp;omega)
   simp only[Pg.En.zero,Pg.En.val,enc_none]at this
   rw[<-eT,<-eP]at this
   have t1:T.take (N+1)=T:=by rw[<-hlT,List.take_length]
   have t2:P.take (N+1)=P:=by rw[<-hlP,List.take_length]
   rw[t1,t2]
   exact this
  have M5:Hid _:=m4
  have HBt5:Hid (But F w W5):=(But.of_below HB1.out).trans ((HS3.out.but).trans (But.of_below (F:=fun _=>False) hB5) fun _ _ h=>h.elim) fun _ _ h=>h
  have HH0:Hid _:=hH0
  have HH0':Hid _:=hH0'
  have hl15:W1.heap.size<=W5.heap.size:=Nat.le_trans HB3.out.size hB5.size
  clear hS5 hH0 hH0' m4 hB5 HS3
  have hlv:(lv:Int)=4-((N+1:Nat):Int):=by omega
  rw[hlv]at HP2
  generalize hR:rmRest p T (N+1) (S.store (T.getD N 0) (Pg.index p (3-(N:Int))) 0) []=R at*
  have HRR:Hid _:=hR
  clear hR
  have hhas':∀x,x ∈ T->(S.store (T.getD N 0) (Pg.index p (3-(N:Int))) 0).has x=true:=fun x hx=>by rw[Pg.store_has];exact hhas x hx
  have HHS:Hid _:=hhas'
  clear hhas hhas'
  go_wp2_with fail
  rw[<-hW5]
  clear hW5
  refine HP2.mono ?_
  rintro en w6 ⟨rfl,h6⟩
  have HS6:Hid _:=h6
  clear h6 HP2
  go_wp2_with fail
  go_loopw [12] (fun vg wr=>∃(n:Nat) (Si:Pg.Fs) (ei:Pg.En) (Gi:List Int) (Hc:Nat->Prop),1<=n/\Gi.length+n=N+1/\Hid (RmInv W5 wr k b H0 Hc Si ei T P n p vg Gi R)) (fun vg _=>10-lenOf vg)
  case atStart=>
   obtain⟨Hc,q1,q2,q3⟩:=HS6.out.rebase
   exact⟨N+1,_,_,[],Hc,by omega,by simp,q1,HS6.out.but,q2,q3,World.ownsRow_nil _ _ _ _,fun j hj=>by simp[Value.ownBlock]at hj,HHS.out,HRR.out⟩
  case round=>
   obtain⟨n,Si,ei,Gi,Hc,hn1,hgn,HI⟩:=hrel
   have hTn:(T.take n).length=n:=by simp;omega
   have HBR:=isBelowRoot_any HI.out.st (by omega)
   rw[hTn]at HBR
   obtain⟨ga,gc,hvg⟩:=zF HI.out.own
   subst hvg
   by_cases h1:n=1
   ·subst h1
    have hb1:decide (1<1)=false:=by decide
    rw[hb1]at HBR
    have HFin:Hid (R=(Si,Gi)):=by rw[Hid,<-HI.out.rest,rmRest,if_pos (by left;omega)]
    go_wp2_with fail
    refine HBR.mono ?_
    rintro en w7 ⟨rfl,hw7⟩
    have hb7:Below wr.heap.size wr w7:=hw7▸zR wr
    clear hw7
    have hbw:w7.heap[w.heap.size]?=W5.heap[w.heap.size]?:=by
     have q1:=HI.out.but.block w.heap.size (by omega) fun h=>by
      rcases HH0.out _ h with h|h
      ·have:=FrAt.lt H.out h;omega
      ·omega
     exact(hb7.block _ (by have:=HI.out.but.size;omega)).trans q1
    have hbm:w7.heap[w4.heap.size]?=W5.heap[w4.heap.size]?:=by
     have q1:=HI.out.but.block w4.heap.size (by omega) fun h=>by have:=HH0'.out _ h;omega
     exact(hb7.block _ (by have:=HI.out.but.size;omega)).trans q1
    have z0:=(World.cell?_of_block hbw).trans Z5.out.1
    have z1:=(World.cell?_of_block hbw).trans Z5.out.2.1
    have z2:=(World.cell?_of_block hbw).trans Z5.out.2.2.1
    have z3:=(World.cell?_of_block hbw).trans Z5.out.2.2.2
    have zf:∀o,w7.frozen? ⟨w.heap.size,o,none⟩=false:=fun o=>(World.frozen?_of_block hbw).trans (ZF5.out o)
    have m0:=(World.cell?_of_block hbm).trans M5.out.1
    have m1:=(World.cell?_of_block hbm).trans M5.out.2.1
    have m2:=(World.cell?_of_block hbm).trans M5.out.2.2.1
    have m3:=(World.cell?_of_block hbm).trans M5.out.2.2.2
    have fin:Hid _:=rm_finish HI.out hb7 H.out HBt5.out HH0.out hlw hl15 (.int .i64 mp) (.int .i64 ms) (.int .i64 mf) (.int .i64 mr) ⟨mp,ms,mf,mr⟩ 0
    clear hbw hbm hb7 HBR
    go_wp2_with fail
    refine bodyPost_ret (v:= .tuple #[.agg #[.int .i64 mp,.int .i64 ms,.int .i64 mf,.int .i64 mr],.slice ga Gi.length gc,.int .i64 0]) ?_ rfl ?_
    ·simp[results,Tryz.results90,go_sem,z0,z1,z2,z3]
    ·rw[HRR.out,HFin.out]
     exact fin.out
   ·obtain⟨m,rfl⟩:∃m,n=m+2:=⟨n-2,by omega⟩
    have hb1:decide (1<m+2)=true:=by simp
    rw[hb1]at HBR
    have eT:T.take (m+2)=T.take m++[T.getD m 0]++[T.getD (m+1) 0]:=by rw[take_last T (m+1) (by omega),take_last T m (by omega)]
    have eT1:T.take (m+2)=T.take (m+1)++[T.getD (m+1) 0]:=take_last T (m+1) (by omega)
    have eP:P.take (m+2)=P.take m++[P.getD m 0]++[P.getD (m+1) 0]:=by rw[take_last P (m+1) (by omega),take_last P m (by omega)]
    have hin:T.getD (m+1) 0 ∈ T:=by
     have:m+1<T.length:=by omega
     simp[List.getD,this]
    have HTE:Calls Tryz.prog 137 #[.pointer (some ⟨k,0,none⟩)] wr fun en w'=>en= .returned (.bool (Pg.emptyT Si (T.getD (m+1) 0)))/\Below wr.heap.size wr w':=isTableEmpty_any (by rw[<-eT1];exact HI.out.st) (by simp;omega) (HI.out.has _ hin)
    cases hem:Pg.emptyT Si (T.getD (m+1) 0)
    ·rw[hem]at HTE
     have HFin:Hid (R=(Si,Gi)):=by rw[Hid,<-HI.out.rest,rmRest,if_pos (by right;exact hem)]
     go_wp2_with fail
     refine HBR.mono ?_
     rintro en w7 ⟨rfl,hw7⟩
     subst w7
     go_wp2_with fail
     refine HTE.mono ?_
     rintro en w7 ⟨rfl,hb7⟩
     have hbw:w7.heap[w.heap.size]?=W5.heap[w.heap.size]?:=by
      have q1:=HI.out.but.block w.heap.size (by omega) fun h=>by
       rcases HH0.out _ h with h|h
       ·have:=FrAt.lt H.out h;omega
       ·omega
      exact(hb7.block _ (by have:=HI.out.but.size;omega)).trans q1
     have hbm:w7.heap[w4.heap.size]?=W5.heap[w4.heap.size]?:=by
      have q1:=HI.out.but.block w4.heap.size (by omega) fun h=>by have:=HH0'.out _ h;omega
      exact(hb7.block _ (by have:=HI.out.but.size;omega)).trans q1
     have z0:=(World.cell?_of_block hbw).trans Z5.out.1
     have z1:=(World.cell?_of_block hbw).trans Z5.out.2.1
     have z2:=(World.cell?_of_block hbw).trans Z5.out.2.2.1
     have z3:=(World.cell?_of_block hbw).trans Z5.out.2.2.2
     have zf:∀o,w7.frozen? ⟨w.heap.size,o,none⟩=false:=fun o=>(World.frozen?_of_block hbw).trans (ZF5.out o)
     have m0:=(World.cell?_of_block hbm).trans M5.out.1
     have m1:=(World.cell?_of_block hbm).trans M5.out.2.1
     have m2:=(World.cell?_of_block hbm).trans M5.out.2.2.1
     have m3:=(World.cell?_of_block hbm).trans M5.out.2.2.2
     have fin:Hid _:=rm_finish HI.out hb7 H.out HBt5.out HH0.out hlw hl15 (.int .i64 mp) (.int .i64 ms) (.int .i64 mf) (.int .i64 mr) ⟨mp,ms,mf,mr⟩ 0
     clear hbw hbm hb7 HBR HTE
     go_wp2_with fail
     refine bodyPost_ret (v:= .tuple #[.agg #[.int .i64 mp,.int .i64 ms,.int .i64 mf,.int .i64 mr],.slice ga Gi.length gc,.int .i64 0]) ?_ rfl ?_
     ·simp[results,Tryz.results90,go_sem,z0,z1,z2,z3]
     ·rw[HRR.out,HFin.out]
      exact fin.out
    ·rw[hem]at HTE
     have HNext:Hid (rmRest p T (m+1) (Si.store (T.getD m 0) (Pg.index p (3-(m:Int))) 0) (Gi++[T.getD (m+1) 0])=R):=by
      rw[Hid,<-HI.out.rest,<-rmW_rest]
      conv=>rhs;rw[rmRest,if_neg (by intro hh;rcases hh with h|h;(· omega);(· rw[show m+2-1=m+1 from rfl,hem]at h;cases h))]
      rfl
     go_wp2_with fail
     refine HBR.mono ?_
     rintro en w7 ⟨rfl,hw7⟩
     subst w7
     go_wp2_with fail
     refine HTE.mono ?_
     rintro en w7 ⟨rfl,hb7⟩
     have hlvl:(4-((m+2:Nat):Int))+1=4-((m+1:Nat):Int):=by omega
     have hS7:St wr w7 k b Hc Si (4-((m+2:Nat):Int)) ei (T.take m++[T.getD m 0]++[T.getD (m+1) 0]) (P.take m++[P.getD m 0]++[P.getD (m+1) 0]) p:=by rw[<-eT,<-eP];exact HI.out.st.grow hb7
     have HCut:=cut_any hS7 (by simp;omega) (by simp;omega) (by omega) (by omega)
     rw[hlvl,hps m (by omega)]at HCut
     rw[<-take_last T m (by omega)]at HCut
     have eP1:P.take m++[Pg.index p (3-(m:Int))]=P.take (m+1):=by rw[take_last P m (by omega),hps m (by omega)]
     rw[eP1]at HCut
     have HB7:Hid _:=hb7
     have HIN:Hid _:=HI.out
     have hgl:Gi.length+1<=4:=by omega
     generalize T.getD (m+1) 0=tg at*
     generalize T.getD m 0=tm at*
     clear hb7 HBR HTE eT eT1 eP hin eP1 hlvl hS7
     go_wp2_with fail
     refine HCut.mono ?_
     rintro en w8 ⟨rfl,h8⟩
     have HS8:Hid _:=h8
     have hB8:But Hc wr w8:=h8.but
     have hown8:w8.ownsRow W5.heap.size 3 1 (.slice ga Gi.length gc) Gi.length (ints Gi):=ownsMaps_but HI.out.own hB8 fun j hj=>HI.out.far j hj
     have hs58:W5.heap.size<=w8.heap.size:=by have:=HI.out.but.size;have:=hB8.size;omega
     have HB8:Hid _:=hB8
     obtain⟨q0,hq,hz0,hz1,hz2⟩:=info_parts infoIntW
     clear h8 HCut hB8
     go_wp2_with (first
      | (at_builtin;refine wpList_append_lies _ rfl _ _ 45 rfl W5.heap.size 3 q0 (.int .i64 0) 1 8 Tryz.underlying45 hq hz0 hz1 hz2 rfl (by decide) _ _ _ rfl (hown8.alloc _) ⟨w8.heap.size,0,none⟩ 1 1 [.int .i64 tg] rfl rfl ?c1 ?c2 (by decide) ?c3 ?c4 ?c5 (w8.heap.size+1) (by simp) ?_))
     case c1=>
      intro j u hj
      match j,hj with
      | 0,hj=>simp at hj;subst hj;simp[Addr.add,go_sem]
     case c2=>intro u hu;simp at hu;subst hu;rfl
     case c3=>unfold maxLen;omega
     case c4=>omega
     case c5=>simp;omega
     intro g9 cap9 w9 hown9 hgrow9 hat9 hlt9
     have HO9:Hid (w9.ownsRow W5.heap.size 3 1 (.slice (some ⟨g9,0,none⟩) (Gi.length+1) cap9) (Gi.length+1) (ints Gi++[.int .i64 tg])):=hown9
     have hB9:But (fun j=>(Value.slice ga Gi.length gc).ownBlock=some j) w8 w9:=(But.of_below (zA (zR w8) _)).grown hgrow9 fun k hk=> .inr hk
     have HB9:Hid _:=hB9
     have HA9:Hid ((Value.slice ga Gi.length gc).ownBlock=some g9\/g9=w8.heap.size+1):=hat9
     clear hown9 hgrow9 hat9 hlt9 hown8 hB9
     have fin:Hid (∃Hc',RmInv W5 w9 k b H0 Hc' (Si.store tm (Pg.index p (3-(m:Int))) 0) Pg.En.zero T P (m+1) p (.slice (some ⟨g9,0,none⟩) (Gi.length+1) cap9) (Gi++[tg]) R):=by
      have hlt:∀j,(Value.slice ga Gi.length gc).ownBlock=some j->W5.heap.size<=j/\j<wr.heap.size:=fun j hj=>HIN.out.own.lt j hj
      obtain⟨Hc',q1,q2,q3⟩:=HS8.out.other HB9.out fun j hj=>⟨(hlt j hj).2,HIN.out.far j hj⟩
      refine⟨Hc',q1,?_,fun j hj=> ?_,fun j hj=>Nat.lt_of_lt_of_le (q3 j hj) HB9.out.size,?_,fun j hj=> ?_,fun x hx=> ?_,HNext.out⟩
      ·refine(HIN.out.but.trans HB8.out fun i hi h=> ?_).trans HB9.out fun i hi h=> ?_
       ·rcases HIN.out.hc i h with h|h
        ·exact h
        ·omega
       ·have:=(hlt i h).1;omega
      ·rcases q2 j hj with h|h
       ·exact HIN.out.hc j h
       ·have:=HIN.out.but.size;exact .inr (by omega)
      ·rw[List.length_append,List.length_singleton,ints_push]
       exact HO9.out
      ·have e:g9=j:=by simpa[Value.ownBlock]using hj
       subst e
       intro hh
       rcases HA9.out with h|h
       ·rcases q2 g9 hh with h'|h'
        ·exact HIN.out.far g9 h h'
        ·have:=(hlt g9 h).2;omega
       ·have:=q3 g9 hh;omega
      ·rw[Pg.store_has];exact HIN.out.has x hx
     go_wp2_with fail
     obtain⟨Hc',hI'⟩:=fin.out
     exact⟨⟨m+1,_,_,Gi++[tg],Hc',by omega,by simp;omega,hI'⟩,by simp[lenOf];omega⟩
 ·have e2:Pg.tFM S t p= .zz:=by rw[Pg.tFM,if_neg hc]
  have e3:Pg.rmR S t p=(S,[]):=by rw[Pg.rmR,if_neg hc]
  rw[e2,e3]
  clear h e2 e3 r4 rf4 hB1
  generalize Pg.tFC S t p=cc at*
  have hcb:(cc !=0)=true:=by simp[hc]
  clear hc
  go_enter Tryz.func90,Tryz.ntmps90
  go_wp2_with fail
  rw[<-hW1]
  clear hW1
  refine HW.mono ?_
  rintro en w3 ⟨k,rfl,_,hb3⟩
  obtain⟨y0,y1,y2,y3⟩:=later4 hb3 HR4.out
  have yf:∀o,w3.frozen? ⟨w.heap.size,o,none⟩=false:=fun o=>(hb3.frozen (p:=⟨w.heap.size,o,none⟩) hlw).trans (HF4.out o)
  have HB3:Hid (Below w.heap.size w w3):=zT HB1.out hb3
  clear hb3 HW
  go_wp2_with fail
  have hBf:=below_set4 HB3.out w.heap.size (Nat.le_refl _) (.int .i64 0) (.int .i64 0) (.int .i64 0) (.int .i64 0)
  refine bodyPost_ret (v:= .tuple #[.agg #[.int .i64 0,.int .i64 0,.int .i64 0,.int .i64 0],.slice none 0 0,.int .i64 cc]) ?_ rfl ⟨none,0,F,rfl,fun j hj=>absurd hj (by simp),FrAt.keep (G:=fun _=>False) H.out (But.of_below hBf) fun _ _=>id,But.of_below hBf,fun k hk=> .inl hk,fun g hg=>by cases hg⟩
  simp[results,Tryz.results90,go_sem,y0,y1,y2,y3]
end Go.Proofs.YtkhnelgommaioaaGreat
