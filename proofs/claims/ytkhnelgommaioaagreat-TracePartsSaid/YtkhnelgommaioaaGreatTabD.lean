import Derived.Test.YtkhnelgommaioaaGreatTabB
import Derived.Deep.RegionLaw
namespace Go.Proofs.YtkhnelgommaioaaGreat
open Go.RowKit Go.Sort
set_option linter.unusedVariables false
set_option linter.unusedSimpArgs false
set_option maxRecDepth 100000
namespace St
variable {w0 w w':World} {k b:Nat} {F0:Nat->Prop} {S:Pg.Fs} {lv:Int} {e:Pg.En} {ts ps:List Int} {p:Int}
end St
theorem Mk.push1 {w w3 W:World} {B k b:Nat} {lv:Int} {e:Pg.En} {v1 v2:Value} {ts ps:List Int} {p:Int} (h:Mk w B k b lv e v1 v2 ts ps p) (hB:B<=w.heap.size) (hW:Below w.heap.size w W) (hg:W.grownBy w3 v1.ownBlock) {g cap:Nat} (hat:v1.ownBlock=some g\/w.heap.size<=g) (x:Int)
 (ho:w3.ownsRow B 3 1 (.slice (some ⟨g,0,none⟩) (ts.length+1) cap) (ts.length+1) (ints ts++[.int .i64 x])):
 Mk (w3.setCell ⟨k,8,none⟩ (.slice (some ⟨g,0,none⟩) (ts.length+1) cap)) B k b lv e (.slice (some ⟨g,0,none⟩) (ts.length+1) cap) v2 (ts++[x]) ps p/\But (fun j=>j=k\/v1.ownBlock=some j) w (w3.setCell ⟨k,8,none⟩ (.slice (some ⟨g,0,none⟩) (ts.length+1) cap))/\∀j,mkF k (.slice (some ⟨g,0,none⟩) (ts.length+1) cap) v2 j->mkF k v1 v2 j\/w.heap.size<=j:=by
 have hlk:=h.lb
 have b1:But (fun j=>v1.ownBlock=some j) w w3:=(But.of_below hW).grown hg fun k hk=> .inr hk
 have hgk:g≠k:=by
  rcases hat with hat|hat
  ·exact fun e=>h.n1 (e▸hat)
  ·omega
 have hg2:∀j,g=j->v2.ownBlock≠some j:=by
  rintro j rfl
  rcases hat with hat|hat
  ·exact h.ne g hat
  ·exact fun e=>by have:=(h.o2.lt g e).2;omega
 have hk3:w3.heap[k]?=w.heap[k]?:=b1.block k hlk h.n1
 have c:∀{o:Nat} {v:Value},o≠8->w.cell? ⟨k,o,none⟩=some v->(w3.setCell ⟨k,8,none⟩ (.slice (some ⟨g,0,none⟩) (ts.length+1) cap)).cell? ⟨k,o,none⟩=some v:=fun{o v} ho e=>
  (World.cell?_setCell_other _ _ _ _ (fun e=>ho (by injection e with _ e;exact e.symm))).trans ((World.cell?_of_block hk3).trans e)
 have b2:But (fun j=>j=k\/v1.ownBlock=some j) w (w3.setCell ⟨k,8,none⟩ (.slice (some ⟨g,0,none⟩) (ts.length+1) cap)):=(b1.mono fun _ _ h=> .inr h).setCell (a:=⟨k,8,none⟩) (.inr (.inl rfl)) _
 refine⟨⟨c (by decide) h.c0,c (by decide) h.c1,c (by decide) h.c2,c (by decide) h.c3,c (by decide) h.c4,c (by decide) h.c5,c (by decide) h.c6,c (by decide) h.c7,World.cell?_setCell_same _ _ _ ((World.cell?_of_block hk3).trans h.c8),c (by decide) h.c9,c (by decide) h.c10,fun o=>by rw[World.frozen?_setCell];exact(World.frozen?_of_block hk3).trans (h.fz o),?_,?_,fun j hj=>hg2 j (by simpa[Value.ownBlock]using hj),fun e=>hgk (by simpa[Value.ownBlock]using e),h.n2,h.hi⟩,b2,fun j hj=> ?_⟩
 ·have e1:ints (ts++[x])=ints ts++[.int .i64 x]:=by simp[ints]
  rw[List.length_append,List.length_singleton,e1]
  exact owns_of_block ho fun j hj=>Below.heap_setCell _ _ _ _ fun e=>hgk ((by simpa[Value.ownBlock]using hj:g=j).trans e)
 ·exact ownsMaps_but h.o2 b2 fun j hj e=>by
   rcases e with e|e
   ·exact h.n2 (e▸hj)
   ·exact h.ne j e hj
 ·rcases hj with hj|hj|hj
  ·exact .inl (.inl hj)
  ·have:g=j:=by simpa[Value.ownBlock]using hj
   subst this
   exact hat.imp (fun e=> .inr (.inl e)) id
  ·exact .inl (.inr (.inr hj))
theorem Mk.push2 {w w3 W:World} {B k b:Nat} {lv:Int} {e:Pg.En} {v1 v2:Value} {ts ps:List Int} {p:Int} (h:Mk w B k b lv e v1 v2 ts ps p) (hB:B<=w.heap.size) (hW:Below w.heap.size w W) (hg:W.grownBy w3 v2.ownBlock) {g cap:Nat} (hat:v2.ownBlock=some g\/w.heap.size<=g) (x:Int)
 (ho:w3.ownsRow B 3 1 (.slice (some ⟨g,0,none⟩) (ps.length+1) cap) (ps.length+1) (ints ps++[.int .i64 x])):
 Mk (w3.setCell ⟨k,9,none⟩ (.slice (some ⟨g,0,none⟩) (ps.length+1) cap)) B k b lv e v1 (.slice (some ⟨g,0,none⟩) (ps.length+1) cap) ts (ps++[x]) p/\But (fun j=>j=k\/v2.ownBlock=some j) w (w3.setCell ⟨k,9,none⟩ (.slice (some ⟨g,0,none⟩) (ps.length+1) cap))/\∀j,mkF k v1 (.slice (some ⟨g,0,none⟩) (ps.length+1) cap) j->mkF k v1 v2 j\/w.heap.size<=j:=by
 have hlk:=h.lb
 have b1:But (fun j=>v2.ownBlock=some j) w w3:=(But.of_below hW).grown hg fun k hk=> .inr hk
 have hgk:g≠k:=by
  rcases hat with hat|hat
  ·exact fun e=>h.n2 (e▸hat)
  ·omega
 have hg2:v1.ownBlock≠some g:=by
  rcases hat with hat|hat
  ·exact fun e=>h.ne g e hat
  ·exact fun e=>by have:=(h.o1.lt g e).2;omega
 have hk3:w3.heap[k]?=w.heap[k]?:=b1.block k hlk h.n2
 have c:∀{o:Nat} {v:Value},o≠9->w.cell? ⟨k,o,none⟩=some v->(w3.setCell ⟨k,9,none⟩ (.slice (some ⟨g,0,none⟩) (ps.length+1) cap)).cell? ⟨k,o,none⟩=some v:=fun{o v} ho e=>
  (World.cell?_setCell_other _ _ _ _ (fun e=>ho (by injection e with _ e;exact e.symm))).trans ((World.cell?_of_block hk3).trans e)
 have b2:But (fun j=>j=k\/v2.ownBlock=some j) w (w3.setCell ⟨k,9,none⟩ (.slice (some ⟨g,0,none⟩) (ps.length+1) cap)):=(b1.mono fun _ _ h=> .inr h).setCell (a:=⟨k,9,none⟩) (.inr (.inl rfl)) _
 refine⟨⟨c (by decide) h.c0,c (by decide) h.c1,c (by decide) h.c2,c (by decide) h.c3,c (by decide) h.c4,c (by decide) h.c5,c (by decide) h.c6,c (by decide) h.c7,c (by decide) h.c8,World.cell?_setCell_same _ _ _ ((World.cell?_of_block hk3).trans h.c9),c (by decide) h.c10,fun o=>by rw[World.frozen?_setCell];exact(World.frozen?_of_block hk3).trans (h.fz o),?_,?_,fun j hj e=>hg2 (by have:g=j:=(by simpa[Value.ownBlock]using e);rw[this];exact hj),h.n1,fun e=>hgk (by simpa[Value.ownBlock]using e),h.hi⟩,b2,fun j hj=> ?_⟩
 ·exact ownsMaps_but h.o1 b2 fun j hj e=>by
   rcases e with e|e
   ·exact h.n1 (e▸hj)
   ·exact h.ne j hj e
 ·have e1:ints (ps++[x])=ints ps++[.int .i64 x]:=by simp[ints]
  rw[List.length_append,List.length_singleton,e1]
  exact owns_of_block ho fun j hj=>Below.heap_setCell _ _ _ _ fun e=>hgk ((by simpa[Value.ownBlock]using hj:g=j).trans e)
 ·rcases hj with hj|hj|hj
  ·exact .inl (.inl hj)
  ·exact .inl (.inr (.inl hj))
  ·have:g=j:=by simpa[Value.ownBlock]using hj
   subst this
   exact hat.imp (fun e=> .inr (.inr e)) id
theorem St.step {w0 w w':World} {B k b:Nat} {F0 F:Nat->Prop} {S:Pg.Fs} {lv lv':Int} {e e':Pg.En} {ts ts' ps ps':List Int} {p p':Int} {v1 v2 v1' v2':Value} {G:Nat->Prop} (hM:Mk w B k b lv e v1 v2 ts ps p) (hF:FrAt w b S F) (hB:But F0 w0 w) (h1:∀j,F j->F0 j\/w0.heap.size<=j) (h2:∀j,F j->¬mkF k v1 v2 j) (hBB:B<=w.heap.size) (hm:∀j,mkF k v1 v2 j->F0 j\/w0.heap.size<=j)
 (hM':Mk w' B k b lv' e' v1' v2' ts' ps' p') (hb:But G w w') (hG:∀j,G j->mkF k v1 v2 j) (hn:∀j,mkF k v1' v2' j->mkF k v1 v2 j\/w.heap.size<=j):St w0 w' k b F0 S lv' e' ts' ps' p':=
 ⟨B,v1',v2',F,hM',hF.keep hb fun j hj hg=>h2 j hj (hG j hg),hB.trans hb fun i hi hg=>(hm i (hG i hg)).elim id fun h=>by omega,h1,fun j hj hm=>by
  rcases hn j hm with h|h
  ·exact h2 j hj h
  ·have:=hF.lt hj;omega,Nat.le_trans hBB hb.size,fun j hj=>by
  rcases hn j hj with h|h
  ·exact hm j h
  ·have:=hB.size;exact .inr (by omega)⟩
theorem stTake_any {w0 w:World} {k b:Nat} {F0:Nat->Prop} {S:Pg.Fs} {lv:Int} {e:Pg.En} {ts ps:List Int} {p:Int} (h:St w0 w k b F0 S lv e ts ps p):
 Calls Tryz.prog 47 #[.pointer (some ⟨b,0,none⟩)] w fun en w'=>en= .returned (.int .i64 S.takeN)/\St w0 w' k b F0 S.take lv e ts ps p:=by
 obtain⟨B,v1,v2,F,hM,hF,hB,h1,h2,hBB,hm⟩:=h.body
 refine(frTake_any w hF).mono ?_
 rintro en w' ⟨rfl,F',f1,f2,f3⟩
 refine⟨rfl,B,v1,v2,F',hM.keep f2 fun j hj hf=>h2 j hf hj,f1,hB.trans f2 fun i hi hf=> ?_,fun j hj=> ?_,fun j hj hm=> ?_,Nat.le_trans hBB f2.size,hm⟩
 ·rcases h1 i hf with h|h
  ·exact h
  ·omega
 ·rcases f3 j hj with h|h
  ·exact h1 j h
  ·have:=hB.size;exact .inr (by omega)
 ·rcases f3 j hj with h|h
  ·exact h2 j h hm
  ·have:=(hM.lt hm).2;omega
set_option maxHeartbeats 2000000 in
theorem extend_any {w0 w:World} {k b:Nat} {F0:Nat->Prop} {S:Pg.Fs} {lv:Int} {e:Pg.En} {ts ps:List Int} {p t q:Int} (h:St w0 w k b F0 S lv e (ts++[t]) (ps++[q]) p) (hlen:ts.length=ps.length) (hl:ts.length<4000) (hv0:0<=lv) (hv1:lv<100):
 Calls Tryz.prog 168 #[.pointer (some ⟨k,0,none⟩)] w fun en w'=>en= .returned (.tuple #[])/\St w0 w' k b F0 (S.take.store t q (Pg.enc true false 7 false false S.takeN lv)) (lv-1) Pg.En.zero (ts++[t]++[S.takeN]) (ps++[q]++[Pg.index p (lv-1)]) p:=by
 have HT:=stTake_any h
 have HP:∀w1,St w0 w1 k b F0 S.take lv e (ts++[t]) (ps++[q]) p->Calls Tryz.prog 135 #[.pointer (some ⟨k,0,none⟩),.agg #[.bool true,.bool false,.int .i64 7,.bool false,.bool false,.int .i64 S.takeN]] w1 fun en w'=>en= .returned (.tuple #[])/\St w0 w' k b F0 (S.take.store t q (Pg.enc true false 7 false false S.takeN lv)) lv ⟨true,false,7,false,false,S.takeN⟩ (ts++[t]) (ps++[q]) p:=fun w1 h1=>put_any ⟨true,false,7,false,false,S.takeN⟩ h1 hlen (by omega)
 have HI:=index_any p (lv-1)
 generalize Pg.enc true false 7 false false S.takeN lv=v at*
 generalize S.takeN=tk at*
 generalize S.take=S1 at*
 generalize S1.store t q v=S2 at*
 generalize Pg.index p (lv-1)=ix at*
 have hlen1:(ts++[t]).length=ts.length+1:=by simp
 have hlen2:(ps++[q]).length=ts.length+1:=by simp[hlen]
 generalize ts++[t]=T at*
 generalize ps++[q]=P at*
 clear hlen
 generalize ts.length=n at*
 obtain⟨B,v1,v2,F,hM,hF,hB,h1,h2,hBB,hm⟩:=h.body
 have k0:=hM.c0
 clear hM hF hB h1 h2 h hBB hm
 go_enter Tryz.func168,Tryz.ntmps168
 go_wp2_with fail
 refine HT.mono ?_
 rintro en w1 ⟨rfl,hS1⟩
 have HP:=HP w1 hS1
 clear HT hS1 k0
 go_wp2_with fail
 refine HP.mono ?_
 rintro en w2 ⟨rfl,hS2⟩
 obtain⟨B,v1,v2,F,hM,hF,hB,h1,h2,hBB,hm⟩:=hS2.body
 have k1:=hM.c1
 have k2:=hM.c2
 have k3:=hM.c3
 have k4:=hM.c4
 have k5:=hM.c5
 have k6:=hM.c6
 have k7:=hM.c7
 have k8:=hM.c8
 have kf:=hM.fz
 simp only at k2 k3 k4 k5 k6 k7
 obtain⟨W3,hW3⟩:∃W3,W3=((((((w2.setCell ⟨k,1,none⟩ (.int .i64 (lv-1))).setCell ⟨k,2,none⟩ (.bool false)).setCell ⟨k,3,none⟩ (.bool false)).setCell ⟨k,4,none⟩ (.int .i64 0)).setCell ⟨k,5,none⟩ (.bool false)).setCell ⟨k,6,none⟩ (.bool false)).setCell ⟨k,7,none⟩ (.int .i64 0):=⟨_,rfl⟩
 have M3:Mk W3 B k b (lv-1) Pg.En.zero v1 v2 T P p:=by rw[hW3];exact(hM.setLv (lv-1)).setE Pg.En.zero
 have bt3:But (fun j=>j=k) w2 W3:=by
  rw[hW3]
  exact((((((((But.refl (fun j=>j=k) w2).setCell (a:=⟨k,1,none⟩) (.inr rfl) _).setCell (a:=⟨k,2,none⟩) (.inr rfl) _).setCell (a:=⟨k,3,none⟩) (.inr rfl) _).setCell (a:=⟨k,4,none⟩) (.inr rfl) _).setCell (a:=⟨k,5,none⟩) (.inr rfl) _).setCell (a:=⟨k,6,none⟩) (.inr rfl) _).setCell (a:=⟨k,7,none⟩) (.inr rfl) _)
 have HM3:Hid _:=M3
 have HF3:Hid (FrAt W3 b S2 F):=hF.keep bt3 fun j hj e=>h2 j hj (.inl e)
 have HBt3:Hid (But F0 w0 W3):=hB.trans bt3 fun i hi e=>(hm i (.inl e)).elim id fun h=>by omega
 have H1:Hid _:=h1
 have H2:Hid _:=h2
 have Hm:Hid _:=hm
 have hsz:B<=W3.heap.size:=Nat.le_trans hBB bt3.size
 clear hM hF hB h1 h2 HP hS2 bt3 M3 hBB hm
 obtain⟨a1,c1,rfl⟩:=zF HM3.out.o1
 have hown:=HM3.out.o1
 have r8:=HM3.out.c8
 have hlk:=HM3.out.lb
 have hsz0:=HBt3.out.size
 obtain⟨q0,hq,hz0,hz1,hz2⟩:=info_parts infoIntW
 rw[hlen1]at hown r8 k8
 have hsW:W3.heap.size=w2.heap.size:=by rw[hW3];simp
 have hown2:(((((((w2.setCell ⟨k,1,none⟩ (.int .i64 (lv-1))).setCell ⟨k,2,none⟩ (.bool false)).setCell ⟨k,3,none⟩ (.bool false)).setCell ⟨k,4,none⟩ (.int .i64 0)).setCell ⟨k,5,none⟩ (.bool false)).setCell ⟨k,6,none⟩ (.bool false)).setCell ⟨k,7,none⟩ (.int .i64 0)).ownsRow B 3 1 (.slice a1 (n+1) c1) (n+1) (ints T):=by rw[<-hW3];exact hown
 go_wp2_with (first
  | (at_builtin;refine wpList_append_lies _ rfl _ _ 45 rfl B 3 q0 (.int .i64 0) 1 8 Tryz.underlying45 hq hz0 hz1 hz2 rfl (by decide) _ _ _ rfl (hown2.alloc _) ⟨w2.heap.size,0,none⟩ 1 1 [.int .i64 tk] rfl rfl ?c1 ?c2 (by decide) ?c3 ?c4 ?c5 (w2.heap.size+1) (by simp) ?_))
 case c1=>
  intro j u hj
  match j,hj with
  | 0,hj=>simp at hj;subst hj;simp[Addr.add,go_sem]
 case c2=>intro u hu;simp at hu;subst hu;rfl
 case c3=>unfold maxLen;omega
 case c4=>omega
 case c5=>simp;omega
 intro g cap w4 hown4 hgrow hat hlt4
 rw[<-hW3]at hgrow
 clear hW3 k1 k2 k3 k4 k5 k6 k7 k8 kf hown2
 have hgl:g<w4.heap.size:=hlt4
 obtain⟨M5,b5,n5⟩:=HM3.out.push1 (W:=W3.alloc (.cells #[.int .i64 tk] 3)) (g:=g) (cap:=cap) hsz (zA (zR _) _) (by rw[hlen1];exact hgrow) (by rw[hlen1];exact hat.imp id fun h=>by omega) tk (by rw[hlen1];exact hown4)
 rw[hlen1]at M5 b5 n5
 have hk4:w4.heap[k]?=W3.heap[k]?:=hgrow.block k (by simp;omega) (fun e=>HM3.out.n1 (by rw[hlen1];exact e.symm))|>.trans (Below.heap_alloc _ _ _ hlk)
 have e8:w4.cell? ⟨k,8,none⟩=some (.slice a1 (n+1) c1):=(World.cell?_of_block hk4).trans r8
 have ef8:w4.frozen? ⟨k,8,none⟩=false:=(World.frozen?_of_block hk4).trans (HM3.out.fz 8)
 have HM5:Hid _:=M5
 have HB5:Hid _:=b5
 have HN5:Hid _:=n5
 clear M5 b5 n5 hk4 hgrow hat hown4 hlt4 hown r8 HP
 go_wp2_with fail
 clear e8 ef8
 generalize hW5:w4.setCell ⟨k,8,none⟩ (.slice (some ⟨g,0,none⟩) (n+1+1) cap)=W5 at*
 clear hW5
 obtain⟨a2,c2,rfl⟩:=zF HM5.out.o2
 have k9:=HM5.out.c9
 have k10:=HM5.out.c10
 have k1:=HM5.out.c1
 have kf:=HM5.out.fz
 have hown:W5.ownsRow B 3 1 (.slice a2 (n+1) c2) (n+1) (ints P):=by have:=HM5.out.o2;rw[hlen2]at this;exact this
 rw[hlen2]at k9
 have hlk5:=HM5.out.lb
 have hs5:=HB5.out.size
 have HF5:Hid (FrAt W5 b S2 F):=FrAt.keep HF3.out HB5.out fun j hj hg=>H2.out j hj (by rw[hlen1];exact hg.imp id fun h=> .inl h)
 have HBt5:Hid (But F0 w0 W5):=HBt3.out.trans HB5.out fun i hi hg=>(Hm.out i (by rw[hlen1];exact hg.imp id fun h=> .inl h)).elim id fun h=>by omega
 have Hm5:Hid (∀j,mkF k (.slice (some ⟨g,0,none⟩) (n+1+1) cap) (.slice a2 P.length c2) j->F0 j\/w0.heap.size<=j):=fun j hj=>by
  rcases HN5.out j hj with h|h
  ·exact Hm.out j (by rw[hlen1];exact h)
  ·exact .inr (by omega)
 have H25:Hid (∀j,F j->¬mkF k (.slice (some ⟨g,0,none⟩) (n+1+1) cap) (.slice a2 P.length c2) j):=fun j hj hm=>by
  rcases HN5.out j hm with h|h
  ·exact H2.out j hj (by rw[hlen1];exact h)
  ·have:=FrAt.lt HF3.out hj;omega
 have hs05:B<=W5.heap.size:=by omega
 have hnk:¬k=W5.heap.size:=by omega
 clear HB5 HN5 HM3 HF3 HBt3 H2 hlk hsz hsz0 hgl hs5 hsW Hm
 have hnews:∀(W:World) (j:Nat) (u:Value),[Value.int .i64 ix][j]?=some u->(W.alloc (.cells #[.int .i64 ix] 3)).cell? ((⟨W.heap.size,0,none⟩:Addr).add j)=some u:=fun W j u hu=>
  World.news_of_block (heap_alloc_new W _) j u hu
 have hone:∀u,u ∈ [Value.int .i64 ix]->u.oneCell'=true:=by
  intro u hu;simp at hu;subst hu;rfl
 have hm1:n+1+1<=maxLen:=by unfold maxLen;omega
 have hm2:(n+1+1)*8<=140737488355328:=by omega
 have hn2:(Value.slice a2 (n+1) c2).ownBlock≠some k:=by have:=HM5.out.n2;rw[hlen2]at this;exact this
 go_region_law (first
  | (go_simp;go_at_call 197;refine(HI _).mono ?_;rintro e w6 ⟨rfl,rfl⟩)
  | (refine step_append_lies _ rfl (.tmp 43) (.tmp 54) 45 rfl B 3 q0 _ 1 8 Tryz.underlying45 hq hz0 hz1 hz2 rfl (by decide) (.slice a2 (n+1) c2) _ _ (by simp[Act.eval]) (hown.alloc _) ⟨W5.heap.size,0,none⟩ 1 1 [.int .i64 ix] (by simp[Act.eval]) rfl (hnews W5) hone (by decide) hm1 hm2 (Nat.le_trans hs05 (by simp)) (W5.heap.size+1) (by simp) ?_;intro g6 cap6 w6 hown6 hgrow6 hat6 hlt6;have hG6:Hid ((W5.alloc (.cells #[.int .i64 ix] 3)).drew.grownBy w6 (Value.slice a2 (n+1) c2).ownBlock):=hgrow6;have hk6:w6.heap[k]?=W5.heap[k]?:=(hG6.out.block k (by simp;omega) (fun e=>hn2 e.symm)).trans (Below.heap_alloc _ _ _ hlk5);have e9:w6.cell? ⟨k,9,none⟩=some (.slice a2 (n+1) c2):=(World.cell?_of_block hk6).trans k9;have ef9:w6.frozen? ⟨k,9,none⟩=false:=(World.frozen?_of_block hk6).trans (kf 9);have hO6:Hid (w6.ownsRow B 3 1 (.slice (some ⟨g6,0,none⟩) (n+1+1) cap6) (n+1+1) (ints P++[.int .i64 ix])):=hown6;have hA6:Hid ((Value.slice a2 (n+1) c2).ownBlock=some g6\/g6=W5.heap.size+1):=hat6;clear hown6 hgrow6 hat6 hk6))
 all_goals
  obtain⟨M7,b7,n7⟩:=HM5.out.push2 (W:=(W5.alloc (.cells #[.int .i64 ix] 3)).drew) (g:=g6) (cap:=cap6) hs05 (zA (zR _) _).drew (by rw[hlen2];exact hG6.out) (by rw[hlen2];exact hA6.out.imp id fun h=>by omega) ix (by rw[hlen2];exact hO6.out)
  rw[hlen2]at M7 b7 n7
  have fin:Hid (St w0 (w6.setCell ⟨k,9,none⟩ (.slice (some ⟨g6,0,none⟩) (n+1+1) cap6)) k b F0 S2 (lv-1) Pg.En.zero (T++[tk]) (P++[ix]) p):=
   St.step HM5.out HF5.out HBt5.out H1.out H25.out hs05 Hm5.out M7 b7 (fun j hj=>hj.imp id fun h=> .inr (by rw[hlen2];exact h)) (fun j hj=>(n7 j hj).imp (fun h=>by rw[hlen2];exact h) id)
  go_wp2_with fail
  go_end0
  exact⟨rfl,fin.out⟩
end Go.Proofs.YtkhnelgommaioaaGreat
