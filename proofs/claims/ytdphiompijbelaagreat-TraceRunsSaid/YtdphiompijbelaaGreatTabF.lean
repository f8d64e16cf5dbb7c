import Derived.Test.YtdphiompijbelaaGreatTabH
import Derived.BigRegion
set_option linter.all false
set_option maxRecDepth 100000
open Nat renaming le_trans->kI
open Go renaming World->l
open Go.Proofs.Tryz renaming prog->A
open Go.Ending renaming returned->D
open List renaming length_singleton->Z,length_append->O
open Go.IntKind renaming i64->V
open Go.World renaming cell?_of_block->N,block_lt_of_cell?->K,frozen?_of_block->M,cell?_setCell_other->z,cell?_setCell_same->d,frozen?_setCell->kJ
open Bool renaming false->R,true->X
open Go.Value renaming slice->J,int->Q,ownBlock->U,bool->E,slice->L,pointer->y,int->kP,tuple->kS
open Option renaming none->I,some->C
set_option maxHeartbeats 4000000
namespace Go.Proofs.YtdphiompijbelaaGreat
open Go.RowKit Go.Sort
namespace St
variable {w0 w w':l} {k b:Nat} {F0:Nat->Prop} {S:Pg.Fs} {lv:Int} {e:Pg.En} {ts ps:List Int} {p:Int}
end St
theorem Mk.push1 {w w3 W:l} {B k b:Nat} {lv:Int} {e:Pg.En} {v1 v2:Value} {ts ps:List Int} {p:Int} (h:Mk w B k b lv e v1 v2 ts ps p) (hB:B<=w.heap.size) (hW:Below w.heap.size w W) (hg:W.grownBy w3 v1.ownBlock) {g cap:Nat} (hat:v1.ownBlock=C g\/w.heap.size<=g) (x:Int)
 (ho:w3.ownsRow B 3 1 (J (C ⟨g,0,I⟩) (ts.length+1) cap) (ts.length+1) (xA ts++[Q V x])):
 Mk (w3.setCell ⟨k,8,I⟩ (J (C ⟨g,0,I⟩) (ts.length+1) cap)) B k b lv e (J (C ⟨g,0,I⟩) (ts.length+1) cap) v2 (ts++[x]) ps p/\But (fun j=>j=k\/v1.ownBlock=C j) w (w3.setCell ⟨k,8,I⟩ (J (C ⟨g,0,I⟩) (ts.length+1) cap))/\∀j,mkF k (J (C ⟨g,0,I⟩) (ts.length+1) cap) v2 j->mkF k v1 v2 j\/w.heap.size<=j:=by
 have hlk:=h.lb;have b1:But (fun j=>v1.ownBlock=C j) w w3:=(But.yhf hW).grown hg fun k hk=> .inr hk
 have hgk:g≠k:=by
  rcases hat with hat|hat
  ·exact fun e=>h.n1 (e▸hat)
  ·omega
 have hg2:∀j,g=j->v2.ownBlock≠C j:=by
  rintro j rfl;rcases hat with hat|hat
  ·exact h.ne g hat
  ·exact fun e=>by have:=(h.o2.lt g e).2;omega
 have hk3:w3.heap[k]?=w.heap[k]?:=b1.block k hlk h.n1
 have c:∀{o:Nat} {v:Value},o≠8->w.cell? ⟨k,o,I⟩=C v->(w3.setCell ⟨k,8,I⟩ (J (C ⟨g,0,I⟩) (ts.length+1) cap)).cell? ⟨k,o,I⟩=C v:=fun{o v} ho e=>
  (z _ _ _ _ (fun e=>ho (by injection e with _ e;exact e.symm))).trans ((N hk3).trans e)
 have b2:But (fun j=>j=k\/v1.ownBlock=C j) w (w3.setCell ⟨k,8,I⟩ (J (C ⟨g,0,I⟩) (ts.length+1) cap)):=(b1.mono fun _ _ h=> .inr h).setCell (a:=⟨k,8,I⟩) (.inr (.inl rfl)) _;refine⟨⟨c (by decide) h.c0,c (by decide) h.c1,c (by decide) h.c2,c (by decide) h.c3,c (by decide) h.c4,c (by decide) h.c5,c (by decide) h.c6,c (by decide) h.c7,d _ _ _ ((N hk3).trans h.c8),c (by decide) h.c9,c (by decide) h.c10,fun o=>by rw[kJ];exact(M hk3).trans (h.fz o),?_,?_,fun j hj=>hg2 j (by simpa[U]using hj),fun e=>hgk (by simpa[U]using e),h.n2,h.hi⟩,b2,fun j hj=> ?_⟩
 ·have e1:xA (ts++[x])=xA ts++[Q V x]:=by simp[xA]
  rw[O,Z,e1];exact zb ho fun j hj=>Below.heap_setCell _ _ _ _ fun e=>hgk ((by simpa[U]using hj:g=j).trans e)
 ·exact zc h.o2 b2 fun j hj e=>by
   rcases e with e|e
   ·exact h.n2 (e▸hj)
   ·exact h.ne j e hj
 ·rcases hj with hj|hj|hj
  ·exact .inl (.inl hj)
  ·have:g=j:=by simpa[U]using hj
   subst this;exact hat.imp (fun e=> .inr (.inl e)) id
  ·exact .inl (.inr (.inr hj))
theorem Mk.push2 {w w3 W:l} {B k b:Nat} {lv:Int} {e:Pg.En} {v1 v2:Value} {ts ps:List Int} {p:Int} (h:Mk w B k b lv e v1 v2 ts ps p) (hB:B<=w.heap.size) (hW:Below w.heap.size w W) (hg:W.grownBy w3 v2.ownBlock) {g cap:Nat} (hat:v2.ownBlock=C g\/w.heap.size<=g) (x:Int)
 (ho:w3.ownsRow B 3 1 (J (C ⟨g,0,I⟩) (ps.length+1) cap) (ps.length+1) (xA ps++[Q V x])):
 Mk (w3.setCell ⟨k,9,I⟩ (J (C ⟨g,0,I⟩) (ps.length+1) cap)) B k b lv e v1 (J (C ⟨g,0,I⟩) (ps.length+1) cap) ts (ps++[x]) p/\But (fun j=>j=k\/v2.ownBlock=C j) w (w3.setCell ⟨k,9,I⟩ (J (C ⟨g,0,I⟩) (ps.length+1) cap))/\∀j,mkF k v1 (J (C ⟨g,0,I⟩) (ps.length+1) cap) j->mkF k v1 v2 j\/w.heap.size<=j:=by
 have hlk:=h.lb;have b1:But (fun j=>v2.ownBlock=C j) w w3:=(But.yhf hW).grown hg fun k hk=> .inr hk
 have hgk:g≠k:=by
  rcases hat with hat|hat
  ·exact fun e=>h.n2 (e▸hat)
  ·omega
 have hg2:v1.ownBlock≠C g:=by
  rcases hat with hat|hat
  ·exact fun e=>h.ne g e hat
  ·exact fun e=>by have:=(h.o1.lt g e).2;omega
 have hk3:w3.heap[k]?=w.heap[k]?:=b1.block k hlk h.n2
 have c:∀{o:Nat} {v:Value},o≠9->w.cell? ⟨k,o,I⟩=C v->(w3.setCell ⟨k,9,I⟩ (J (C ⟨g,0,I⟩) (ps.length+1) cap)).cell? ⟨k,o,I⟩=C v:=fun{o v} ho e=>
  (z _ _ _ _ (fun e=>ho (by injection e with _ e;exact e.symm))).trans ((N hk3).trans e)
 have b2:But (fun j=>j=k\/v2.ownBlock=C j) w (w3.setCell ⟨k,9,I⟩ (J (C ⟨g,0,I⟩) (ps.length+1) cap)):=(b1.mono fun _ _ h=> .inr h).setCell (a:=⟨k,9,I⟩) (.inr (.inl rfl)) _;refine⟨⟨c (by decide) h.c0,c (by decide) h.c1,c (by decide) h.c2,c (by decide) h.c3,c (by decide) h.c4,c (by decide) h.c5,c (by decide) h.c6,c (by decide) h.c7,c (by decide) h.c8,d _ _ _ ((N hk3).trans h.c9),c (by decide) h.c10,fun o=>by rw[kJ];exact(M hk3).trans (h.fz o),?_,?_,fun j hj e=>hg2 (by have:g=j:=(by simpa[U]using e);rw[this];exact hj),h.n1,fun e=>hgk (by simpa[U]using e),h.hi⟩,b2,fun j hj=> ?_⟩
 ·exact zc h.o1 b2 fun j hj e=>by
   rcases e with e|e
   ·exact h.n1 (e▸hj)
   ·exact h.ne j hj e
 ·have e1:xA (ps++[x])=xA ps++[Q V x]:=by simp[xA]
  rw[O,Z,e1];exact zb ho fun j hj=>Below.heap_setCell _ _ _ _ fun e=>hgk ((by simpa[U]using hj:g=j).trans e)
 ·rcases hj with hj|hj|hj
  ·exact .inl (.inl hj)
  ·exact .inl (.inr (.inl hj))
  ·have:g=j:=by simpa[U]using hj
   subst this;exact hat.imp (fun e=> .inr (.inr e)) id
theorem St.step {w0 w w':l} {B k b:Nat} {F0 F:Nat->Prop} {S:Pg.Fs} {lv lv':Int} {e e':Pg.En} {ts ts' ps ps':List Int} {p p':Int} {v1 v2 v1' v2':Value} {G:Nat->Prop} (hM:Mk w B k b lv e v1 v2 ts ps p) (hF:zh w b S F) (hB:But F0 w0 w) (h1:∀j,F j->F0 j\/w0.heap.size<=j) (h2:∀j,F j->¬mkF k v1 v2 j) (hBB:B<=w.heap.size) (hm:∀j,mkF k v1 v2 j->F0 j\/w0.heap.size<=j)
 (hM':Mk w' B k b lv' e' v1' v2' ts' ps' p') (hb:But G w w') (hG:∀j,G j->mkF k v1 v2 j) (hn:∀j,mkF k v1' v2' j->mkF k v1 v2 j\/w.heap.size<=j):St w0 w' k b F0 S lv' e' ts' ps' p':=
 ⟨B,v1',v2',F,hM',hF.keep hb fun j hj hg=>h2 j hj (hG j hg),hB.trans hb fun i hi hg=>(hm i (hG i hg)).elim id fun h=>by omega,h1,fun j hj hm=>by
  rcases hn j hm with h|h
  ·exact h2 j hj h
  ·have:=hF.lt hj;omega,kI hBB hb.size,fun j hj=>by
  rcases hn j hj with h|h
  ·exact hm j h
  ·have:=hB.size;exact .inr (by omega)⟩
theorem yd0 {w0 w:l} {k b:Nat} {F0:Nat->Prop} {S:Pg.Fs} {lv:Int} {e:Pg.En} {ts ps:List Int} {p:Int} (h:St w0 w k b F0 S lv e ts ps p):
 Calls A 46 #[y (C ⟨b,0,I⟩)] w fun en w'=>en=D (Q V S.takeN)/\St w0 w' k b F0 S.take lv e ts ps p:=by
 obtain⟨B,v1,v2,F,hM,hF,hB,h1,h2,hBB,hm⟩:=h.body;refine(yaM w hF).mono ?_;rintro en w' ⟨rfl,F',f1,f2,f3⟩;refine⟨rfl,B,v1,v2,F',hM.keep f2 fun j hj hf=>h2 j hf hj,f1,hB.trans f2 fun i hi hf=> ?_,fun j hj=> ?_,fun j hj hm=> ?_,kI hBB f2.size,hm⟩
 ·rcases h1 i hf with h|h
  ·exact h
  ·omega
 ·rcases f3 j hj with h|h
  ·exact h1 j h
  ·have:=hB.size;exact .inr (by omega)
 ·rcases f3 j hj with h|h
  ·exact h2 j h hm
  ·have:=(hM.lt hm).2;omega
theorem ydB {w0 w:l} {k b:Nat} {F0:Nat->Prop} {S:Pg.Fs} {lv:Int} {e:Pg.En} {ts ps:List Int} {p t q:Int} (h:St w0 w k b F0 S lv e (ts++[t]) (ps++[q]) p) (hlen:ts.length=ps.length) (hl:ts.length<4000) (hv0:0<=lv) (hv1:lv<100):
 Calls A 167 #[y (C ⟨k,0,I⟩)] w fun en w'=>en=D (kS #[])/\St w0 w' k b F0 (S.take.store t q (Pg.enc X R 7 R R S.takeN lv)) (lv-1) Pg.En.zero (ts++[t]++[S.takeN]) (ps++[q]++[Pg.index p (lv-1)]) p:=by
 have HT:=yd0 h;have HP:∀w1,St w0 w1 k b F0 S.take lv e (ts++[t]) (ps++[q]) p->Calls A 134 #[y (C ⟨k,0,I⟩),.agg #[E X,E R,Q V 7,E R,E R,Q V S.takeN]] w1 fun en w'=>en=D (kS #[])/\St w0 w' k b F0 (S.take.store t q (Pg.enc X R 7 R R S.takeN lv)) lv ⟨X,R,7,R,R,S.takeN⟩ (ts++[t]) (ps++[q]) p:=fun w1 h1=>vN ⟨X,R,7,R,R,S.takeN⟩ h1 hlen (by omega);have HI:=vD p (lv-1);generalize Pg.enc X R 7 R R S.takeN lv=v at*;generalize S.takeN=tk at*;generalize S.take=S1 at*;generalize S1.store t q v=S2 at*;generalize Pg.index p (lv-1)=ix at*
 have hlen1:(ts++[t]).length=ts.length+1:=by simp
 have hlen2:(ps++[q]).length=ts.length+1:=by simp[hlen]
 generalize ts++[t]=T at*;generalize ps++[q]=P at*;clear hlen;generalize ts.length=n at*;obtain⟨B,v1,v2,F,hM,hF,hB,h1,h2,hBB,hm⟩:=h.body;have k0:=hM.c0;clear hM hF hB h1 h2 h hBB hm
 go_enter Tryz.func167,Tryz.ntmps167
 go_wp2_with fail
 refine HT.mono ?_;rintro en w1 ⟨rfl,hS1⟩;have HP:=HP w1 hS1;clear HT hS1 k0
 go_wp2_with fail
 refine HP.mono ?_;rintro en w2 ⟨rfl,hS2⟩;obtain⟨B,v1,v2,F,hM,hF,hB,h1,h2,hBB,hm⟩:=hS2.body;have k1:=hM.c1;have k2:=hM.c2;have k3:=hM.c3;have k4:=hM.c4;have k5:=hM.c5;have k6:=hM.c6;have k7:=hM.c7;have k8:=hM.c8;have kf:=hM.fz;simp only at k2 k3 k4 k5 k6 k7;obtain⟨W3,hW3⟩:∃W3,W3=((((((w2.setCell ⟨k,1,I⟩ (Q V (lv-1))).setCell ⟨k,2,I⟩ (E R)).setCell ⟨k,3,I⟩ (E R)).setCell ⟨k,4,I⟩ (Q V 0)).setCell ⟨k,5,I⟩ (E R)).setCell ⟨k,6,I⟩ (E R)).setCell ⟨k,7,I⟩ (Q V 0):=⟨_,rfl⟩
 have M3:Mk W3 B k b (lv-1) Pg.En.zero v1 v2 T P p:=by rw[hW3];exact(hM.ylw (lv-1)).setE Pg.En.zero
 have bt3:But (fun j=>j=k) w2 W3:=by
  rw[hW3];exact((((((((But.refl (fun j=>j=k) w2).setCell (a:=⟨k,1,I⟩) (.inr rfl) _).setCell (a:=⟨k,2,I⟩) (.inr rfl) _).setCell (a:=⟨k,3,I⟩) (.inr rfl) _).setCell (a:=⟨k,4,I⟩) (.inr rfl) _).setCell (a:=⟨k,5,I⟩) (.inr rfl) _).setCell (a:=⟨k,6,I⟩) (.inr rfl) _).setCell (a:=⟨k,7,I⟩) (.inr rfl) _)
 have HM3:Hid _:=M3;have HF3:Hid (zh W3 b S2 F):=hF.keep bt3 fun j hj e=>h2 j hj (.inl e)
 have HBt3:Hid (But F0 w0 W3):=hB.trans bt3 fun i hi e=>(hm i (.inl e)).elim id fun h=>by omega
 have H1:Hid _:=h1;have H2:Hid _:=h2;have Hm:Hid _:=hm;have hsz:B<=W3.heap.size:=kI hBB bt3.size;clear hM hF hB h1 h2 HP hS2 bt3 M3 hBB hm;obtain⟨a1,c1,rfl⟩:=zF HM3.out.o1;have hown:=HM3.out.o1;have r8:=HM3.out.c8;have hlk:=HM3.out.lb;have hsz0:=HBt3.out.size;obtain⟨q0,hq,hz0,hz1,hz2⟩:=info_parts qY;rw[hlen1]at hown r8 k8
 have hsW:W3.heap.size=w2.heap.size:=by rw[hW3];simp
 have hown2:(((((((w2.setCell ⟨k,1,I⟩ (Q V (lv-1))).setCell ⟨k,2,I⟩ (E R)).setCell ⟨k,3,I⟩ (E R)).setCell ⟨k,4,I⟩ (Q V 0)).setCell ⟨k,5,I⟩ (E R)).setCell ⟨k,6,I⟩ (E R)).setCell ⟨k,7,I⟩ (Q V 0)).ownsRow B 3 1 (J a1 (n+1) c1) (n+1) (xA T):=by rw[<-hW3];exact hown
 go_wp2_with (first
  | (at_builtin;refine wpList_append_lies _ rfl _ _ 45 rfl B 3 q0 (Q V 0) 1 8 Tryz.underlying45 hq hz0 hz1 hz2 rfl (by decide) _ _ _ rfl (hown2.alloc _) ⟨w2.heap.size,0,I⟩ 1 1 [Q V tk] rfl rfl ?c1 ?c2 (by decide) ?c3 ?c4 ?c5 (w2.heap.size+1) (by simp) ?_))
 case c1=>
  intro j u hj
  match j,hj with
  | 0,hj=>simp at hj;subst hj;simp[Addr.add,go_sem]
 case c2=>intro u hu;simp at hu;subst hu;rfl
 case c3=>unfold maxLen;omega
 case c4=>omega
 case c5=>simp;omega
 intro g cap w4 hown4 hgrow hat hlt4;rw[<-hW3]at hgrow;clear hW3 k1 k2 k3 k4 k5 k6 k7 k8 kf hown2;have hgl:g<w4.heap.size:=hlt4;obtain⟨M5,b5,n5⟩:=HM3.out.push1 (W:=W3.alloc (.cells #[Q V tk] 3)) (g:=g) (cap:=cap) hsz (zA (zR _) _) (by rw[hlen1];exact hgrow) (by rw[hlen1];exact hat.imp id fun h=>by omega) tk (by rw[hlen1];exact hown4);rw[hlen1]at M5 b5 n5;have hk4:w4.heap[k]?=W3.heap[k]?:=hgrow.block k (by simp;omega) (fun e=>HM3.out.n1 (by rw[hlen1];exact e.symm))|>.trans (Below.heap_alloc _ _ _ hlk);have e8:w4.cell? ⟨k,8,I⟩=C (J a1 (n+1) c1):=(N hk4).trans r8;have ef8:w4.frozen? ⟨k,8,I⟩=R:=(M hk4).trans (HM3.out.fz 8);have HM5:Hid _:=M5;have HB5:Hid _:=b5;have HN5:Hid _:=n5;clear M5 b5 n5 hk4 hgrow hat hown4 hlt4 hown r8 HP
 go_wp2_with fail
 clear e8 ef8;generalize hW5:w4.setCell ⟨k,8,I⟩ (J (C ⟨g,0,I⟩) (n+1+1) cap)=W5 at*;clear hW5;obtain⟨a2,c2,rfl⟩:=zF HM5.out.o2;have k9:=HM5.out.c9;have k10:=HM5.out.c10;have k1:=HM5.out.c1;have kf:=HM5.out.fz
 have hown:W5.ownsRow B 3 1 (J a2 (n+1) c2) (n+1) (xA P):=by have:=HM5.out.o2;rw[hlen2]at this;exact this
 rw[hlen2]at k9;have hlk5:=HM5.out.lb;have hs5:=HB5.out.size;have HF5:Hid (zh W5 b S2 F):=zh.keep HF3.out HB5.out fun j hj hg=>H2.out j hj (by rw[hlen1];exact hg.imp id fun h=> .inl h)
 have HBt5:Hid (But F0 w0 W5):=HBt3.out.trans HB5.out fun i hi hg=>(Hm.out i (by rw[hlen1];exact hg.imp id fun h=> .inl h)).elim id fun h=>by omega
 have Hm5:Hid (∀j,mkF k (J (C ⟨g,0,I⟩) (n+1+1) cap) (J a2 P.length c2) j->F0 j\/w0.heap.size<=j):=fun j hj=>by
  rcases HN5.out j hj with h|h
  ·exact Hm.out j (by rw[hlen1];exact h)
  ·exact .inr (by omega)
 have H25:Hid (∀j,F j->¬mkF k (J (C ⟨g,0,I⟩) (n+1+1) cap) (J a2 P.length c2) j):=fun j hj hm=>by
  rcases HN5.out j hm with h|h
  ·exact H2.out j hj (by rw[hlen1];exact h)
  ·have:=zh.lt HF3.out hj;omega
 have hs05:B<=W5.heap.size:=by omega
 have hnk:¬k=W5.heap.size:=by omega
 clear HB5 HN5 HM3 HF3 HBt3 H2 hlk hsz hsz0 hgl hs5 hsW Hm
 have hnews:∀(W:l) (j:Nat) (u:Value),[kP V ix][j]?=C u->(W.alloc (.cells #[Q V ix] 3)).cell? ((⟨W.heap.size,0,I⟩:Addr).add j)=C u:=fun W j u hu=>
  World.news_of_block (heap_alloc_new W _) j u hu
 have hone:∀u,u ∈ [kP V ix]->u.oneCell'=X:=by
  intro u hu;simp at hu;subst hu;rfl
 have hm1:n+1+1<=maxLen:=by unfold maxLen;omega
 have hm2:(n+1+1)*8<=140737488355328:=by omega
 have hn2:(L a2 (n+1) c2).ownBlock≠C k:=by have:=HM5.out.n2;rw[hlen2]at this;exact this
 go_region_law (first
  | (go_simp;go_at_call 196;refine(HI _).mono ?_;rintro e w6 ⟨rfl,rfl⟩)
  | (refine step_append_lies _ rfl (.tmp 43) (.tmp 54) 45 rfl B 3 q0 _ 1 8 Tryz.underlying45 hq hz0 hz1 hz2 rfl (by decide) (J a2 (n+1) c2) _ _ (by simp[Act.eval]) (hown.alloc _) ⟨W5.heap.size,0,I⟩ 1 1 [Q V ix] (by simp[Act.eval]) rfl (hnews W5) hone (by decide) hm1 hm2 (kI hs05 (by simp)) (W5.heap.size+1) (by simp) ?_;intro g6 cap6 w6 hown6 hgrow6 hat6 hlt6;have hG6:Hid ((W5.alloc (.cells #[Q V ix] 3)).drew.grownBy w6 (L a2 (n+1) c2).ownBlock):=hgrow6;have hk6:w6.heap[k]?=W5.heap[k]?:=(hG6.out.block k (by simp;omega) (fun e=>hn2 e.symm)).trans (Below.heap_alloc _ _ _ hlk5);have e9:w6.cell? ⟨k,9,I⟩=C (J a2 (n+1) c2):=(N hk6).trans k9;have ef9:w6.frozen? ⟨k,9,I⟩=R:=(M hk6).trans (kf 9);have hO6:Hid (w6.ownsRow B 3 1 (J (C ⟨g6,0,I⟩) (n+1+1) cap6) (n+1+1) (xA P++[Q V ix])):=hown6;have hA6:Hid ((L a2 (n+1) c2).ownBlock=C g6\/g6=W5.heap.size+1):=hat6;clear hown6 hgrow6 hat6 hk6))
 all_goals
  obtain⟨M7,b7,n7⟩:=HM5.out.push2 (W:=(W5.alloc (.cells #[Q V ix] 3)).drew) (g:=g6) (cap:=cap6) hs05 (zA (zR _) _).drew (by rw[hlen2];exact hG6.out) (by rw[hlen2];exact hA6.out.imp id fun h=>by omega) ix (by rw[hlen2];exact hO6.out);rw[hlen2]at M7 b7 n7
  have fin:Hid (St w0 (w6.setCell ⟨k,9,I⟩ (J (C ⟨g6,0,I⟩) (n+1+1) cap6)) k b F0 S2 (lv-1) Pg.En.zero (T++[tk]) (P++[ix]) p):=
   St.step HM5.out HF5.out HBt5.out H1.out H25.out hs05 Hm5.out M7 b7 (fun j hj=>hj.imp id fun h=> .inr (by rw[hlen2];exact h)) (fun j hj=>(n7 j hj).imp (fun h=>by rw[hlen2];exact h) id)
  go_wp2_with fail
  go_end0
  exact⟨rfl,fin.out⟩
theorem yeB (p:Int) (s:Nat) (S:Pg.Fs) (t:Int):Pg.insW p s s S t=(S,t):=by
 cases s with
 | zero=>rfl
 | succ s=>simp[Pg.insW]
theorem yeC (p:Int) (s m:Nat) (S:Pg.Fs) (t:Int) (h:s<=m):Pg.insW p s (m+1) S t=Pg.insW p s m (S.take.store t (Pg.index p ((m+1:Nat):Int)) (Pg.enc X R 7 R R S.takeN ((m+1:Nat):Int))) S.takeN:=by
 rw[Pg.insW,if_neg (by omega)]
theorem ycY {b:Nat} {S:Pg.Fs} {F:Nat->Prop} (t:Int) (m:Pg.Mp) (w:l) (h:zh w b S F):
 Calls A 133 #[y (C ⟨b,0,I⟩),Q V t,m.val] w fun en w'=>en=D (Q V (Pg.insC S t m))/\∃F',zh w' b (Pg.insS S t m) F'/\But F w w'/\∀k,F' k->F k\/w.heap.size<=k:=by
 obtain⟨p,s,f,r⟩:=m;have HC:=zQ p s f r;have eC:Pg.Mp.code ⟨p,s,f,r⟩=Pg.check p s f r:=rfl;rw[<-eC]at HC;simp only[Pg.Mp.val];have H:Hid (zh w b S F):=h;obtain⟨W1,hW1⟩:∃W1,W1=w.alloc (.cells #[Q V p,Q V s,Q V f,Q V r] 39):=⟨_,rfl⟩
 have hB1:Below w.heap.size w W1:=by rw[hW1];exact zA (zR w) _
 have r4:W1.cell? ⟨w.heap.size,0,I⟩=C (Q V p)/\W1.cell? ⟨w.heap.size,1,I⟩=C (Q V s)/\W1.cell? ⟨w.heap.size,2,I⟩=C (Q V f)/\W1.cell? ⟨w.heap.size,3,I⟩=C (Q V r):=by rw[hW1];simp[go_sem]
 have HB1:Hid _:=hB1;obtain⟨x0,x1,x2,x3⟩:=r4;have fin0:Hid (∀w',Below w.heap.size w w'->∃F',zh w' b S F'/\But F w w'/\∀k,F' k->F k\/w.heap.size<=k):=fun w' hb=>⟨F,zh.keep (G:=fun _=>False) H.out (But.yhf hb) fun _ _=>id,But.yhf hb,fun k hk=> .inl hk⟩;have HW:=fun w2 (hb:Below w.heap.size w w2)=>j8 t p w2 (h.keep (G:=fun _=>False) (But.yhf hb) fun _ _=>id);clear hB1 eC
 by_cases hc:Pg.Mp.code ⟨p,s,f,r⟩=0
 ·rw[hc]at HC
  by_cases hz:xM S t p=0
  ·obtain⟨Y,sp,lv,hY,W,hsl,hl3,hY3,hpl,hix⟩:=qT hz
   have hs:0<=s/\s<=2:=by
    have hc':Pg.check p s f r=0:=hc
    have hsp:Pg.span s≠0:=by
     intro e;rw[Pg.check,if_pos e]at hc';omega
    unfold Pg.span at hsp
    by_cases h0:s=0
    ·omega
    ·by_cases h1:s=1
     ·omega
     ·by_cases h2:s=2
      ·omega
      ·simp[h0,h1,h2]at hsp
   obtain⟨sn,rfl⟩:=Int.eq_ofNat_of_zero_le hs.1
   have hs2:sn<=2:=by omega
   have e6:tabs (Y++[sp])=tabs Y++[sp.table]:=by simp[tabs]
   have e7:qG (Y++[sp])=qG Y++[(sp.place:Int)]:=by simp[qG]
   have eI:Pg.insC S t ⟨p,sn,f,r⟩=if sp.e.t=X\/(lv:Int)<(sn:Int)then 4 else if S.free<(lv:Int)-(sn:Int)then 6 else 0:=by
    rw[Pg.insC,if_neg (by simp[hc]),if_neg (by simp[hz]),hY,W.yhk,W.yhm]
   have eS:Pg.insS S t ⟨p,sn,f,r⟩=if Pg.insC S t ⟨p,sn,f,r⟩=0 then(Pg.insW p sn lv S sp.table).1.store (Pg.insW p sn lv S sp.table).2 (Pg.index p (sn:Int)) (Pg.enc X X r R R f (sn:Int))else S:=by
    rw[Pg.insS,hY,W.yhm,W.lastT];rfl
   rw[hz,hY,W.yhm,W.yhk,e6,e7,hpl]at HW
   have hlen:(tabs Y).length=(qG Y).length:=by rw[xy,vo]
   have hlt:(tabs Y).length<=3:=by rw[xy];omega
   have hfree:=h.ok.yk2;have HFr:=fun w2 (hb:Below w.heap.size w w2)=>yaK w2 (h.keep (G:=fun _=>False) (But.yhf hb) fun _ _=>id);clear hc hz W hY hsl hpl hix h e6 e7 hs;generalize tabs Y=T at*;generalize qG Y=P at*;obtain⟨st,_,_,_,⟨et,el,er,eu,ed,ef⟩⟩:=sp;simp only at eI eS HW;clear hY3 Y;generalize Pg.insC S t ⟨p,sn,f,r⟩=ic at*;generalize Pg.insS S t ⟨p,sn,f,r⟩=iS at*
   by_cases hE:et=X\/(lv:Int)<(sn:Int)
   ·rw[if_pos hE]at eI
    rw[eI,if_neg (by decide)]at eS;rw[eI,eS];clear eI eS;cases et
    ·have hlt':(lv:Int)<(sn:Int):=by
      rcases hE with h|h
      ·cases h
      ·exact h
     clear hE
     go_enter Tryz.func133,Tryz.ntmps133
     go_wp2_with fail
     rw[<-hW1];clear hW1;refine(HC _).mono ?_;rintro en w2 ⟨rfl,hb2⟩;have y0:=cell_later hb2 x0;have y1:=cell_later hb2 x1;have y2:=cell_later hb2 x2;have y3:=cell_later hb2 x3;have HB2:Hid (Below w.heap.size w w2):=zT HB1.out hb2;clear hb2 HC x0 x1 x2 x3
     go_wp2_with fail
     refine(HW _ HB2.out).mono ?_;rintro en w3 ⟨k,rfl,hS,hb3⟩;have HS:Hid _:=hS;have HB3:Hid (Below w.heap.size w w3):=zT HB2.out hb3;obtain⟨B,v1,v2,F',hM,_,_,_,_,_,_⟩:=hS.body;have k0:=hM.c0;have k1:=hM.c1;have k2:=hM.c2;simp only at k2;have z1:=cell_later hb3 y1;have z2:=cell_later hb3 y2;have z3:=cell_later hb3 y3;have hlx:w.heap.size<w2.heap.size:=K _ _ y0;have HZ:Hid _:=And.intro z1 (And.intro z2 z3);clear hM hS hb3 HW y0 y1 y2 y3
     go_wp2_with fail
     go_quiet (fail)
     go_wp2_with fail
     go_ret
     exact⟨rfl,fin0.out _ (zT HB3.out (below_drewN (zR _) _))⟩
    ·clear hE
     go_enter Tryz.func133,Tryz.ntmps133
     go_wp2_with fail
     rw[<-hW1];clear hW1;refine(HC _).mono ?_;rintro en w2 ⟨rfl,hb2⟩;have y0:=cell_later hb2 x0;have y1:=cell_later hb2 x1;have y2:=cell_later hb2 x2;have y3:=cell_later hb2 x3;have HB2:Hid (Below w.heap.size w w2):=zT HB1.out hb2;clear hb2 HC x0 x1 x2 x3
     go_wp2_with fail
     refine(HW _ HB2.out).mono ?_;rintro en w3 ⟨k,rfl,hS,hb3⟩;have HS:Hid _:=hS;have HB3:Hid (Below w.heap.size w w3):=zT HB2.out hb3;obtain⟨B,v1,v2,F',hM,_,_,_,_,_,_⟩:=hS.body;have k0:=hM.c0;have k1:=hM.c1;have k2:=hM.c2;simp only at k2;have z1:=cell_later hb3 y1;have z2:=cell_later hb3 y2;have z3:=cell_later hb3 y3;have hlx:w.heap.size<w2.heap.size:=K _ _ y0;have HZ:Hid _:=And.intro z1 (And.intro z2 z3);clear hM hS hb3 HW y0 y1 y2 y3
     go_wp2_with fail
     go_quiet (fail)
     go_wp2_with fail
     go_ret
     exact⟨rfl,fin0.out _ (zT HB3.out (below_drewN (zR _) _))⟩
   ·rw[if_neg hE]at eI
    have hef:et=R:=by
     cases et
     ·rfl
     ·exact absurd (.inl rfl) hE
    have hle:sn<=lv:=by omega
    subst hef;clear hE
    by_cases hfu:S.free<(lv:Int)-(sn:Int)
    ·rw[if_pos hfu]at eI
     rw[eI,if_neg (by decide)]at eS;rw[eI,eS];clear eI eS
     go_enter Tryz.func133,Tryz.ntmps133
     go_wp2_with fail
     rw[<-hW1];clear hW1;refine(HC _).mono ?_;rintro en w2 ⟨rfl,hb2⟩;have y0:=cell_later hb2 x0;have y1:=cell_later hb2 x1;have y2:=cell_later hb2 x2;have y3:=cell_later hb2 x3;have HB2:Hid (Below w.heap.size w w2):=zT HB1.out hb2;clear hb2 HC x0 x1 x2 x3
     go_wp2_with fail
     refine(HW _ HB2.out).mono ?_;rintro en w3 ⟨k,rfl,hS,hb3⟩;have HS:Hid _:=hS;have HB3:Hid (Below w.heap.size w w3):=zT HB2.out hb3;obtain⟨B,v1,v2,F',hM,_,_,_,_,_,_⟩:=hS.body;have k0:=hM.c0;have k1:=hM.c1;have k2:=hM.c2;simp only at k2;have z1:=cell_later hb3 y1;have z2:=cell_later hb3 y2;have z3:=cell_later hb3 y3;have hlx:w.heap.size<w2.heap.size:=K _ _ y0;have HZ:Hid _:=And.intro z1 (And.intro z2 z3);clear hM hS hb3 HW y0 y1 y2 y3
     go_wp2_with fail
     go_quiet (fail)
     go_wp2_with fail
     refine(HFr _ (zT HB3.out (below_drewN (zR _) _))).mono ?_;rintro en w4 ⟨rfl,hb4⟩;have HB4:Hid (Below w.heap.size w w4):=zT (zT HB3.out (below_drewN (zR _) _)) hb4;clear hb4 HFr
     go_wp2_with fail
     go_ret
     exact⟨rfl,fin0.out _ HB4.out⟩
    ·rw[if_neg hfu]at eI
     rw[eI,if_pos rfl]at eS;rw[eI,eS];clear eI eS
     have dd1:decide ((lv:Int)-(sn:Int)<0)=R:=by simp;omega
     have dd2:decide (S.free<(lv:Int)-(sn:Int))=R:=by simp;omega
     go_enter Tryz.func133,Tryz.ntmps133
     go_wp2_with fail
     rw[<-hW1];clear hW1;refine(HC _).mono ?_;rintro en w2 ⟨rfl,hb2⟩;have y0:=cell_later hb2 x0;have y1:=cell_later hb2 x1;have y2:=cell_later hb2 x2;have y3:=cell_later hb2 x3;have HB2:Hid (Below w.heap.size w w2):=zT HB1.out hb2;clear hb2 HC x0 x1 x2 x3
     go_wp2_with fail
     refine(HW _ HB2.out).mono ?_;rintro en w3 ⟨k,rfl,hS,hb3⟩;have HS:Hid _:=hS;have HB3:Hid (Below w.heap.size w w3):=zT HB2.out hb3;obtain⟨B,v1,v2,F',hM,_,_,_,_,_,_⟩:=hS.body;have k0:=hM.c0;have k1:=hM.c1;have k2:=hM.c2;simp only at k2;have z1:=cell_later hb3 y1;have z2:=cell_later hb3 y2;have z3:=cell_later hb3 y3;have hlx:w.heap.size<w2.heap.size:=K _ _ y0;have HZ:Hid _:=And.intro z1 (And.intro z2 z3);clear hM hS hb3 HW y0 y1 y2 y3
     go_wp2_with fail
     go_quiet (fail)
     go_wp2_with fail
     refine(HFr _ (zT HB3.out (below_drewN (zR _) _))).mono ?_;rintro en w4 ⟨rfl,hb4⟩;have HB34:Hid (Below w3.heap.size w3 w4):=zT (below_drewN (zR _) _) hb4;clear hb4 HFr
     go_wp2_with fail
     try simp only[dd1,dd2]
     go_loopw [53] (fun i wr=>∃(j lvn:Nat) (Si:Pg.Fs) (ei:Pg.En) (ts ps:List Int) (ti:Int),lvn+j=lv/\sn<=lvn/\i=Q V (j:Int)/\ts.length=ps.length/\ts.length=T.length+j/\Hid (St w2 wr k b F Si (lvn:Int) ei (ts++[ti]) (ps++[Pg.index p (lvn:Int)]) p/\Pg.insW p sn lvn Si ti=Pg.insW p sn lv S st)) (fun i _=>lv-(intOf i).toNat)
     case atStart=>exact⟨0,lv,S,_,T,P,st,by omega,by omega,rfl,hlen,rfl,HS.out.grow HB34.out,rfl⟩
     case round=>
      obtain⟨j,lvn,Si,ei,ts,ps,ti,hj,hlvn,rfl,hl1,hl2,HR⟩:=hrel
      have j0:(0:Int)<=(j:Int):=by omega
      by_cases hlt2:sn<lvn
      ·have j1:(j:Int)<(lv:Int)-(sn:Int):=by omega
       have HX:=ydB HR.out.1 hl1 (by omega) (by omega) (by omega);obtain⟨lm,rfl⟩:∃lm,lvn=lm+1:=⟨lvn-1,by omega⟩
       have e9:((lm+1:Nat):Int)-1=(lm:Int):=by omega
       rw[e9]at HX
       have e10:Hid (Pg.insW p sn lm (Si.take.store ti (Pg.index p ((lm+1:Nat):Int)) (Pg.enc X R 7 R R Si.takeN ((lm+1:Nat):Int))) Si.takeN=Pg.insW p sn lv S st):=by rw[Hid,<-yeC p sn lm Si ti (by omega)];exact HR.out.2
       go_wp2_with fail
       refine HX.mono ?_;rintro en w5 ⟨rfl,h5⟩;have H5:Hid _:=h5;clear h5 HX HR
       go_wp2_with fail
       exact⟨⟨j+1,lm,_,_,_,_,_,by omega,by omega,by go_num,by simp[hl1],by simp[hl2];omega,H5.out,e10.out⟩,by simp[intOf];omega⟩
      ·have hee:lvn=sn:=by omega
       subst hee
       have j1:¬(j:Int)<(lv:Int)-(lvn:Int):=by omega
       have hins:=HR.out.2;rw[yeB]at hins;have HX:=vN ⟨X,X,r,R,R,f⟩ HR.out.1 hl1 (by omega);simp only[Pg.En.val]at HX
       have hbx:wr.heap[w.heap.size]?=w3.heap[w.heap.size]?:=by
        have q1:=HR.out.1.but.block w.heap.size hlx fun hF=>by have:=zh.lt H.out hF;omega
        have q2:=HS.out.but.block w.heap.size hlx fun hF=>by have:=zh.lt H.out hF;omega
        exact q1.trans q2.symm
       have b2:=(N hbx).trans HZ.out.2.1;have b3:=(N hbx).trans HZ.out.2.2;have HIN:Hid _:=hins;clear hins hbx z1 z2 z3 k0 k1 k2 HR
       go_wp2_with fail
       refine HX.mono ?_;rintro en w6 ⟨rfl,h6⟩;obtain⟨F6,f1,f2,f3⟩:=h6.leaves
       have fin:Hid (∃F',zh w6 b ((Pg.insW p lvn lv S st).1.store (Pg.insW p lvn lv S st).2 (Pg.index p (lvn:Int)) (Pg.enc X X r R R f (lvn:Int))) F'/\But F w w6/\∀k,F' k->F k\/w.heap.size<=k):=by
        rw[Hid,<-HIN.out];exact⟨F6,f1,(But.yhf HB2.out).trans f2 fun _ _ h=>h,fun j hj=>(f3 j hj).imp id fun h=>by have:=HB2.out.size;omega⟩
       clear h6 f1 f2 f3 HX HIN
       go_wp2_with fail
       go_ret
       exact⟨rfl,fin.out⟩
  ·have e1:Pg.insC S t ⟨p,s,f,r⟩=xM S t p:=by rw[Pg.insC,if_neg (by simp[hc]),if_pos hz]
   have e2:Pg.insS S t ⟨p,s,f,r⟩=S:=by rw[Pg.insS,e1,if_neg hz]
   rw[e1,e2];clear e1 e2 h;generalize xM S t p=cc at*
   have hcb:(cc !=0)=X:=by simp[hz]
   clear hz hc
   go_enter Tryz.func133,Tryz.ntmps133
   go_wp2_with fail
   rw[<-hW1];clear hW1;refine(HC _).mono ?_;rintro en w2 ⟨rfl,hb2⟩;have y0:=cell_later hb2 x0;have HB2:Hid (Below w.heap.size w w2):=zT HB1.out hb2;clear hb2
   go_wp2_with fail
   refine(HW _ HB2.out).mono ?_;rintro en w3 ⟨k,rfl,_,hb3⟩;have HB3:Hid (Below w.heap.size w w3):=zT HB2.out hb3;clear hb3
   go_wp2_with fail
   go_ret
   exact⟨rfl,fin0.out _ HB3.out⟩
 ·have e1:Pg.insC S t ⟨p,s,f,r⟩=Pg.Mp.code ⟨p,s,f,r⟩:=by rw[Pg.insC,if_pos hc]
  have e2:Pg.insS S t ⟨p,s,f,r⟩=S:=by rw[Pg.insS,e1,if_neg hc]
  rw[e1,e2];clear e1 e2 h HW;generalize Pg.Mp.code ⟨p,s,f,r⟩=cc at*
  have hcb:(cc !=0)=X:=by simp[hc]
  clear hc
  go_enter Tryz.func133,Tryz.ntmps133
  go_wp2_with fail
  rw[<-hW1];clear hW1;refine(HC _).mono ?_;rintro en w2 ⟨rfl,hb2⟩;have HB2:Hid (Below w.heap.size w w2):=zT HB1.out hb2;clear hb2
  go_wp2_with fail
  go_ret
  exact⟨rfl,fin0.out _ HB2.out⟩
theorem yep {S:Pg.Fs} {t:Int} (ht:S.has t=X):(Pg.yho S t=X ↔ ∀j:Nat,j<8->S.load t (j:Int)=0):=by
 unfold Pg.yho;simp only[List.all_eq_true,List.mem_range,beq_iff_eq];refine forall_congr' fun j=>forall_congr' fun hj=> ?_
 have:S.at' t (j:Int)=X:=by simp[Pg.Fs.at',ht];omega
 simp[Pg.Fs.load,this]
theorem vf {w0 w:l} {k b:Nat} {F0:Nat->Prop} {S:Pg.Fs} {lv:Int} {e:Pg.En} {ts ps:List Int} {p t:Int} (h:St w0 w k b F0 S lv e (ts++[t]) ps p) (hl:ts.length<4000) (ht:S.has t=X):
 Calls A 136 #[y (C ⟨k,0,I⟩)] w fun en w'=>en=D (E (Pg.yho S t))/\Below w.heap.size w w':=by
 have HS:Hid _:=h;have HE:Hid _:=yep ht
 have hlen:(ts++[t]).length=ts.length+1:=by simp
 clear h ht;generalize Pg.yho S t=em at*
 go_enter Tryz.func136,Tryz.ntmps136
 go_wp2_with fail
 go_loopw [6] (fun i wr=>∃j:Nat,j<=8/\i=Q V j/\Hid (Below w.heap.size w wr/\∀m:Nat,m<j->S.load t (m:Int)=0)) (fun i _=>8-(intOf i).toNat)
 case atStart=>exact⟨0,by omega,rfl,zR _,fun m hm=>by omega⟩
 case round=>
  obtain⟨j,hj,rfl,HR⟩:=hrel
  have i0:(0:Int)<=(j:Int):=by omega
  have hS:=HS.out.grow HR.out.1;obtain⟨B,v1,v2,F,hM,hF,hB,h1,h2,hBB,hm⟩:=hS.body;obtain⟨g1,cap1,rfl,hc,_⟩:=jD hM.o1;have k0:=hM.c0;have k8:=hM.c8;have HEnd:=fun m=>ybb (hS.grow (below_drewN (zR wr) m)) (by rw[hlen];omega)
  have e1:(((ts++[t]).length:Nat):Int)-1=(ts.length:Int):=by rw[hlen];omega
  rw[e1]at HEnd;have HLo:=fun m=>jr t (j:Int) (wr.drewN m) (hF.keep (G:=fun _=>False) (But.yhf (below_drewN (zR wr) m)) fun _ _=>id);clear hM hB h1 h2 hS hF e1 hBB hm
  have i2:(0:Int)<=(ts.length:Int):=by omega
  have i3:(ts.length:Int)<(ts.length:Int)+1:=by omega
  have HX:Hid (S.load t (j:Int)=0->∀m:Nat,m<j+1->S.load t (m:Int)=0):=fun hz m hm=>by
   by_cases e:m=j
   ·rw[e];exact hz
   ·exact HR.out.2 m (by omega)
  by_cases hlt:j<8
  ·have i1:(j:Int)<8:=by omega
   have HJ:Hid _:=hlt;have fin:Hid (∀nq,Below w.heap.size w (wr.drewN nq)):=fun nq=>zT HR.out.1 (below_drewN (zR _) nq);generalize hx:S.load t (j:Int)=x at*;have HXX:Hid _:=hx;clear hx;generalize S.at' t (j:Int)=at' at*;generalize ts.length=n at*
   by_cases hz:x=0
   ·have HZ:Hid _:=HX.out hz
    have hzb:(x !=0)=R:=by simp[hz]
    clear hz HX
    go_wp2_with fail
    go_quiet (first
     | (go_at_call 170;exact Calls.quiet_of_same (HEnd _))
     | (go_at_call 171;exact Calls.quiet_of_same (HLo _)))
    go_wp2_with fail
    exact⟨⟨j+1,by omega,by go_num,fin.out _,HZ.out⟩,by simp[intOf];omega⟩
   ·have HZ:Hid _:=hz
    have hzb:(x !=0)=X:=by simp[hz]
    clear hz HX
    go_wp2_with fail
    go_quiet (first
     | (go_at_call 170;exact Calls.quiet_of_same (HEnd _))
     | (go_at_call 171;exact Calls.quiet_of_same (HLo _)))
    go_wp2_with fail
    go_ret
    refine⟨xx ?_,fin.out _⟩;cases em
    ·rfl
    ·exact absurd (HXX.out▸(HE.out.1 rfl j HJ.out)) HZ.out
  ·have i1:¬(j:Int)<8:=by omega
   have e8:j=8:=by omega
   subst e8;clear HEnd HLo k0 k8
   go_wp2_with fail
   go_ret
   exact⟨xx (HE.out.2 fun m hm=>HR.out.2 m hm).symm,HR.out.1⟩
theorem jA (ts:List Int) (t:Int):xA (ts++[t])=xA ts++[Q V t]:=by simp[xA]
theorem Mk.pop {w:l} {B k b:Nat} {lv:Int} {e:Pg.En} {g1 g2 n c1 c2:Nat} {T P:List Int} {p t q:Int} (h:Mk w B k b lv e (J (C ⟨g1,0,I⟩) (n+1) c1) (J (C ⟨g2,0,I⟩) (n+1) c2) (T++[t]) (P++[q]) p) (hT:T.length=n) (hP:P.length=n):
 Mk ((w.setCell ⟨k,8,I⟩ (J (C ⟨g1,0,I⟩) n c1)).setCell ⟨k,9,I⟩ (J (C ⟨g2,0,I⟩) n c2)) B k b lv e (J (C ⟨g1,0,I⟩) n c1) (J (C ⟨g2,0,I⟩) n c2) T P p:=by
 have hb:But (fun j=>j=k) w ((w.setCell ⟨k,8,I⟩ (J (C ⟨g1,0,I⟩) n c1)).setCell ⟨k,9,I⟩ (J (C ⟨g2,0,I⟩) n c2)):=
  ((But.refl (fun j=>j=k) w).setCell (a:=⟨k,8,I⟩) (.inr rfl) _).setCell (a:=⟨k,9,I⟩) (.inr rfl) _
 have o1:=h.o1;have o2:=h.o2;rw[O,Z,hT,jA]at o1;rw[O,Z,hP,jA]at o2;have p1:w.ownsRow B 3 1 (J (C ⟨g1,0,I⟩) n c1) n (xA T):=ownsRow_pop (by simp[xA,hT]) o1;have p2:w.ownsRow B 3 1 (J (C ⟨g2,0,I⟩) n c2) n (xA P):=ownsRow_pop (by simp[xA,hP]) o2;have n1:(L (C ⟨g1,0,I⟩) n c1).ownBlock≠C k:=h.n1;have n2:(L (C ⟨g2,0,I⟩) n c2).ownBlock≠C k:=h.n2;refine⟨?_,?_,?_,?_,?_,?_,?_,?_,?_,?_,?_,fun o=> ?_,?_,?_,h.ne,n1,n2,h.hi⟩
 iterate 12 (focus (simp[go_sem,h.c0,h.c1,h.c2,h.c3,h.c4,h.c5,h.c6,h.c7,h.c8,h.c9,h.c10,h.fz]))
 ·rw[hT]
  exact zc p1 hb fun j hj e=>n1 (e▸hj)
 ·rw[hP]
  exact zc p2 hb fun j hj e=>n2 (e▸hj)
theorem yc8 (lv:Int):Pg.enc R R 0 R R 0 lv=0:=by
 unfold Pg.enc;split
 ·simp[Pg.yiq]
 ·rfl
theorem yfX {w0 w:l} {k b:Nat} {F0:Nat->Prop} {S:Pg.Fs} {lv:Int} {e:Pg.En} {ts ps:List Int} {p t q t' q':Int} (h:St w0 w k b F0 S lv e (ts++[t']++[t]) (ps++[q']++[q]) p) (hlen:ts.length=ps.length) (hl:ts.length<4000) (hv0:0<=lv) (hv1:lv<100):
 Calls A 137 #[y (C ⟨k,0,I⟩)] w fun en w'=>en=D (Q V t)/\St w0 w' k b F0 (S.store t' q' 0) (lv+1) Pg.En.zero (ts++[t']) (ps++[q']) p:=by
 have hT:(ts++[t']).length=ts.length+1:=by simp
 have hP:(ps++[q']).length=ts.length+1:=by simp[hlen]
 have HP:∀w1 e1,St w0 w1 k b F0 S (lv+1) e1 (ts++[t']) (ps++[q']) p->Calls A 134 #[y (C ⟨k,0,I⟩),.agg #[E R,E R,Q V 0,E R,E R,Q V 0]] w1 fun en w'=>en=D (kS #[])/\St w0 w' k b F0 (S.store t' q' 0) (lv+1) Pg.En.zero (ts++[t']) (ps++[q']) p:=fun w1 e1 h1=>by
  have:=vN Pg.En.zero h1 hlen (by omega);simp only[Pg.En.zero,Pg.En.val,yc8]at this;exact this
 have HEnd:=ybb h (by rw[O,Z,hT];omega)
 have e1:(((ts++[t']++[t]).length:Nat):Int)-1=((ts.length+1:Nat):Int):=by rw[O,Z,hT];omega
 rw[e1]at HEnd;obtain⟨B,v1,v2,F,hM,hF,hB,h1,h2,hBB,hm⟩:=h.body;obtain⟨g1,cap1,rfl,hc1,hcap1⟩:=jD hM.o1;obtain⟨g2,cap2,rfl,hc2,hcap2⟩:=jD hM.o2;rw[hT]at hc1 hcap1;rw[hP]at hc2 hcap2
 have hM2:Mk w B k b lv e (J (C ⟨g1,0,I⟩) (ts.length+1+1) cap1) (J (C ⟨g2,0,I⟩) (ts.length+1+1) cap2) (ts++[t']++[t]) (ps++[q']++[q]) p:=by have:=hM;rw[hT,hP]at this;exact this
 have h2':∀j,F j->¬mkF k (J (C ⟨g1,0,I⟩) (ts.length+1+1) cap1) (J (C ⟨g2,0,I⟩) (ts.length+1+1) cap2) j:=by have:=h2;rw[hT,hP]at this;exact this
 have k1:=hM2.c1;have k8:=hM2.c8;have k9:=hM2.c9;have kf:=hM2.fz;have HM:Hid _:=hM2;have HF:Hid (zh w b S F):=hF;have HBt:Hid _:=hB;have H1:Hid _:=h1;have H2:Hid _:=h2'
 have hm':∀j,mkF k (J (C ⟨g1,0,I⟩) (ts.length+1+1) cap1) (J (C ⟨g2,0,I⟩) (ts.length+1+1) cap2) j->F0 j\/w0.heap.size<=j:=by have:=hm;rw[hT,hP]at this;exact this
 have Hm:Hid _:=hm';have HBB:Hid _:=hBB;clear hM hF hB h1 h2 h hM2 h2' e1 hlen hm hm' hBB;generalize ts++[t']=T at*;generalize ps++[q']=P at*;generalize S.store t' q' 0=S' at*;generalize ts.length=m at*
 have i0:(0:Int)<=((m+1:Nat):Int):=by omega
 have i1:((m+1:Nat):Int)<((m+1+1:Nat):Int):=by omega
 have i2:((m+1:Nat):Int)<=(cap1:Int):=by omega
 have i3:((m+1:Nat):Int)<=(cap2:Int):=by omega
 generalize hn:m+1=n at*;have HN:Hid _:=hn;clear hn
 go_enter Tryz.func137,Tryz.ntmps137
 go_wp2_with fail
 refine HEnd.mono ?_;rintro en w1 ⟨rfl,rfl⟩
 go_wp2_with fail
 go_region
 have M2:Hid _:=(HM.out.ylw (lv+1)).pop hT hP
 have bt:Hid (But (fun j=>j=k) w1 (((w1.setCell ⟨k,1,I⟩ (Q V (lv+1))).setCell ⟨k,8,I⟩ (J (C ⟨g1,0,I⟩) n cap1)).setCell ⟨k,9,I⟩ (J (C ⟨g2,0,I⟩) n cap2))):=
  (((But.refl (fun j=>j=k) w1).setCell (a:=⟨k,1,I⟩) (.inr rfl) _).setCell (a:=⟨k,8,I⟩) (.inr rfl) _).setCell (a:=⟨k,9,I⟩) (.inr rfl) _
 have S2:Hid (St w0 (((w1.setCell ⟨k,1,I⟩ (Q V (lv+1))).setCell ⟨k,8,I⟩ (J (C ⟨g1,0,I⟩) n cap1)).setCell ⟨k,9,I⟩ (J (C ⟨g2,0,I⟩) n cap2)) k b F0 S (lv+1) e T P p):=
  St.step HM.out HF.out HBt.out H1.out H2.out HBB.out Hm.out M2.out bt.out (fun j hj=> .inl hj) (fun j hj=> .inl hj)
 have S3:Hid (St w0 ((((w1.setCell ⟨k,1,I⟩ (Q V (lv+1))).setCell ⟨k,8,I⟩ (J (C ⟨g1,0,I⟩) n cap1)).setCell ⟨k,9,I⟩ (J (C ⟨g2,0,I⟩) n cap2)).drew) k b F0 S (lv+1) e T P p):=S2.out.grow (zR _).drew;have HP3:=HP _ e S3.out;have HP3b:=HP _ e S2.out;clear HP HEnd k1 k8 k9 kf hc1 hc2
 go_wp2_with fail
 first
  | refine HP3.mono ?_
  | refine HP3b.mono ?_
 rintro en w2 ⟨rfl,hS⟩;have HS:Hid _:=hS;clear hS HP3 HP3b
 go_wp2_with fail
 go_ret
 exact⟨rfl,HS.out⟩
end Go.Proofs.YtdphiompijbelaaGreat
