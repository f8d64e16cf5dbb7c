import Derived.Test.YtdphiompijbelaaGreatDoorDkX
import Derived.Test.YtdphiompijbelaaGreatDoorKC
set_option linter.all false
set_option maxRecDepth 100000
open Go.Proofs.Tryz renaming prog->E
open Go.Ending renaming returned->M
open Go renaming World->Z,cell_regrown->O,Calls->z,Value->kI
open Go.Value renaming pointer->Q,slice->U,int->H
open Go.World renaming block_lt_of_cell?->V,frozen?_of_block->y
open Go.RowKit renaming Hid->P
open Bool renaming false->J,true->Y
open Option renaming none->I,some->R
namespace Go.Proofs.YtdphiompijbelaaGreatDoor
open Go.RowKit
section
open Go.Sort
attribute [local go_sem] Loose.gent
structure Crk (w:Z) (b bt bk:Nat) (Ft:Nat->Prop) (root:Int) (C:Pg.Cr):Prop where
 c0:w.cell? ⟨b,0,I⟩=R (Q (R ⟨bt,0,I⟩))
 c1:w.cell? ⟨b,1,I⟩=R (Q (R ⟨bk,0,I⟩))
 tb:jy w bt 0 C.L Ft
 wk:zI w bk 0 root C.K
 nb:¬Ft b
 nk:¬Ft bk
 ne:b≠bk
 ok:C.K.Ok
def crF (b bk:Nat) (Ft:Nat->Prop):Nat->Prop:=fun j=>j=b\/j=bk\/Ft j
namespace Crk
variable {w w':Z} {b bt bk:Nat} {Ft Ft' G:Nat->Prop} {root:Int} {C:Pg.Cr} {K':Pg.Wk} {L':List Pg.Ln}
theorem lb (h:Crk w b bt bk Ft root C):b<w.heap.size:=V _ _ h.c0
theorem lt (h:Crk w b bt bk Ft root C) {k:Nat} (hk:crF b bk Ft k):k<w.heap.size:=by
 rcases hk with rfl|rfl|hk
 ·exact h.lb
 ·exact h.wk.lb
 ·exact h.tb.lt hk
theorem keep (h:Crk w b bt bk Ft root C) (hb:But G w w') (hG:∀k,crF b bk Ft k->¬G k):Crk w' b bt bk Ft root C:=by
 have n:=hG b (.inl rfl);exact⟨(hb.cell (a:=⟨b,0,I⟩) h.lb n).trans h.c0,(hb.cell (a:=⟨b,1,I⟩) h.lb n).trans h.c1,h.tb.keep hb fun k hk=>hG k (.inr (.inr hk)),h.wk.keep hb (hG bk (.inr (.inl rfl))),h.nb,h.nk,h.ne,h.ok⟩
theorem grow (h:Crk w b bt bk Ft root C) (hb:Below w.heap.size w w'):Crk w' b bt bk Ft root C:=h.keep (G:=fun _=>False) (But.yhl hb) (fun _ _=>id)
theorem yl1 (h:Crk w b bt bk Ft root C) (hk:zI w' bk 0 root K') (ok:K'.Ok) (hb:But (fun j=>j=bk) w w'):Crk w' b bt bk Ft root ⟨C.L,K'⟩:=
 ⟨(hb.cell (a:=⟨b,0,I⟩) h.lb h.ne).trans h.c0,(hb.cell (a:=⟨b,1,I⟩) h.lb h.ne).trans h.c1,h.tb.keep hb fun k hk e=>h.nk (e▸hk),hk,h.nb,h.nk,h.ne,ok⟩
theorem stepT (h:Crk w b bt bk Ft root C) (ht:jy w' bt 0 L' Ft') (hb:But Ft w w') (hF:∀k,Ft' k->Ft k\/w.heap.size<=k):Crk w' b bt bk Ft' root ⟨L',C.K⟩:=by
 have hl:=h.lb;have hlk:=h.wk.lb;exact⟨(hb.cell (a:=⟨b,0,I⟩) h.lb h.nb).trans h.c0,(hb.cell (a:=⟨b,1,I⟩) h.lb h.nb).trans h.c1,ht,h.wk.keep hb h.nk,fun hk=>(hF b hk).elim h.nb (fun h=>by omega),fun hk=>(hF bk hk).elim h.nk (fun h=>by omega),h.ne,h.ok⟩
theorem yl7 {Ff:Nat->Prop} (h:Crk w b bt bk Ft root C) (hk:zI w' bk 0 root K') (ok:K'.Ok) (hb:But (fun j=>j=bk\/Ff j) w w') (hne:∀j,crF b bk Ft j->¬Ff j):Crk w' b bt bk Ft root ⟨C.L,K'⟩:=by
 have n:¬(b=bk\/Ff b):=fun e=>e.elim h.ne (hne b (.inl rfl));exact⟨(hb.cell (a:=⟨b,0,I⟩) h.lb n).trans h.c0,(hb.cell (a:=⟨b,1,I⟩) h.lb n).trans h.c1,h.tb.keep hb fun k hk e=>e.elim (fun e=>h.nk (e▸hk)) (hne k (.inr (.inr hk))),hk,h.nb,h.nk,h.ne,ok⟩
end Crk
structure xY (w:Z) (b:Nat) (root:Int) (C:Pg.Cr) (F:Nat->Prop):Prop where
 ex:∃bt bk Ft,Crk w b bt bk Ft root C/\F=crF b bk Ft
section
variable {w w':Z} {b:Nat} {root:Int} {C:Pg.Cr} {F G:Nat->Prop}
theorem xY.lt (h:xY w b root C F) {k:Nat} (hk:F k):k<w.heap.size:=by
 obtain⟨bt,bk,Ft,h,rfl⟩:=h;exact h.lt hk
theorem xY.keep (h:xY w b root C F) (hb:But G w w') (hF:∀k,F k->¬G k):xY w' b root C F:=by
 obtain⟨bt,bk,Ft,h,rfl⟩:=h;exact⟨bt,bk,Ft,h.keep hb hF,rfl⟩
theorem xY.grow (h:xY w b root C F) (hb:Below w.heap.size w w'):xY w' b root C F:=h.keep (G:=fun _=>False) (But.yhl hb) (fun _ _=>id)
end
theorem ydn {w:Z} {r:Nat} {v0 v1 v2:kI} {t:TypeId} (h:w.heap[r]?=R (.cells #[v0,v1,v2] t (0,0))):
 (w.cell? ⟨r,0,I⟩=R v0/\w.cell? ⟨r,1,I⟩=R v1/\w.cell? ⟨r,2,I⟩=R v2)/\∀i,w.frozen? ⟨r,i,I⟩=J:=
 ⟨by simp[World.cell?,h],fun i=>by simp[World.frozen?,h]⟩
theorem qE {F:Nat->Prop} {w w1:Z} (h:But F w w1) (r:Nat) (hr:w.heap.size<=r\/F r) (x0 x1 x2:kI):But F w (((w1.setCell ⟨r,0,I⟩ x0).setCell ⟨r,1,I⟩ x1).setCell ⟨r,2,I⟩ x2):=
 ((h.setCell (a:=⟨r,0,I⟩) hr x0).setCell (a:=⟨r,1,I⟩) hr x1).setCell (a:=⟨r,2,I⟩) hr x2
theorem xO {w w1:Z} (h:Below w.heap.size w w1) (r:Nat) (hr:w.heap.size<=r) (x0 x1 x2:kI):Below w.heap.size w (((w1.setCell ⟨r,0,I⟩ x0).setCell ⟨r,1,I⟩ x1).setCell ⟨r,2,I⟩ x2):=
 ((h.setCell (p:=⟨r,0,I⟩) hr x0).setCell (p:=⟨r,1,I⟩) hr x1).setCell (p:=⟨r,2,I⟩) hr x2
theorem ydJ (root:Int) (w:Z):
 z E 138 #[H .i64 root] w fun e w'=>∃b F,e=M (Q (R ⟨b,0,I⟩))/\xY w' b root Pg.Cr.new F/\Below w.heap.size w w'/\∀k,F k->w.heap.size<=k:=by
 go_enter Tryz.func138,Tryz.ntmps138
 go_wp2_with fail
 refine(yer _).mono ?_;rintro e w1 ⟨bt,Ft,rfl,ht,hb1,hF⟩;have HT:P _:=ht;have HB1:P _:=hb1;have HF:P _:=hF;clear ht hb1 hF
 go_wp2_with fail
 refine(yeW root _).mono ?_;rintro e w2 ⟨bk,rfl,hk,hb2,hbk⟩;have HK:P _:=hk;have HB2:P _:=hb2;have s1:=HB1.out.size;have s2:=hb2.size;clear hk hb2
 go_wp2_with fail
 go_ret
 have hb3:=zA (zR w2) (.cells #[Q (R ⟨bt,0,I⟩),Q (R ⟨bk,0,I⟩)] 207);have hkl:=HK.out.lb
 have n1:¬Ft w2.heap.size:=fun hj=>by have:=HT.out.lt hj;omega
 have n2:¬Ft bk:=fun hj=>by have:=HT.out.lt hj;omega
 refine⟨_,_,rfl,⟨bt,bk,Ft,⟨?_,?_,(HT.out.grow HB2.out).grow hb3,HK.out.grow hb3,n1,n2,by omega,Pg.Wk.yjl⟩,rfl⟩,zT (zT HB1.out HB2.out) hb3,fun k hk=> ?_⟩
 ·simp[go_sem]
 ·simp[go_sem]
 ·rcases hk with rfl|rfl|hk
  ·omega
  ·omega
  ·exact HF.out k hk
section
variable {b:Nat} {root:Int} {C:Pg.Cr} {F:Nat->Prop}
theorem qe (w:Z) (h:xY w b root C F):
 z E 212 #[Q (R ⟨b,0,I⟩)] w fun e w'=>e=M (.bool C.K.on)/\w'=w:=by
 obtain⟨bt,bk,Ft,h,rfl⟩:=h;have c1:=h.c1;have HO:=yfz w h.wk;clear h
 go_enter Tryz.func212,Tryz.ntmps212
 go_wp2_with fail
 refine HO.mono ?_;rintro e w1 ⟨rfl,hw⟩;subst w1
 go_wp2_with fail
 go_ret
 exact⟨rfl,rfl⟩
theorem ycX (m:Pg.Mp) (hm:Pg.fits m.p) (w:Z) (h:xY w b root C F):
 z E 229 #[Q (R ⟨b,0,I⟩),m.val] w fun e w'=>e=M (.tuple #[])/\∃F',xY w' b root (C.told root m) F'/\But F w w'/\∀k,F' k->F k\/w.heap.size<=k:=by
 obtain⟨bt,bk,Ft,h,rfl⟩:=h;obtain⟨W,hW⟩:∃W,W=w.alloc (.cells #[H .i64 m.p,H .i64 m.s,H .i64 m.f,H .i64 m.r] 76):=⟨_,rfl⟩
 have hB:Below w.heap.size w W:=by rw[hW];exact zA (zR _) _
 have k1:ybS W w.heap.size 0 m:=by rw[hW];exact⟨by simp[go_sem],by simp[go_sem],by simp[go_sem],by simp[go_sem]⟩
 have HW:P _:=h.grow hB;have HB:P _:=hB;have HD:=fun w' (ht:jy w' bt 0 C.L Ft)=>yaC m hm w' ht;obtain⟨x0,x1,x2,x3⟩:=k1;have g0:=O x0;have g1:=O x1;have g2:=O x2;have g3:=O x3;have g4:=O HW.out.c0;simp only[Nat.zero_add]at g0 g1 g2 g3;clear h hB x0 x1 x2 x3;obtain⟨L,K⟩:=C;unfold Pg.Cr.told;simp only at HD ⊢;generalize Pg.yjd L m=L' at*;obtain⟨mp,ms,mf,mr⟩:=m;simp only[Pg.Mp.val]at hW g0 g1 g2 g3 HD ⊢
 go_enter Tryz.func229,Tryz.ntmps229
 go_wp2_with fail
 rw[<-hW];clear hW;refine Loose.yhn 5 (by kernel_rfl) (by kernel_rfl) ?_;simp only[List.take_succ_cons,List.take_zero,List.drop_succ_cons,List.drop_zero]
 repeat (
  refine Loose.zS (fun k hk=> ?_)
  go_simp
  (refine hk _ ?_;clear hk k))
 refine Loose.yho ?_;intro w3 hb3;have H3:P _:=HW.out.grow hb3;have HB3:P (Below w.heap.size w w3):=zT HB.out hb3;clear hb3 g0 g1 g2 g3 g4 HW HB
 go_wp2_with fail
 refine(HD _ H3.out.tb).mono ?_;rintro e w4 ⟨rfl,Ft',ht,hc,hF⟩;have H4:P _:=H3.out.stepT ht hc.but hF;have HB4:P (But (crF b bk Ft) w w4):=(But.yhl HB3.out).trans hc.but (fun _ _ h=> .inr (.inr h))
 have HF4:P (∀k,crF b bk Ft' k->crF b bk Ft k\/w.heap.size<=k):=fun k hk=>by
  have hs:=HB3.out.size;rcases hk with hk|hk|hk
  ·exact .inl (.inl hk)
  ·exact .inl (.inr (.inl hk))
  ·exact(hF k hk).imp (fun h=> .inr (.inr h)) (fun h=>by omega)
 have c1:=H4.out.c1;clear ht hc hF HD H3 HB3
 go_wp2_with fail
 refine(jG _ H4.out.wk).mono ?_;rintro e w5 ⟨rfl,hk5,hc5⟩;have H5:P _:=H4.out.yl1 hk5 (H4.out.ok.again root) hc5.but;have HB5:P (But (crF b bk Ft) w w5):=HB4.out.trans hc5.but (fun _ _ h=> .inr (.inl h));clear hk5 hc5 H4 HB4 c1
 go_wp2_with fail
 go_end0
 exact⟨rfl,_,⟨_,_,_,H5.out,rfl⟩,HB5.out,HF4.out⟩
theorem jx (l:Pg.Ln) (q k:Int) (u:Bool) (w:Z):
 z E 223 #[l.val,.agg #[H .i64 q,H .i64 k,.bool u]] w fun e w'=>e=M (.bool (l.wants k u))/\Below w.heap.size w w':=by
 obtain⟨⟨mp,ms,mf,mr⟩,d⟩:=l;have HM:=fun w=>yaV mr q k u w;simp only[Pg.Ln.val,Pg.Ln.wants];cases hk:(k==1)
 ·go_enter Tryz.func223,Tryz.ntmps223
  go_wp2_with fail
  go_ret
  exact⟨rfl,zA (zA (zR w) _) _⟩
 ·cases d
  ·generalize Pg.may mr k u=x at*
   go_enter Tryz.func223,Tryz.ntmps223
   go_wp2_with fail
   refine(HM _).mono ?_;rintro e w1 ⟨rfl,hb1⟩;have HB:P (Below w.heap.size w w1):=zT (zA (zA (zR w) _) _) hb1;clear hb1
   go_wp2_with fail
   go_ret
   exact⟨rfl,HB.out⟩
  ·go_enter Tryz.func223,Tryz.ntmps223
   go_wp2_with fail
   go_ret
   exact⟨rfl,zA (zA (zR w) _) _⟩
end
end
section
open Go.Sort
structure Dsd where
 bm:Nat
 FM:Nat->Prop
 gc:Nat
 cc:Nat
 cb:Nat->Nat
 cF:Nat->Nat->Prop
 bs:Nat
 ag:Option Addr
 cg:Nat
def Dsd.own (D:Dsd) (b n:Nat) (G:List Int):Nat->Nat->Prop
 | 0,x=>x=b
 | 1,x=>D.FM x
 | 2,x=>x=D.gc
 | 3,x=>x=D.bs
 | 4,x=>G≠[]/\D.ag=R ⟨x,0,I⟩
 | k+5,x=>k<n/\D.cF k x
structure Dsk (w:Z) (b:Nat) (D:Dsd) (X:Pg.Spc):Prop where
 c0:w.cell? ⟨b,0,I⟩=R (Q (R ⟨D.bm,0,I⟩))
 c1:w.cell? ⟨b,1,I⟩=R (H .i64 0)
 c2:w.cell? ⟨b,2,I⟩=R (U (R ⟨D.gc,0,I⟩) X.C.length D.cc)
 c3:w.cell? ⟨b,3,I⟩=R (Q (R ⟨D.bs,0,I⟩))
 c4:w.cell? ⟨b,4,I⟩=R (U D.ag X.G.length D.cg)
 fb:∀p,w.frozen? ⟨b,p,I⟩=J
 mem:zh w D.bm X.S D.FM
 row:∀k,k<X.C.length->w.cell? ⟨D.gc,k,I⟩=R (Q (R ⟨D.cb k,0,I⟩))
 core:∀k,k<X.C.length->xY w (D.cb k) 0 (X.C.getD k Pg.Cr.new) (D.cF k)
 tl:jm w D.bs X.T (fun k=>X.W.getD k J)
 gone:zl w D.ag X.G
 part:∀i j x,D.own b X.C.length X.G i x->D.own b X.C.length X.G j x->i=j
 len:X.W.length=X.C.length
 pos:1<=X.C.length
 le:X.C.length<=4
 told:Pg.fits X.T.p
 few:X.G.length<=4680
def dsF (D:Dsd) (b n:Nat) (G:List Int):Nat->Prop:=fun x=>∃i,D.own b n G i x
namespace Dsk
variable {w w':Z} {b:Nat} {D D':Dsd} {X:Pg.Spc}
theorem lb (h:Dsk w b D X):b<w.heap.size:=V _ _ h.c0
theorem lt (h:Dsk w b D X) {i x:Nat} (hx:D.own b X.C.length X.G i x):x<w.heap.size:=by
 match i with
 | 0=>have hx:x=b:=hx;rw[hx];exact h.lb
 | 1=>exact h.mem.lt hx
 | 2=>have hx:x=D.gc:=hx;rw[hx];exact V _ _ (h.row 0 h.pos)
 | 3=>have hx:x=D.bs:=hx;rw[hx];exact h.tl.lb
 | 4=>
   obtain⟨hG,ha⟩:=hx;have:0<X.G.length:=List.length_pos_iff.2 hG;obtain⟨g,e,hl,_⟩:=h.gone 0 this;rw[ha]at e;injection e with e;injection e with e;rw[e];exact hl
 | k+5=>exact(h.core k hx.1).lt hx.2
theorem others (h:Dsk w b D X) {F:Nat->Prop} (hb:But F w w'):
 ((∀x,D.own b X.C.length X.G 0 x->¬F x)->(∀p,w'.cell? ⟨b,p,I⟩=w.cell? ⟨b,p,I⟩)/\∀p,w'.frozen? ⟨b,p,I⟩=J)/\
 ((∀x,D.own b X.C.length X.G 1 x->¬F x)->zh w' D.bm X.S D.FM)/\
 ((∀x,D.own b X.C.length X.G 2 x->¬F x)->∀k,k<X.C.length->w'.cell? ⟨D.gc,k,I⟩=R (Q (R ⟨D.cb k,0,I⟩)))/\
 ((∀x,D.own b X.C.length X.G 3 x->¬F x)->jm w' D.bs X.T (fun k=>X.W.getD k J))/\
 ((∀x,D.own b X.C.length X.G 4 x->¬F x)->zl w' D.ag X.G)/\
 (∀k,k<X.C.length->(∀x,D.own b X.C.length X.G (k+5) x->¬F x)->xY w' (D.cb k) 0 (X.C.getD k Pg.Cr.new) (D.cF k)):=by
 refine⟨fun hF=> ?_,fun hF=>h.mem.keep hb hF,fun hF k hk=> ?_,fun hF=>h.tl.keep hb (hF _ rfl),fun hF=> ?_,fun k hk hF=> ?_⟩
 ·have kb:=hb.block b h.lb (hF b rfl)
  exact⟨fun p=>World.cell?_of_block (a:=⟨b,p,I⟩) kb,fun p=>(y (a:=⟨b,p,I⟩) kb).trans (h.fb p)⟩
 ·exact(hb.cell (a:=⟨D.gc,k,I⟩) (V _ _ (h.row k hk)) (hF _ rfl)).trans (h.row k hk)
 ·intro j hj
  obtain⟨g,e,hl,hc⟩:=h.gone j hj;refine⟨g,e,Nat.lt_of_lt_of_le hl hb.size,(hb.cell (a:=⟨g,j,I⟩) hl (hF g ⟨?_,e⟩)).trans hc⟩;intro e0;rw[e0]at hj;simp at hj
 ·exact(h.core k hk).keep hb fun x hx=>hF x ⟨hk,hx⟩
theorem keep (h:Dsk w b D X) {F:Nat->Prop} (hb:But F w w') (hF:∀x,dsF D b X.C.length X.G x->¬F x):Dsk w' b D X:=by
 obtain⟨o0,o1,o2,o3,o4,o5⟩:=h.others hb;have hF:∀i x,D.own b X.C.length X.G i x->¬F x:=fun i x hx=>hF x ⟨i,hx⟩;obtain⟨e0,f0⟩:=o0 (hF 0);exact⟨(e0 0).trans h.c0,(e0 1).trans h.c1,(e0 2).trans h.c2,(e0 3).trans h.c3,(e0 4).trans h.c4,f0,o1 (hF 1),o2 (hF 2),fun k hk=>o5 k hk (hF _),o3 (hF 3),o4 (hF 4),h.part,h.len,h.pos,h.le,h.told,h.few⟩
theorem grow (h:Dsk w b D X) (hb:Below w.heap.size w w'):Dsk w' b D X:=h.keep (F:=fun _=>False) (But.yhl hb) (fun _ _=>id)
theorem yk8 (h:Dsk w b D X) {G':List Int} (ho:∀i x,D'.own b X.C.length G' i x->D.own b X.C.length X.G i x\/w.heap.size<=x) (hn:∀i j x,w.heap.size<=x->D'.own b X.C.length G' i x->D'.own b X.C.length G' j x->i=j):∀i j x,D'.own b X.C.length G' i x->D'.own b X.C.length G' j x->i=j:=by
 intro i j x hi hj;rcases ho i x hi with h1|h1
 ·rcases ho j x hj with h2|h2
  ·exact h.part i j x h1 h2
  ·have:=h.lt h1
   omega
 ·exact hn i j x h1 hi hj
theorem part_one (h:Dsk w b D X) {l:Nat} {G':List Int} (ho:∀i,i≠l->∀x,D'.own b X.C.length G' i x->D.own b X.C.length X.G i x) (hl:∀x,D'.own b X.C.length G' l x->D.own b X.C.length X.G l x\/w.heap.size<=x):∀i j x,D'.own b X.C.length G' i x->D'.own b X.C.length G' j x->i=j:=by
 refine h.yk8 (fun i x hx=> ?_) (fun i j x hx hi hj=> ?_)
 ·by_cases e:i=l
  ·subst e
   exact hl x hx
  ·exact .inl (ho i e x hx)
 ·have key:∀i,D'.own b X.C.length G' i x->i=l:=fun i hi=>by
   by_cases e:i=l
   ·exact e
   ·have:=h.lt (ho i e x hi)
    omega
  rw[key i hi,key j hj]
theorem frames {S':Pg.Fs} {FM':Nat->Prop} (h:Dsk w b D X) (hm:zh w' D.bm S' FM') (hb:But D.FM w w') (hF:∀x,FM' x->D.FM x\/w.heap.size<=x):Dsk w' b {D with FM:=FM'} {X with S:=S'}:=by
 obtain⟨o0,o1,o2,o3,o4,o5⟩:=h.others hb;have hF':∀i,i≠1->∀x,D.own b X.C.length X.G i x->¬D.FM x:=fun i hi x hx hm=>hi (h.part i 1 x hx hm);obtain⟨e0,f0⟩:=o0 (hF' 0 (by decide));refine⟨(e0 0).trans h.c0,(e0 1).trans h.c1,(e0 2).trans h.c2,(e0 3).trans h.c3,(e0 4).trans h.c4,f0,hm,o2 (hF' 2 (by decide)),fun k hk=>o5 k hk (hF' _ (by omega)),o3 (hF' 3 (by decide)),o4 (hF' 4 (by decide)),h.part_one (l:=1) (fun i hi x hx=> ?_) (fun x hx=>hF x hx),h.len,h.pos,h.le,h.told,h.few⟩
 match i with
 | 0=>exact hx
 | 1=>exact absurd rfl hi
 | 2=>exact hx
 | 3=>exact hx
 | 4=>exact hx
 | k+5=>exact hx
theorem walked {k:Nat} {C':Pg.Cr} {S':Pg.Fs} {Fc FM':Nat->Prop} (h:Dsk w b D X) (hk:k<X.C.length) (hC:xY w' (D.cb k) 0 C' Fc) (hm:zh w' D.bm S' FM') (hb:But (fun j=>D.cF k j\/D.FM j) w w') (hF:∀x,Fc x->D.cF k x\/w.heap.size<=x) (hF2:∀x,FM' x->D.FM x\/w.heap.size<=x) (hne:∀x,Fc x->¬FM' x):
 Dsk w' b {D with cF:=fun j=>if j=k then Fc else D.cF j,FM:=FM'} {X with S:=S',C:=X.C.set k C'}:=by
 obtain⟨o0,o1,o2,o3,o4,o5⟩:=h.others hb;have hF':∀i,i≠k+5->i≠1->∀x,D.own b X.C.length X.G i x->¬(D.cF k x\/D.FM x):=fun i hi h1 x hx hm=>hm.elim (fun hm=>hi (h.part i (k+5) x hx ⟨hk,hm⟩)) (fun hm=>h1 (h.part i 1 x hx hm));obtain⟨e0,f0⟩:=o0 (hF' 0 (by omega) (by omega));have hl:(X.C.set k C').length=X.C.length:=List.length_set
 have old:∀i,i≠k+5->i≠1->∀x,({D with cF:=fun j=>if j=k then Fc else D.cF j,FM:=FM'}:Dsd).own b X.C.length X.G i x->D.own b X.C.length X.G i x:=fun i hi h1 x hx=>by
  match i with
  | 0=>exact hx
  | 1=>exact absurd rfl h1
  | 2=>exact hx
  | 3=>exact hx
  | 4=>exact hx
  | j+5=>
    obtain⟨a1,a2⟩:=hx;simp only at a2;rw[if_neg (by omega)]at a2;exact⟨a1,a2⟩
 have new:∀x,({D with cF:=fun j=>if j=k then Fc else D.cF j,FM:=FM'}:Dsd).own b X.C.length X.G (k+5) x->Fc x:=fun x hx=>by
  obtain⟨a1,a2⟩:=hx
  simpa only[if_true]using a2
 have hpart:∀i j x,({D with cF:=fun j=>if j=k then Fc else D.cF j,FM:=FM'}:Dsd).own b X.C.length X.G i x->({D with cF:=fun j=>if j=k then Fc else D.cF j,FM:=FM'}:Dsd).own b X.C.length X.G j x->i=j:=by
  refine h.yk8 (fun i x hx=> ?_) (fun i j x hx hi hj=> ?_)
  ·by_cases e:i=k+5
   ·subst e
    exact(hF x (new x hx)).imp (fun h=>⟨hk,h⟩) id
   ·by_cases e1:i=1
    ·subst e1
     exact hF2 x hx
    ·exact .inl (old i e e1 x hx)
  ·have key:∀i,({D with cF:=fun j=>if j=k then Fc else D.cF j,FM:=FM'}:Dsd).own b X.C.length X.G i x->i=k+5\/i=1:=fun i hi=>by
    by_cases e:i=k+5
    ·exact .inl e
    ·by_cases e1:i=1
     ·exact .inr e1
     ·have:=h.lt (old i e e1 x hi)
      omega
   rcases key i hi with rfl|rfl
   ·rcases key j hj with rfl|rfl
    ·rfl
    ·exact absurd hj (hne x (new x hi))
   ·rcases key j hj with rfl|rfl
    ·exact absurd hi (hne x (new x hj))
    ·rfl
 refine⟨(e0 0).trans h.c0,(e0 1).trans h.c1,?_,(e0 3).trans h.c3,(e0 4).trans h.c4,f0,hm,?_,?_,o3 (hF' 3 (by omega) (by omega)),o4 (hF' 4 (by omega) (by omega)),?_,?_,?_,?_,h.told,h.few⟩
 ·simp only[hl]
  exact(e0 2).trans h.c2
 ·simp only[hl]
  exact o2 (hF' 2 (by omega) (by omega))
 ·simp only[hl]
  intro j hj
  show xY w' (D.cb j) 0 ((X.C.set k C').getD j Pg.Cr.new) (if j=k then Fc else D.cF j)
  by_cases e:j=k
  ·subst e
   rw[if_pos rfl,show(X.C.set j C').getD j Pg.Cr.new=C' by simp[List.getD,hk]];exact hC
  ·rw[if_neg e,show(X.C.set k C').getD j Pg.Cr.new=X.C.getD j Pg.Cr.new by simp[List.getD,List.getElem?_set_ne (fun h=>e h.symm)]]
   exact o5 j hj (hF' _ (by omega) (by omega))
 ·simp only[hl]
  exact hpart
 ·simp only[hl]
  exact h.len
 ·simp only[hl]
  exact h.pos
 ·simp only[hl]
  exact h.le
theorem asked {k:Nat} {C':Pg.Cr} {Fc:Nat->Prop} (h:Dsk w b D X) (hk:k<X.C.length) (hC:xY w' (D.cb k) 0 C' Fc) (hb:But (D.cF k) w w') (hF:∀x,Fc x->D.cF k x\/w.heap.size<=x):
 Dsk w' b {D with cF:=fun j=>if j=k then Fc else D.cF j} {X with C:=X.C.set k C'}:=by
 have hm:zh w' D.bm X.S D.FM:=(h.others hb).2.1 (fun x hx hm=>by have:=h.part 1 (k+5) x hx ⟨hk,hm⟩;omega);refine h.walked hk hC hm (hb.mono (fun _ _ h=> .inl h)) hF (fun x hx=> .inl hx) (fun x hx hm=> ?_);rcases hF x hx with h1|h1
 ·have:=h.part 1 (k+5) x hm ⟨hk,h1⟩
  omega
 ·have:=h.lt (i:=1) hm
  omega
theorem shot {T':Pg.Mp} {W':List Bool} (h:Dsk w b D X) (hs:jm w' D.bs T' (fun k=>W'.getD k J)) (hb:But (fun j=>j=D.bs) w w') (hl:W'.length=X.C.length) (hf:Pg.fits T'.p):
 Dsk w' b D {X with T:=T',W:=W'}:=by
 obtain⟨o0,o1,o2,o3,o4,o5⟩:=h.others hb;have hF':∀i,i≠3->∀x,D.own b X.C.length X.G i x->¬x=D.bs:=fun i hi x hx hm=>hi (h.part i 3 x hx hm);obtain⟨e0,f0⟩:=o0 (hF' 0 (by decide));exact⟨(e0 0).trans h.c0,(e0 1).trans h.c1,(e0 2).trans h.c2,(e0 3).trans h.c3,(e0 4).trans h.c4,f0,o1 (hF' 1 (by decide)),o2 (hF' 2 (by decide)),fun j hj=>o5 j hj (hF' _ (by omega)),hs,o4 (hF' 4 (by decide)),h.part,hl,h.pos,h.le,hf,h.few⟩
theorem goes {G:List Int} {ag:Option Addr} {cg:Nat} (h:Dsk w b D X) (hG:zl w ag G) (hn:∀g,ag=R ⟨g,0,I⟩->¬dsF D b X.C.length [] g) (hg:G.length<=4680):
 Dsk (w.setCell ⟨b,4,I⟩ (U ag G.length cg)) b {D with ag:=ag,cg:=cg} {X with G:=G}/\But (fun x=>x=b) w (w.setCell ⟨b,4,I⟩ (U ag G.length cg)):=by
 have hb:But (fun x=>x=b) w (w.setCell ⟨b,4,I⟩ (U ag G.length cg)):=(But.refl (fun x=>x=b) w).setCell (a:=⟨b,4,I⟩) (.inr rfl) _;obtain⟨o0,o1,o2,o3,o4,o5⟩:=h.others hb;have hF':∀i,i≠0->∀x,D.own b X.C.length X.G i x->¬x=b:=fun i hi x hx hm=>hi (h.part i 0 x hx hm);have k0:=h.c0;have k1:=h.c1;have k2:=h.c2;have k3:=h.c3;have k4:=h.c4;have kf:=h.fb;refine⟨⟨by simp[go_sem,k0],by simp[go_sem,k1],by simp[go_sem,k2],by simp[go_sem,k3],by simp[go_sem,k4],fun q=>by simp[go_sem,kf],o1 (hF' 1 (by decide)),o2 (hF' 2 (by decide)),fun j hj=>o5 j hj (hF' _ (by omega)),o3 (hF' 3 (by decide)),?_,?_,h.len,h.pos,h.le,h.told,hg⟩,hb⟩
 ·intro j hj
  obtain⟨g,e,hl,hc⟩:=hG j hj;exact⟨g,e,by simpa using hl,(hb.cell (a:=⟨g,j,I⟩) hl (fun e'=>hn g e ⟨0,e'⟩)).trans hc⟩
 ·have oth:∀i,i≠4->∀x,({D with ag:=ag,cg:=cg}:Dsd).own b X.C.length G i x->D.own b X.C.length X.G i x/\D.own b X.C.length [] i x:=fun i hi x hx=>by
   match i with
   | 0=>exact⟨hx,hx⟩
   | 1=>exact⟨hx,hx⟩
   | 2=>exact⟨hx,hx⟩
   | 3=>exact⟨hx,hx⟩
   | 4=>exact absurd rfl hi
   | k+5=>exact⟨hx,hx⟩
  intro i j x hi hj
  by_cases ei:i=4
  ·by_cases ej:j=4
   ·rw[ei,ej]
   ·subst ei
    exact absurd ⟨j,(oth j ej x hj).2⟩ (hn x hi.2)
  ·by_cases ej:j=4
   ·subst ej
    exact absurd ⟨i,(oth i ei x hi).2⟩ (hn x hj.2)
   ·exact h.part i j x (oth i ei x hi).1 (oth j ej x hj).1
end Dsk
theorem yb5 {D D':Dsd} {b n N:Nat} {G G':List Int} (ho:∀i x,D'.own b n G' i x->D.own b n G i x\/N<=x):∀x,dsF D' b n G' x->dsF D b n G x\/N<=x:=by
 rintro x ⟨i,hx⟩;exact(ho i x hx).imp (fun h=>⟨_,h⟩) id
theorem qg {D:Dsd} {b n N:Nat} {G:List Int} {FM':Nat->Prop} (hF:∀x,FM' x->D.FM x\/N<=x):∀x,dsF {D with FM:=FM'} b n G x->dsF D b n G x\/N<=x:=by
 refine yb5 fun i x hx=> ?_
 match i with
 | 0=>exact .inl hx
 | 1=>exact hF x hx
 | 2=>exact .inl hx
 | 3=>exact .inl hx
 | 4=>exact .inl hx
 | k+5=>exact .inl hx
theorem yan {D:Dsd} {b n N k:Nat} {G:List Int} {Fc FM':Nat->Prop} (hk:k<n) (hF:∀x,Fc x->D.cF k x\/N<=x) (hF2:∀x,FM' x->D.FM x\/N<=x):∀x,dsF {D with cF:=fun j=>if j=k then Fc else D.cF j,FM:=FM'} b n G x->dsF D b n G x\/N<=x:=by
 refine yb5 fun i x hx=> ?_
 match i with
 | 0=>exact .inl hx
 | 1=>exact hF2 x hx
 | 2=>exact .inl hx
 | 3=>exact .inl hx
 | 4=>exact .inl hx
 | j+5=>
   obtain⟨a1,a2⟩:=hx;simp only at a2
   by_cases e:j=k
   ·subst e
    rw[if_pos rfl]at a2;exact(hF x a2).imp (fun h=>⟨hk,h⟩) id
   ·rw[if_neg e]at a2
    exact .inl ⟨a1,a2⟩
theorem ybc {D:Dsd} {b n N k:Nat} {G:List Int} {Fc:Nat->Prop} (hk:k<n) (hF:∀x,Fc x->D.cF k x\/N<=x):∀x,dsF {D with cF:=fun j=>if j=k then Fc else D.cF j} b n G x->dsF D b n G x\/N<=x:=yan (FM':=D.FM) hk hF (fun x hx=> .inl hx)
theorem yeL {D:Dsd} {b n N:Nat} {G G':List Int} {ag:Option Addr} {cg:Nat} (hF:∀x,ag=R ⟨x,0,I⟩->G'≠[]->N<=x):∀x,dsF {D with ag:=ag,cg:=cg} b n G' x->dsF D b n G x\/N<=x:=by
 refine yb5 fun i x hx=> ?_
 match i with
 | 0=>exact .inl hx
 | 1=>exact .inl hx
 | 2=>exact .inl hx
 | 3=>exact .inl hx
 | 4=>exact .inr (hF x hx.2 hx.1)
 | k+5=>exact .inl hx
structure vP (w:Z) (b:Nat) (X:Pg.Spc) (F:Nat->Prop):Prop where
 ex:∃D,Dsk w b D X/\F=dsF D b X.C.length X.G
section
variable {w w':Z} {b:Nat} {X:Pg.Spc} {F G:Nat->Prop}
theorem vP.lt (h:vP w b X F) {k:Nat} (hk:F k):k<w.heap.size:=by
 obtain⟨D,h,rfl⟩:=h;obtain⟨i,hi⟩:=hk;exact h.lt hi
theorem vP.keep (h:vP w b X F) (hb:But G w w') (hF:∀k,F k->¬G k):vP w' b X F:=by
 obtain⟨D,h,rfl⟩:=h;exact⟨D,h.keep hb hF,rfl⟩
end
theorem Pg.ykz {W:List Bool} (h:W.length<=4):Pg.yj7 (fun k=>W.getD k J)= !(W.any id):=by
 match W,h with
 | [],_=>rfl
 | [a],_=>cases a<;>rfl
 | [a,b],_=>cases a<;>cases b<;>rfl
 | [a,b,c],_=>cases a<;>cases b<;>cases c<;>rfl
 | [a,b,c,d],_=>cases a<;>cases b<;>cases c<;>cases d<;>rfl
 | a::b::c::d::e::l,h=>simp at h
theorem Pg.ack_waits' {W:List Bool} {k:Nat} (hk:k<W.length):Pg.ylQ k (fun j=>W.getD j J)=fun j=>(W.set k J).getD j J:=by
 funext j
 unfold Pg.ylQ;rw[Pg.yh9 hk]
theorem Pg.post_waits {W:List Bool}:Pg.yjm W.length (fun j=>W.getD j J)=fun j=>(W.map fun _=>Y).getD j J:=by
 funext j
 unfold Pg.yjm
 by_cases h:j<W.length
 ·rw[Pg.ykh W j h]
  simp[h]
 ·simp[List.getD,h]
end
section
namespace Pg
def Right (L:List Mp) (q k:Int) (u:Bool) (e:Ev):Prop:=e.a=ansE L q k u/\e.f=ansF L q k u/\e.r=ansR L q k u
theorem takes_n (S:Fs):S.take.n=S.n:=by
 unfold Fs.take;split
 ·rfl
 ·split<;>rfl
theorem ylS (p s:Int):∀(lv:Nat) (S:Fs) (t:Int),(insW p s lv S t).1.n=S.n
 | 0,_,_=>rfl
 | lv+1,S,t=>by
   rw[insW];split
   ·rfl
   ·rw[ylS p s lv,(yiq _ _ _ _).1,takes_n]
theorem ins_n (S:Fs) (t:Int) (m:Mp):(insS S t m).n=S.n:=by
 unfold insS;split
 ·rw[(yiq _ _ _ _).1,ylS]
 ·rfl
theorem prs_n (S:Fs) (t p r:Int):(prS S t p r).n=S.n:=by
 unfold prS;split
 ·exact(yiq _ _ _ _).1
 ·rfl
section
variable {X:Spc} {L L0:List Mp}
theorem Inv.stT (h:Inv X L L0) {k:Nat} (hk:k<X.C.length) (ho:(X.C.getD k Cr.new).K.on=Y):Stepped X.S X.G L L0 X.T (X.W.getD k J) (X.C.getD k Cr.new):=bas_walk h.bas (h.cores k hk) ho
theorem yiP (h:Inv X L L0) (x:Sx):(X.goN x).S.n=X.S.n/\(X.goN x).C.length=X.C.length:=by
 unfold Spc.goN;split
 ·unfold Spc.chN
  split
  ·exact⟨rfl,rfl⟩
  ·rename_i hb
   have hb:X.busy=J:=by simpa using hb
   split
   ·exact⟨ins_n _ _ _,rfl⟩
   ·split
    ·split
     ·exact⟨(yj6 (h.rep hb) _).2.1,rfl⟩
     ·exact⟨rfl,rfl⟩
    ·split
     ·exact⟨prs_n _ _ _ _,rfl⟩
     ·exact⟨rfl,rfl⟩
 ·split
  ·exact⟨rfl,rfl⟩
  ·split
   ·exact⟨rfl,rfl⟩
   ·rename_i _ hc
    have hlt:=yiG hc;split
    ·exact⟨rfl,by simp⟩
    ·split
     ·refine⟨?_,by simp⟩
      show((X.C.getD x.core.toNat Cr.new).stS X.S 0).n=X.S.n
      cases ho:(X.C.getD x.core.toNat Cr.new).K.on
      ·rw[(yi7 (S:=X.S) ho).2.2]
      ·exact(h.stT hlt ho).n
     ·split
      ·unfold Spc.akN
       split
       ·exact⟨rfl,rfl⟩
       ·split
        ·exact⟨rfl,by simp⟩
        ·exact⟨(yib X.G X.S h.bas.ok h.bas.nd h.bas.hs).2.2.1,by simp⟩
      ·exact⟨rfl,by simp⟩
theorem yiR (h:Inv X L L0):(thr X.S zW 3 0 0).2=0/\zM (thr X.S zW 3 0 0).1=L/\((0:Int)::zU (thr X.S zW 3 0 0).1).Nodup/\(((0:Int)::zU (thr X.S zW 3 0 0).1).length:Int)+X.G.length+X.S.free=X.S.n/\needed L=(((0:Int)::zU (thr X.S zW 3 0 0).1).length:Int):=by
 rw[h.bas.thr];have g:=yib X.G X.S h.bas.ok h.bas.nd h.bas.hs;have hf:=rep_free h.bas.rep;have hn:=rep_needed h.bas.rep;rw[g.2.2.2.2,g.2.2.1]at hf;refine⟨h.bas.rep.code,h.bas.rep.maps,h.bas.rep.nodup,?_,?_⟩
 ·rw[List.length_cons]
  omega
 ·rw[hn,List.length_cons]
  omega
theorem ykU (C:Cr) (q k:Int) (u:Bool):(C.bgT q k u).c=if zK q k≠0 then zK q k else if C.K.on=Y then 8 else 0:=by
 unfold Cr.bgT;split
 ·rfl
 ·split
  ·rfl
  ·split
   ·rfl
   ·rfl
theorem ykp (h:Inv X L L0) (x:Sx) (hc:(X.goE x).c≠0):X.goN x=X/\X.goE x= .code (X.goE x).c:=by
 unfold Spc.goE at hc ⊢;unfold Spc.goN
 by_cases hk:1<=x.kind/\x.kind<=3
 ·rw[if_pos hk]at hc
  rw[if_pos hk,if_pos hk];unfold Spc.chE at hc ⊢;unfold Spc.chN
  by_cases hb:X.busy=Y
  ·rw[if_pos hb,if_pos hb]
   exact⟨rfl,rfl⟩
  ·rw[if_neg hb]at hc
   rw[if_neg hb,if_neg hb]
   by_cases h1:x.kind=1
   ·rw[if_pos h1]at hc
    rw[if_pos h1,if_pos h1];have hc:insC X.S 0 x.m≠0:=hc
    have:insS X.S 0 x.m=X.S:=by rw[insS,if_neg hc]
    rw[this];refine⟨rfl,?_⟩;simp[Ev.code,hc]
   ·rw[if_neg h1]at hc
    rw[if_neg h1,if_neg h1]
    by_cases h2:x.kind=2
    ·rw[if_pos h2]at hc
     rw[if_pos h2,if_pos h2,if_neg (show ¬tFC X.S 0 x.m.p=0 from hc)];exact⟨rfl,rfl⟩
    ·rw[if_neg h2]at hc
     rw[if_neg h2,if_neg h2,if_neg (show ¬prC X.S 0 x.m.p x.m.r=0 from hc)];exact⟨rfl,rfl⟩
 ·rw[if_neg hk]at hc
  rw[if_neg hk,if_neg hk]
  by_cases hk2:x.kind<1\/7<x.kind
  ·rw[if_pos hk2,if_pos hk2]
   exact⟨rfl,rfl⟩
  ·rw[if_neg hk2]at hc
   rw[if_neg hk2,if_neg hk2]
   by_cases hr:x.core<0\/(X.C.length:Int)<=x.core
   ·rw[if_pos hr,if_pos hr]
    exact⟨rfl,rfl⟩
   ·rw[if_neg hr]at hc
    rw[if_neg hr,if_neg hr];have hlt:=yiG hr
    by_cases h4:x.kind=4
    ·rw[if_pos h4]at hc
     rw[if_pos h4,if_pos h4];have hc:((X.at' x.core).bgT x.q x.k x.u).c≠0:=hc;rw[ykU]at hc
     have e1:(X.at' x.core).bgN 0 x.q x.k x.u=X.at' x.core:=by
      unfold Cr.bgN;rw[if_neg];rintro ⟨a1,a2,_⟩;rw[a1,a2]at hc;exact hc rfl
     have e2:(X.at' x.core).bgT x.q x.k x.u= .code ((X.at' x.core).bgT x.q x.k x.u).c:=by
      unfold Cr.bgT;split
      ·rfl
      ·rename_i b1
       split
       ·rfl
       ·rename_i b2
        rw[if_neg b1,if_neg b2]at hc;exact absurd rfl hc
     rw[e1];refine⟨?_,?_⟩
     ·unfold Spc.at'
      rw[yjt hlt]
     ·rw[e2]
      rfl
    ·rw[if_neg h4]at hc
     rw[if_neg h4,if_neg h4]
     by_cases h5:x.kind=5
     ·rw[if_pos h5]at hc
      rw[if_pos h5,if_pos h5];have hc:((X.C.getD x.core.toNat Cr.new).stT X.S 0).c≠0:=hc;cases ho:(X.C.getD x.core.toNat Cr.new).K.on
      ·obtain⟨o1,o2,o3⟩:=yi7 (S:=X.S) ho
       unfold Spc.at';rw[o1,o2,o3,yjt hlt];exact⟨rfl,rfl⟩
      ·exact absurd (h.stT hlt ho).code hc
     ·rw[if_neg h5]at hc
      rw[if_neg h5,if_neg h5]
      by_cases h6:x.kind=6
      ·rw[if_pos h6]at hc
       rw[if_pos h6,if_pos h6];unfold Spc.akE at hc ⊢;unfold Spc.akN
       by_cases hw:X.W.getD x.core.toNat J=J
       ·rw[if_pos hw,if_pos hw]
        exact⟨rfl,rfl⟩
       ·rw[if_neg hw]at hc
        exfalso
        split at hc
        ·exact hc rfl
        ·exact hc rfl
      ·rw[if_neg h6]at hc
       rw[if_neg h6,if_neg h6]
       by_cases hL:(X.at' x.core).L=[]
       ·rw[if_pos hL]
        refine⟨?_,rfl⟩
        have:(X.at' x.core).yja=X.at' x.core:=by
         unfold Cr.yja;rw[hL]
         show(⟨[],(X.at' x.core).K⟩:Cr)=_
         rw[<-hL]
        rw[this];unfold Spc.at';rw[yjt hlt]
       ·rw[if_neg hL]at hc
        exact absurd rfl hc
theorem yj0 {L:List Mp} (hg:Good L) {l:Ln} (hm:l.m ∈ L) {q:Int} (hq:l.m.has q=Y) (k:Int) (u:Bool):Right L q k u (l.ans q k u).ev:=by
 obtain⟨h1,h2,h3⟩:=good_ans hg hm hq k u;exact⟨h1.symm,h2.symm,h3.symm⟩
theorem hit_line {C:Cr} {q k:Int} {u:Bool} (h:C.hit q k u=Y):kAt C.L q ∈ C.L/\(kAt C.L q).m.has q=Y/\(kAt C.L q).wants k u=J:=by
 unfold Cr.hit at h;simp only[Bool.and_eq_true,Option.isSome_iff_exists,Bool.not_eq_true']at h;obtain⟨⟨j,hj⟩,hw⟩:=h;obtain⟨k1,k2,_⟩:=ykv hj;refine⟨?_,?_,hw⟩
 ·unfold kAt
  rw[hj];exact ylV k1
 ·unfold kAt
  rw[hj];exact k2
theorem bgT_ended {C:Cr} {q k:Int} {u:Bool} (h:(C.bgT q k u).ended=Y):zK q k=0/\C.K.on=J/\C.hit q k u=Y/\C.bgT q k u=(kAt C.L q).ans q k u:=by
 unfold Cr.bgT at h ⊢;split at h
 ·cases h
 ·rename_i h1
  split at h
  ·cases h
  ·rename_i h2
   split at h
   ·rename_i h3
    refine⟨by simpa using h1,by simpa using h2,h3,?_⟩;rw[if_neg h1,if_neg h2,if_pos h3]
   ·cases h
theorem yhT (h:Inv X L L0) (x:Sx) (he:(X.goE x).ended=Y):(X.goE x).c=0/\(X.goE x).back=J/\0<=x.core/\x.core<X.C.length/\
 ((x.kind=4/\zK x.q x.k=0/\(X.at' x.core).K.on=J/\(Right L x.q x.k x.u (X.goE x)\/(X.busy=Y/\Right L0 x.q x.k x.u (X.goE x))))\/
  (x.kind=5/\(X.at' x.core).K.on=Y/\Right L (X.at' x.core).K.q (X.at' x.core).K.k (X.at' x.core).K.u (X.goE x))):=by
 unfold Spc.goE at he ⊢;split at he
 ·exfalso
  unfold Spc.chE at he;split at he
  ·cases he
  ·split at he
   ·cases he
   ·split at he<;>cases he
 ·rename_i hk
  split at he
  ·cases he
  ·rename_i hk2
   split at he
   ·cases he
   ·rename_i hc
    have hlt:=yiG hc;rw[if_neg hk,if_neg hk2,if_neg hc];split at he
    ·rename_i h4
     rw[if_pos h4];have he:((X.at' x.core).bgT x.q x.k x.u).ended=Y:=he;obtain⟨b1,b2,b3,b4⟩:=bgT_ended he;obtain⟨l1,l2,l3⟩:=hit_line b3;rw[b4];refine⟨rfl,rfl,by omega,by omega,.inl ⟨h4,b1,b2,?_⟩⟩;rcases (h.cores _ hlt).lines _ l1 with hx|⟨hw,hx,_⟩
     ·exact .inl (yj0 (yhS h.bas.rep) (hx.mem h.bas.rep) l2 _ _)
     ·have hb:X.busy=Y:=List.any_eq_true.2 ⟨Y,by rw[<-hw];exact yjr (by rw[h.len];exact hlt) _,rfl⟩
      exact .inr ⟨hb,yj0 (h.past hb) hx l2 _ _⟩
    ·rename_i h4
     rw[if_neg h4];split at he
     ·rename_i h5
      rw[if_pos h5];have he:((X.C.getD x.core.toNat Cr.new).stT X.S 0).ended=Y:=he;cases ho:(X.C.getD x.core.toNat Cr.new).K.on
      ·rw[(yi7 (S:=X.S) ho).1]at he
       cases he
      ·have hs:=h.stT hlt ho
       exact⟨hs.code,rfl,by omega,by omega,.inr ⟨h5,ho,hs.ans he⟩⟩
     ·split at he
      ·unfold Spc.akE at he
       split at he
       ·cases he
       ·split at he<;>cases he
      ·split at he<;>cases he
end
end Pg
namespace Pg
def rk (S:Fs) (K:Wk):Nat:=if K.x=0 then K.lv+2 else if K.word S=K.x then 1 else 6
theorem rk_pos (S:Fs) (K:Wk):1<=rk S K:=by
 unfold rk;split
 ·omega
 ·split<;>omega
theorem rk_step {S:Fs} {root:Int} {K K':Wk} (h:kOut S root K= .go K'):rk S K'<rk S K:=by
 unfold kOut at h;split at h
 ·cases h
 ·rename_i ho
  have ho:K.on=Y:=by simpa using ho
  split at h
  ·cases h
  ·split at h
   ·rename_i hx
    split at h
    ·cases h
    ·rename_i hw
     cases h
     have e1:(K.again root).x=0/\(K.again root).lv=3:=by
      unfold Wk.again;rw[if_pos ho];exact⟨rfl,rfl⟩
     unfold rk;rw[if_pos e1.1,e1.2,if_neg hx,if_neg hw];omega
   ·rename_i hx
    have hx:K.x=0:=by simpa using hx
    split at h
    ·cases h
    ·split at h
     ·cases h
     ·rename_i ht
      have ht:(En.of (K.word S) K.lv).t=Y:=by simpa using ht
      split at h
      ·rename_i hl
       cases h
       have hlv:K.lv≠0:=by
        intro e;rw[e]at hl ht
        have:(En.of (K.word S) ((0:Nat):Int)).on=Y:=by simp only[En.on,hl,ht];rfl
        simp[En.on,En.of,xL,yin]at this
       unfold rk;rw[if_pos (show({K with t:=(En.of (K.word S) K.lv).f,lv:=K.lv-1}:Wk).x=0 from hx),if_pos hx]
       show K.lv-1+2<K.lv+2
       omega
      ·split at h
       ·cases h
       ·split at h
        ·cases h
         have hw:K.word S≠0:=by
          intro e;rw[e]at ht;simp[En.of,yhB]at ht
         unfold rk;rw[if_neg (show ¬({K with x:=K.word S}:Wk).x=0 from hw),if_pos (show({K with x:=K.word S}:Wk).word S=({K with x:=K.word S}:Wk).x from rfl),if_pos hx];omega
        ·cases h
theorem rk_le {S:Fs} {K:Wk} (h:K.Ok):rk S K<=6:=by
 have:=h.lv;unfold rk;split
 ·omega
 ·split<;>omega
def Sx.acc (c:Nat) (m:Mp) (q k:Int) (u:Bool):Sx:=⟨4,c,m,q,k,u⟩
def Sx.wlk (c:Nat):Sx:=⟨5,c,.zz,0,0,J⟩
def Sx.ack (c:Nat):Sx:=⟨6,c,.zz,0,0,J⟩
section
variable {X X0:Spc} {L L0:List Mp}
theorem go_acc (X:Spc) {c:Nat} (hc:c<X.C.length) (m:Mp) (q k:Int) (u:Bool):X.goE (.acc c m q k u)=((X.C.getD c Cr.new).bgT q k u).ev/\X.goN (.acc c m q k u)={X with C:=X.C.set c ((X.C.getD c Cr.new).bgN 0 q k u)}:=by
 unfold Spc.goE Spc.goN Sx.acc;simp only;rw[if_neg (by omega),if_neg (by omega),if_neg (by omega),if_pos trivial,if_neg (by omega),if_neg (by omega),if_neg (by omega),if_pos trivial];exact⟨rfl,rfl⟩
theorem go_wlk (X:Spc) {c:Nat} (hc:c<X.C.length):X.goE (.wlk c)=((X.C.getD c Cr.new).stT X.S 0).ev/\X.goN (.wlk c)={X with S:=(X.C.getD c Cr.new).stS X.S 0,C:=X.C.set c ((X.C.getD c Cr.new).stN X.S 0)}:=by
 unfold Spc.goE Spc.goN Sx.wlk;simp only;rw[if_neg (by omega),if_neg (by omega),if_neg (by omega),if_neg (by omega),if_pos trivial,if_neg (by omega),if_neg (by omega),if_neg (by omega),if_neg (by omega),if_pos trivial];exact⟨rfl,rfl⟩
theorem go_ack (X:Spc) {c:Nat} (hc:c<X.C.length):X.goE (.ack c)=X.akE c/\X.goN (.ack c)=X.akN c:=by
 unfold Spc.goE Spc.goN Sx.ack;simp only;rw[if_neg (by omega),if_neg (by omega),if_neg (by omega),if_neg (by omega),if_neg (by omega),if_pos trivial,if_neg (by omega),if_neg (by omega),if_neg (by omega),if_neg (by omega),if_neg (by omega),if_pos trivial];exact⟨rfl,rfl⟩
theorem walk_on (h:Inv X L L0) (hb:X.busy=J) {c:Nat} (hc:c<X.C.length) (ho:(X.C.getD c Cr.new).K.on=Y):
 ((X.C.getD c Cr.new).stT X.S 0= .code 0/\(X.C.getD c Cr.new).stS X.S 0=X.S/\((X.C.getD c Cr.new).stN X.S 0).K.on=Y/\((X.C.getD c Cr.new).stN X.S 0).K.q=(X.C.getD c Cr.new).K.q/\((X.C.getD c Cr.new).stN X.S 0).K.k=(X.C.getD c Cr.new).K.k/\((X.C.getD c Cr.new).stN X.S 0).K.u=(X.C.getD c Cr.new).K.u/\rk X.S ((X.C.getD c Cr.new).stN X.S 0).K<rk X.S (X.C.getD c Cr.new).K)\/
 ((X.C.getD c Cr.new).stT X.S 0).ended=Y/\((X.C.getD c Cr.new).stN X.S 0).K.on=J:=by
 have hG:=h.calm hb;have hK:=h.cores c hc;rw[h.still hb,hG]at hK;rcases hK.walk ho with hon|hx
 ·have hs:=ylC (h.rep hb) hK.ok.walk ho hon
  unfold Cr.stT Cr.stS Cr.stN;rcases hout:kOut X.S 0 (X.C.getD c Cr.new).K with c|K'|r|⟨e,m⟩
  ·rw[hout]at hs
   exact hs.elim
  ·rw[hout]at hs
   exact .inl ⟨rfl,rfl,hs.1,hs.2.2.1,hs.2.2.2.1,hs.2.2.2.2,rk_step hout⟩
  ·exact .inr ⟨rfl,rfl⟩
  ·exact .inr ⟨rfl,rfl⟩
 ·simp at hx
theorem ack_W (h:Inv X L L0) {k:Nat} (hk:k<X.C.length) (j:Nat):(X.akN k).W.getD j J=if j=k then J else X.W.getD j J:=by
 have hkW:k<X.W.length:=by rw[h.len];exact hk
 unfold Spc.akN;simp only[Int.toNat_natCast];split
 ·rename_i hw
  split
  ·rename_i e
   rw[e];exact hw
  ·rfl
 ·split<;>exact yh9 hkW J J j
theorem ykV (X:Spc):X.busy=Y ↔ ∃j,j<X.W.length/\X.W.getD j J=Y:=by
 unfold Spc.busy;rw[List.any_eq_true];constructor
 ·rintro ⟨b,hb,hb2⟩
  obtain⟨j,hj,rfl⟩:=List.mem_iff_getElem.1 hb;exact⟨j,hj,by simp[List.getD,hj];exact hb2⟩
 ·rintro ⟨j,hj,e⟩
  exact⟨Y,by rw[<-e];exact yjr hj _,rfl⟩
theorem busy_no {X:Spc} (h:∀j,j<X.W.length->X.W.getD j J=J):X.busy=J:=by
 cases hb:X.busy
 ·rfl
 ·obtain⟨j,h1,h2⟩:=(ykV X).1 hb
  rw[h j h1]at h2;cases h2
end
end Pg
namespace Pg
structure Tms where
 L:List (List Mp)
 fl:Nat
def opL (L:List Mp) (x:Sx):List Mp:=if x.kind=1 then addL L x.m else if x.kind=2 then yio L x.m.p else yi4 L x.m.p x.m.r
namespace Tms
end Tms
section
variable {X:Spc} {L L0:List Mp} {T:Tms}
theorem ykd (h:Inv X L L0) (x:Sx):
 ((2<=x.kind/\x.kind<=3/\(X.goE x).c=0)/\X.busy=J/\(X.goN x).busy=Y/\(X.goE x).back=J)\/
 ((x.kind=1/\(X.goE x).c=0)/\X.busy=J/\(X.goN x).busy=J/\(X.goE x).back=Y)\/
 (¬(1<=x.kind/\x.kind<=3/\(X.goE x).c=0)/\(((X.goE x).back=J/\(X.goN x).busy=X.busy)\/((X.goE x).back=Y/\X.busy=Y/\(X.goN x).busy=J/\(X.goE x).c=0))):=by
 by_cases hk:1<=x.kind/\x.kind<=3
 ·by_cases hc:(X.goE x).c=0
  ·have hg:X.goE x=X.chE x:=by unfold Spc.goE;rw[if_pos hk]
   have hN:X.goN x=X.chN x:=by unfold Spc.goN;rw[if_pos hk]
   rw[hg]at hc ⊢;rw[hN];unfold Spc.chE at hc ⊢;unfold Spc.chN
   by_cases hb:X.busy=Y
   ·rw[if_pos hb]at hc
    cases hc
   ·rw[if_neg hb]at hc
    rw[if_neg hb,if_neg hb]
    have hb':X.busy=J:=by simpa using hb
    by_cases h1:x.kind=1
    ·rw[if_pos h1]at hc
     rw[if_pos h1,if_pos h1];have hc:insC X.S 0 x.m=0:=hc;exact .inr (.inl ⟨⟨h1,hc⟩,hb',hb',by simp[hc]⟩)
    ·rw[if_neg h1]at hc
     rw[if_neg h1,if_neg h1]
     have hsome:1<=X.W.length:=by rw[h.len];exact h.some
     by_cases h2:x.kind=2
     ·rw[if_pos h2]at hc
      rw[if_pos h2,if_pos h2,if_pos (show tFC X.S 0 x.m.p=0 from hc)];exact .inl ⟨⟨by omega,hk.2,hc⟩,hb',yik hsome,rfl⟩
     ·rw[if_neg h2]at hc
      rw[if_neg h2,if_neg h2,if_pos (show prC X.S 0 x.m.p x.m.r=0 from hc)];exact .inl ⟨⟨by omega,hk.2,hc⟩,hb',yik hsome,rfl⟩
  ·obtain⟨e1,e2⟩:=ykp h x hc
   refine .inr (.inr ⟨fun e=>hc e.2.2,.inl ⟨by rw[e2];rfl,by rw[e1]⟩⟩)
 ·refine .inr (.inr ⟨fun e=>hk ⟨e.1,e.2.1⟩,?_⟩)
  unfold Spc.goE Spc.goN;rw[if_neg hk,if_neg hk]
  by_cases hk2:x.kind<1\/7<x.kind
  ·rw[if_pos hk2,if_pos hk2]
   exact .inl ⟨rfl,rfl⟩
  ·rw[if_neg hk2,if_neg hk2]
   by_cases hr:x.core<0\/(X.C.length:Int)<=x.core
   ·rw[if_pos hr,if_pos hr]
    exact .inl ⟨rfl,rfl⟩
   ·rw[if_neg hr,if_neg hr]
    by_cases h4:x.kind=4
    ·rw[if_pos h4,if_pos h4]
     exact .inl ⟨rfl,rfl⟩
    ·rw[if_neg h4,if_neg h4]
     by_cases h5:x.kind=5
     ·rw[if_pos h5,if_pos h5]
      exact .inl ⟨rfl,rfl⟩
     ·rw[if_neg h5,if_neg h5]
      by_cases h6:x.kind=6
      ·rw[if_pos h6,if_pos h6]
       have hlt:=yiG hr;unfold Spc.akE Spc.akN
       by_cases hw:X.W.getD x.core.toNat J=J
       ·rw[if_pos hw,if_pos hw]
        exact .inl ⟨rfl,rfl⟩
       ·rw[if_neg hw,if_neg hw]
        have hw:X.W.getD x.core.toNat J=Y:=by simpa using hw
        have hb:X.busy=Y:=(ykV X).2 ⟨_,by rw[h.len];exact hlt,hw⟩
        by_cases ha:(X.W.set x.core.toNat J).any id=Y
        ·rw[if_pos ha,if_pos ha]
         exact .inl ⟨rfl,ha.trans hb.symm⟩
        ·rw[if_neg ha,if_neg ha]
         have ha:(X.W.set x.core.toNat J).any id=J:=by simpa using ha
         exact .inr ⟨rfl,hb,ha,rfl⟩
      ·rw[if_neg h6,if_neg h6]
       split
       ·exact .inl ⟨rfl,rfl⟩
       ·exact .inl ⟨rfl,rfl⟩
end
end Pg
set_option maxRecDepth 100000
namespace Pg
def Spc.maps (X:Spc):List Mp:=if (thr X.S zW 3 0 0).2=0 then zM (thr X.S zW 3 0 0).1 else []
def Spc.tabs (X:Spc):List Int:=if (thr X.S zW 3 0 0).2=0 then 0::zU (thr X.S zW 3 0 0).1 else []
theorem Inv.maps {X:Spc} {L L0:List Mp} (h:Inv X L L0):X.maps=L:=by
 obtain⟨h1,h2,_⟩:=yiR h;unfold Spc.maps;rw[if_pos h1,h2]
theorem Inv.tabs {X:Spc} {L L0:List Mp} (h:Inv X L L0):X.tabs=0::zU (thr X.S zW 3 0 0).1:=by
 unfold Spc.tabs;rw[if_pos (yiR h).1]
end Pg
end
section
open Go.Sort
def yf9:kI->Nat
 | .string s=>s.size
 | _=>0
theorem yfx:(Tryz.prog.info? 9).map (fun i=>(i.zero,i.size,i.bytes))=R (R (.string ByteArray.empty),1,16):=by kernel_rfl
theorem Pg.ykE (l:List UInt8):(Lib.trimLeftB l 32).length<=l.length:=by
 unfold Lib.trimLeftB;exact(List.dropWhile_sublist _).length_le
theorem Pg.cut_less {l:List UInt8} (h:l≠[]):(Lib.cut l [32]).1.length<=l.length/\(Lib.cut l [32]).2.1.length<l.length:=by
 have hl:0<l.length:=Nat.pos_of_ne_zero fun e=>h (List.eq_nil_of_length_eq_zero e);unfold Lib.cut;split
 ·simp
  omega
 ·simp
  omega
theorem ycr (L:List (List UInt8)) (l:List UInt8):qn L++[.string (xT l)]=qn (L++[l]):=by simp[qn]
theorem ycm {w:Z} {base:Nat} {ad:Option Addr} {n cap:Nat} {L:List (List UInt8)} (h:w.ownsRow base 9 1 (U ad n cap) L.length (qn L)):zt w ad L:=by
 intro j hj;obtain⟨g,cap',e,_,hg⟩:=h.form (by omega);cases e;refine⟨g,0,rfl,hg,?_⟩;have:=h.cellAt j (by rw[Nat.mul_one];exact hj);rw[Nat.zero_add,this];simp[qn,List.getD,hj]
set_option maxHeartbeats 4000000 in
theorem ycz (line:ByteArray) (hs:line.size<=1000000) (w:Z):
 z E 17 #[.string line] w fun e w'=>∃ad cap,e=M (U ad (Pg.yim line.data.toList).length cap)/\(Pg.yim line.data.toList).length<=cap/\zt w' ad (Pg.yim line.data.toList)/\(∀g o,ad=R ⟨g,o,I⟩->o=0)/\Below w.heap.size w w':=by
 have HT:=Tryz.strings_TrimLeft_one line 32 (by decide) w;obtain⟨i0,hi,hz0,hz1,hz2⟩:=info_parts yfx;have HW:P (Pg.yim line.data.toList=[]++Pg.yiC (6-0) (Lib.trimLeftB line.data.toList 32)):=rfl;have HL:P ((Lib.trimLeftB line.data.toList 32).length<=1000000):=Nat.le_trans (Pg.ykE _) hs;have HB:P (But (fun _=>False) w w):=But.refl _ _;have HO:P (w.ownsRow w.heap.size 9 1 (U I 0 0) 0 (qn [])):=World.ownsRow_nil w _ _ _;generalize Pg.yim line.data.toList=A at*;generalize hr0:Lib.trimLeftB line.data.toList 32=r0 at*;clear hr0 hs
 go_enter Tryz.func17,Tryz.ntmps17
 go_wp2_with fail
 refine HT.mono ?_;rintro e w1 ⟨rfl,rfl⟩;clear HT
 go_wp2_with fail
 go_loopw [3,4] (fun v r wr=>∃(L:List (List UInt8)) (t:List UInt8),r= .string (xT t)/\L.length<=6/\P (wr.ownsRow w1.heap.size 9 1 v L.length (qn L))/\P (A=L++Pg.yiC (6-L.length) t)/\P (t.length<=1000000)/\P (But (fun _=>False) w1 wr)) (fun _ r _=>yf9 r)
 case atStart=>exact⟨[],r0,rfl,by decide,HO,HW,HL,HB⟩
 case round=>
  obtain⟨L,t,rfl,hlen,HOr,HWr,HLr,HBr⟩:=hrel;clear HO HW HL HB;obtain⟨ao,cp,rfl⟩:=zF HOr.out
  have fin:∀(B:List (List UInt8)),A=L++B->B=[]->∃ad cap,(Value.slice ao L.length cp)=U ad A.length cap/\A.length<=cap/\zt wr ad A/\(∀g o,ad=R ⟨g,o,I⟩->o=0)/\Below w1.heap.size w1 wr:=fun B hA hB0=>by
   rw[hB0,List.append_nil]at hA;subst hA;refine⟨ao,cp,rfl,?_,ycm HOr.out,fun g o e=> ?_,HBr.out.below (Nat.le_refl _) fun _ e=>e.elim⟩
   ·rcases HOr.out.2 with ⟨e,e2⟩|⟨g,cap,cur,e,_,_,hc,_⟩
    ·rw[e2];exact Nat.zero_le _
    ·injection e with _ _ e3
     rw[e3];exact hc
   ·rcases HOr.out.2 with ⟨e2,_⟩|⟨g',cap,cur,e2,_⟩
    ·injection e2 with e2
     rw[e2]at e;cases e
    ·injection e2 with e2
     rw[e2]at e;injection e with e;injection e with e;omega
  have FIN:P _:=fin;clear fin
  by_cases ht:t=[]
  ·subst ht
   have FE:P (Pg.yiC (6-L.length) []=[]):=by
    unfold P
    cases 6-L.length<;>rfl
   go_wp2_with fail
   go_ret
   obtain⟨ad,cap,e,r⟩:=FIN.out _ HWr.out FE.out;exact⟨ad,cap,congrArg Ending.returned e,r⟩
  ·have hte:t.isEmpty=J:=by simpa using ht
   by_cases h6:L.length=6
   ·have FE:P (Pg.yiC (6-L.length) t=[]):=by rw[P,h6];rfl
    have q1:¬(L.length:Int)<=5:=by omega
    clear h6 ht
    go_wp2_with fail
    go_ret
    obtain⟨ad,cap,e,r⟩:=FIN.out _ HWr.out FE.out;exact⟨ad,cap,congrArg Ending.returned e,r⟩
   ·have q1:(L.length:Int)<=5:=by omega
    obtain⟨hc1,hc2⟩:=Pg.cut_less ht;have HC:=ycs (xT t) (by rw[qm];exact HLr.out) wr;rw[qk]at HC
    have HW2:P (A=(L++[(Lib.cut t [32]).1])++Pg.yiC (6-(L.length+1)) (Lib.trimLeftB (Lib.cut t [32]).2.1 32)):=by
     rw[P,HWr.out,show 6-L.length=(6-(L.length+1))+1 by omega]
     show _++(if t=[]then _ else _)=_
     rw[if_neg ht];simp
    have HT2:=fun w=>Tryz.strings_TrimLeft_one (xT (Lib.cut t [32]).2.1) 32 (by decide) w;simp only[qk]at HT2;have hl2:=Pg.ykE (Lib.cut t [32]).2.1
    have HL2:P ((Lib.trimLeftB (Lib.cut t [32]).2.1 32).length<=1000000):=by
     have:=HLr.out;unfold P;omega
    have HM:P ((Lib.trimLeftB (Lib.cut t [32]).2.1 32).length<t.length):=by
     unfold P;omega
    generalize Lib.trimLeftB (Lib.cut t [32]).2.1 32=t2 at*;generalize (Lib.cut t [32]).1=wd at*;generalize (Lib.cut t [32]).2.1=t1 at*;generalize (Lib.cut t [32]).2.2=fl at*
    have HLN:P (L.length+1<=6):=by unfold P;omega
    have HMX:P (L.length+1<=maxLen):=by unfold P maxLen;omega
    have HBY:P ((L.length+1)*16<=140737488355328):=by unfold P;omega
    have HSZ:P (w1.heap.size<=wr.heap.size):=HBr.out.size;clear FIN h6 ht hc1 hc2 hl2 HLr HWr
    go_wp2_with fail
    refine HC.mono ?_;rintro e w2 ⟨rfl,hb2⟩;have HO2:P ((w2.alloc (.cells #[.string (xT wd)] 9)).ownsRow w1.heap.size 9 1 (U ao L.length cp) L.length (qn L)):=(zr HOr.out hb2).alloc (.cells #[.string (xT wd)] 9);have HB2:P (But (fun _=>False) w1 w2):=HBr.out.trans (But.yhl hb2) fun _ _ e=>e;have HS2:P (w1.heap.size<=w2.heap.size):=HB2.out.size;clear hb2 HC HOr HBr HSZ
    go_wp2_with (at_builtin;refine wpList_append_lies _ rfl _ _ 22 rfl w1.heap.size 9 i0 _ 1 16 Tryz.underlying22 hi hz0 hz1 hz2 rfl (by decide) _ L.length (qn L) rfl HO2.out ⟨w2.heap.size,0,I⟩ 1 1 [.string (xT wd)] rfl rfl (World.news_of_block (heap_alloc_new _ _)) (by simp[Value.oneCell']) (by decide) HMX.out HBY.out (Nat.le_trans HS2.out (by simp)) _ rfl ?_;intro g cap' w3 hown hgrow hat hlt3;have HO3:P _:=hown;have HG3:P _:=hgrow;clear hown hgrow hat)
    refine(HT2 _).mono ?_;rintro e w4 ⟨rfl,rfl⟩;have HB3:P (But (fun _=>False) w1 w4):=(HB2.out.alloc _).grown HG3.out fun k hk=> .inl (World.ownsRow.lt HO2.out k hk).1
    have el:(L++[wd]).length=L.length+1:=by simp
    have HO4:P (w4.ownsRow w1.heap.size 9 1 (U (R ⟨g,0,I⟩) (L.length+1) cap') (L++[wd]).length (qn (L++[wd]))):=by
     rw[P,el,<-ycr];exact HO3.out
    have HW4:P (A=(L++[wd])++Pg.yiC (6-(L++[wd]).length) t2):=by
     rw[P,el];exact HW2.out
    have HL4:P ((L++[wd]).length<=6):=by
     rw[P,el];exact HLN.out
    clear HO2 HG3 HB2 HS2 HO3 HT2 HW2 hlt3
    go_wp2_with fail
    refine⟨⟨L++[wd],t2,rfl,HL4.out,HO4,HW4,HL2,HB3⟩,?_⟩
    show(xT t2).size<(xT t).size
    rw[qm,qm];exact HM.out
theorem ygr (l:List UInt8) (v:Int) (h:Lib.atoiAll l= .ok v):(Pg.numD l).isSome=decide (0<=v/\v<=100000000/\Lib.itoa v=l)/\∀x,Pg.numD l=R x->x=v:=by
 unfold Pg.numD;rw[h];simp only;split
 ·rename_i hc
  exact⟨by rw[decide_eq_true hc];rfl,fun x e=>(Option.some.inj e).symm⟩
 ·rename_i hc
  exact⟨by rw[decide_eq_false hc];rfl,fun x e=>by cases e⟩
end
end Go.Proofs.YtdphiompijbelaaGreatDoor
