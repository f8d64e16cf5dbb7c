import Derived.Test.YtdphiompijbelaaGreatBookFind
import Derived.Test.YtdphiompijbelaaGreatKC
set_option linter.all false
set_option maxRecDepth 100000
open List renaming mem_cons_self->U,length_cons->O,any_eq_true->E
open Go renaming World->Z
open Int renaming natCast_nonneg->V,toNat_natCast->Q
open Go.Value renaming pointer->Y,slice->H,int->y,bool->o
open Go.World renaming block_lt_of_cell?->P,frozen?_of_block->z,cell?_of_block->v
open Bool renaming false->J,true->B
open Option renaming none->I,some->R
namespace Go.Proofs.YtdphiompijbelaaGreat
open Go.RowKit Go.Sort
attribute [local go_sem] Loose.gent
structure Crk (w:Z) (b bt bk:Nat) (Ft:Nat->Prop) (root:Int) (C:Pg.Cr):Prop where
 c0:w.cell? ⟨b,0,I⟩=R (Y (R ⟨bt,0,I⟩))
 c1:w.cell? ⟨b,1,I⟩=R (Y (R ⟨bk,0,I⟩))
 tb:jJ w bt 0 C.L Ft
 wk:xc w bk 0 root C.K
 nb:¬Ft b
 nk:¬Ft bk
 ne:b≠bk
 ok:C.K.Ok
def crF (b bk:Nat) (Ft:Nat->Prop):Nat->Prop:=fun j=>j=b\/j=bk\/Ft j
namespace Crk
variable {w w':Z} {b bt bk:Nat} {Ft Ft' G:Nat->Prop} {root:Int} {C:Pg.Cr} {K':Pg.Wk} {L':List Pg.Ln}
theorem lb (h:Crk w b bt bk Ft root C):b<w.heap.size:=P _ _ h.c0
theorem lt (h:Crk w b bt bk Ft root C) {k:Nat} (hk:crF b bk Ft k):k<w.heap.size:=by
 rcases hk with rfl|rfl|hk
 ·exact h.lb
 ·exact h.wk.lb
 ·exact h.tb.lt hk
theorem keep (h:Crk w b bt bk Ft root C) (hb:But G w w') (hG:∀k,crF b bk Ft k->¬G k):Crk w' b bt bk Ft root C:=by
 have n:=hG b (.inl rfl);exact⟨(hb.cell (a:=⟨b,0,I⟩) h.lb n).trans h.c0,(hb.cell (a:=⟨b,1,I⟩) h.lb n).trans h.c1,h.tb.keep hb fun k hk=>hG k (.inr (.inr hk)),h.wk.keep hb (hG bk (.inr (.inl rfl))),h.nb,h.nk,h.ne,h.ok⟩
theorem grow (h:Crk w b bt bk Ft root C) (hb:Below w.heap.size w w'):Crk w' b bt bk Ft root C:=h.keep (G:=fun _=>False) (But.yhf hb) (fun _ _=>id)
theorem ykb (h:Crk w b bt bk Ft root C) (hk:xc w' bk 0 root K') (ok:K'.Ok) (hb:But (fun j=>j=bk) w w'):Crk w' b bt bk Ft root ⟨C.L,K'⟩:=
 ⟨(hb.cell (a:=⟨b,0,I⟩) h.lb h.ne).trans h.c0,(hb.cell (a:=⟨b,1,I⟩) h.lb h.ne).trans h.c1,h.tb.keep hb fun k hk e=>h.nk (e▸hk),hk,h.nb,h.nk,h.ne,ok⟩
theorem stepT (h:Crk w b bt bk Ft root C) (ht:jJ w' bt 0 L' Ft') (hb:But Ft w w') (hF:∀k,Ft' k->Ft k\/w.heap.size<=k):Crk w' b bt bk Ft' root ⟨L',C.K⟩:=by
 have hl:=h.lb;have hlk:=h.wk.lb;exact⟨(hb.cell (a:=⟨b,0,I⟩) h.lb h.nb).trans h.c0,(hb.cell (a:=⟨b,1,I⟩) h.lb h.nb).trans h.c1,ht,h.wk.keep hb h.nk,fun hk=>(hF b hk).elim h.nb (fun h=>by omega),fun hk=>(hF bk hk).elim h.nk (fun h=>by omega),h.ne,h.ok⟩
theorem ylx {Ff:Nat->Prop} (h:Crk w b bt bk Ft root C) (hk:xc w' bk 0 root K') (ok:K'.Ok) (hb:But (fun j=>j=bk\/Ff j) w w') (hne:∀j,crF b bk Ft j->¬Ff j):Crk w' b bt bk Ft root ⟨C.L,K'⟩:=by
 have n:¬(b=bk\/Ff b):=fun e=>e.elim h.ne (hne b (.inl rfl));exact⟨(hb.cell (a:=⟨b,0,I⟩) h.lb n).trans h.c0,(hb.cell (a:=⟨b,1,I⟩) h.lb n).trans h.c1,h.tb.keep hb fun k hk e=>e.elim (fun e=>h.nk (e▸hk)) (hne k (.inr (.inr hk))),hk,h.nb,h.nk,h.ne,ok⟩
end Crk
structure qm (w:Z) (b:Nat) (root:Int) (C:Pg.Cr) (F:Nat->Prop):Prop where
 ex:∃bt bk Ft,Crk w b bt bk Ft root C/\F=crF b bk Ft
section
variable {w w':Z} {b:Nat} {root:Int} {C:Pg.Cr} {F G:Nat->Prop}
theorem qm.lt (h:qm w b root C F) {k:Nat} (hk:F k):k<w.heap.size:=by
 obtain⟨bt,bk,Ft,h,rfl⟩:=h;exact h.lt hk
theorem qm.keep (h:qm w b root C F) (hb:But G w w') (hF:∀k,F k->¬G k):qm w' b root C F:=by
 obtain⟨bt,bk,Ft,h,rfl⟩:=h;exact⟨bt,bk,Ft,h.keep hb hF,rfl⟩
theorem qm.grow (h:qm w b root C F) (hb:Below w.heap.size w w'):qm w' b root C F:=h.keep (G:=fun _=>False) (But.yhf hb) (fun _ _=>id)
end
theorem ydP {w:Z} {r:Nat} {v0 v1 v2:Value} {t:TypeId} (h:w.heap[r]?=R (.cells #[v0,v1,v2] t (0,0))):
 (w.cell? ⟨r,0,I⟩=R v0/\w.cell? ⟨r,1,I⟩=R v1/\w.cell? ⟨r,2,I⟩=R v2)/\∀i,w.frozen? ⟨r,i,I⟩=J:=
 ⟨by simp[World.cell?,h],fun i=>by simp[World.frozen?,h]⟩
theorem qL {F:Nat->Prop} {w w1:Z} (h:But F w w1) (r:Nat) (hr:w.heap.size<=r\/F r) (x0 x1 x2:Value):But F w (((w1.setCell ⟨r,0,I⟩ x0).setCell ⟨r,1,I⟩ x1).setCell ⟨r,2,I⟩ x2):=
 ((h.setCell (a:=⟨r,0,I⟩) hr x0).setCell (a:=⟨r,1,I⟩) hr x1).setCell (a:=⟨r,2,I⟩) hr x2
theorem qh {w w1:Z} (h:Below w.heap.size w w1) (r:Nat) (hr:w.heap.size<=r) (x0 x1 x2:Value):Below w.heap.size w (((w1.setCell ⟨r,0,I⟩ x0).setCell ⟨r,1,I⟩ x1).setCell ⟨r,2,I⟩ x2):=
 ((h.setCell (p:=⟨r,0,I⟩) hr x0).setCell (p:=⟨r,1,I⟩) hr x1).setCell (p:=⟨r,2,I⟩) hr x2
theorem yef (root:Int) (w:Z):
 Calls Tryz.prog 48 #[y .i64 root] w fun e w'=>∃b F,e= .returned (Y (R ⟨b,0,I⟩))/\qm w' b root Pg.Cr.new F/\Below w.heap.size w w'/\∀k,F k->w.heap.size<=k:=by
 go_enter Tryz.func48,Tryz.ntmps48
 go_wp2_with fail
 refine(yeY _).mono ?_;rintro e w1 ⟨bt,Ft,rfl,ht,hb1,hF⟩;have HT:Hid _:=ht;have HB1:Hid _:=hb1;have HF:Hid _:=hF;clear ht hb1 hF
 go_wp2_with fail
 refine(yfr root _).mono ?_;rintro e w2 ⟨bk,rfl,hk,hb2,hbk⟩;have HK:Hid _:=hk;have HB2:Hid _:=hb2;have s1:=HB1.out.size;have s2:=hb2.size;clear hk hb2
 go_wp2_with fail
 go_ret
 have hb3:=zA (zR w2) (.cells #[Y (R ⟨bt,0,I⟩),Y (R ⟨bk,0,I⟩)] 130);have hkl:=HK.out.lb
 have n1:¬Ft w2.heap.size:=fun hj=>by have:=HT.out.lt hj;omega
 have n2:¬Ft bk:=fun hj=>by have:=HT.out.lt hj;omega
 refine⟨_,_,rfl,⟨bt,bk,Ft,⟨?_,?_,(HT.out.grow HB2.out).grow hb3,HK.out.grow hb3,n1,n2,by omega,Pg.Wk.yiT⟩,rfl⟩,zT (zT HB1.out HB2.out) hb3,fun k hk=> ?_⟩
 ·simp[go_sem]
 ·simp[go_sem]
 ·rcases hk with rfl|rfl|hk
  ·omega
  ·omega
  ·exact HF.out k hk
section
variable {b:Nat} {root:Int} {C:Pg.Cr} {F:Nat->Prop}
theorem qt (w:Z) (h:qm w b root C F):
 Calls Tryz.prog 63 #[Y (R ⟨b,0,I⟩)] w fun e w'=>e= .returned (o C.K.on)/\w'=w:=by
 obtain⟨bt,bk,Ft,h,rfl⟩:=h;have c1:=h.c1;have HO:=yf3 w h.wk;clear h
 go_enter Tryz.func63,Tryz.ntmps63
 go_wp2_with fail
 refine HO.mono ?_;rintro e w1 ⟨rfl,hw⟩;subst w1
 go_wp2_with fail
 go_ret
 exact⟨rfl,rfl⟩
theorem ydn (m:Pg.Mp) (hm:Pg.fits m.p) (w:Z) (h:qm w b root C F):
 Calls Tryz.prog 148 #[Y (R ⟨b,0,I⟩),m.val] w fun e w'=>e= .returned (.tuple #[])/\∃F',qm w' b root (C.told root m) F'/\But F w w'/\∀k,F' k->F k\/w.heap.size<=k:=by
 obtain⟨bt,bk,Ft,h,rfl⟩:=h;obtain⟨W,hW⟩:∃W,W=w.alloc (.cells #[y .i64 m.p,y .i64 m.s,y .i64 m.f,y .i64 m.r] 39):=⟨_,rfl⟩
 have hB:Below w.heap.size w W:=by rw[hW];exact zA (zR _) _
 have k1:ybv W w.heap.size 0 m:=by rw[hW];exact⟨by simp[go_sem],by simp[go_sem],by simp[go_sem],by simp[go_sem]⟩
 have HW:Hid _:=h.grow hB;have HB:Hid _:=hB;have HD:=fun w' (ht:jJ w' bt 0 C.L Ft)=>yaX m hm w' ht;obtain⟨x0,x1,x2,x3⟩:=k1;have g0:=cell_regrown x0;have g1:=cell_regrown x1;have g2:=cell_regrown x2;have g3:=cell_regrown x3;have g4:=cell_regrown HW.out.c0;simp only[Nat.zero_add]at g0 g1 g2 g3;clear h hB x0 x1 x2 x3;obtain⟨L,K⟩:=C;unfold Pg.Cr.told;simp only at HD ⊢;generalize Pg.yic L m=L' at*;obtain⟨mp,ms,mf,mr⟩:=m;simp only[Pg.Mp.val]at hW g0 g1 g2 g3 HD ⊢
 go_enter Tryz.func148,Tryz.ntmps148
 go_wp2_with fail
 rw[<-hW];clear hW;refine Loose.yhh 5 (by kernel_rfl) (by kernel_rfl) ?_;simp only[List.take_succ_cons,List.take_zero,List.drop_succ_cons,List.drop_zero]
 repeat (
  refine Loose.zS (fun k hk=> ?_)
  go_simp
  (refine hk _ ?_;clear hk k))
 refine Loose.yhi ?_;intro w3 hb3;have H3:Hid _:=HW.out.grow hb3;have HB3:Hid (Below w.heap.size w w3):=zT HB.out hb3;clear hb3 g0 g1 g2 g3 g4 HW HB
 go_wp2_with fail
 refine(HD _ H3.out.tb).mono ?_;rintro e w4 ⟨rfl,Ft',ht,hc,hF⟩;have H4:Hid _:=H3.out.stepT ht hc.but hF;have HB4:Hid (But (crF b bk Ft) w w4):=(But.yhf HB3.out).trans hc.but (fun _ _ h=> .inr (.inr h))
 have HF4:Hid (∀k,crF b bk Ft' k->crF b bk Ft k\/w.heap.size<=k):=fun k hk=>by
  have hs:=HB3.out.size;rcases hk with hk|hk|hk
  ·exact .inl (.inl hk)
  ·exact .inl (.inr (.inl hk))
  ·exact(hF k hk).imp (fun h=> .inr (.inr h)) (fun h=>by omega)
 have c1:=H4.out.c1;clear ht hc hF HD H3 HB3
 go_wp2_with fail
 refine(jR _ H4.out.wk).mono ?_;rintro e w5 ⟨rfl,hk5,hc5⟩;have H5:Hid _:=H4.out.ykb hk5 (H4.out.ok.again root) hc5.but;have HB5:Hid (But (crF b bk Ft) w w5):=HB4.out.trans hc5.but (fun _ _ h=> .inr (.inl h));clear hk5 hc5 H4 HB4 c1
 go_wp2_with fail
 go_end0
 exact⟨rfl,_,⟨_,_,_,H5.out,rfl⟩,HB5.out,HF4.out⟩
theorem jG (l:Pg.Ln) (q k:Int) (u:Bool) (w:Z):
 Calls Tryz.prog 142 #[l.val,.agg #[y .i64 q,y .i64 k,o u]] w fun e w'=>e= .returned (o (l.wants k u))/\Below w.heap.size w w':=by
 obtain⟨⟨mp,ms,mf,mr⟩,d⟩:=l;have HM:=fun w=>ybg mr q k u w;simp only[Pg.Ln.val,Pg.Ln.wants];cases hk:(k==1)
 ·go_enter Tryz.func142,Tryz.ntmps142
  go_wp2_with fail
  go_ret
  exact⟨rfl,zA (zA (zR w) _) _⟩
 ·cases d
  ·generalize Pg.may mr k u=x at*
   go_enter Tryz.func142,Tryz.ntmps142
   go_wp2_with fail
   refine(HM _).mono ?_;rintro e w1 ⟨rfl,hb1⟩;have HB:Hid (Below w.heap.size w w1):=zT (zA (zA (zR w) _) _) hb1;clear hb1
   go_wp2_with fail
   go_ret
   exact⟨rfl,HB.out⟩
  ·go_enter Tryz.func142,Tryz.ntmps142
   go_wp2_with fail
   go_ret
   exact⟨rfl,zA (zA (zR w) _) _⟩
end
end Go.Proofs.YtdphiompijbelaaGreat
namespace Go.Proofs.YtdphiompijbelaaGreat
open Go.RowKit Go.Sort
structure Dsd where
 bm:Nat
 FM:Nat->Prop
 gc:Nat
 cc:Nat
 cb:Nat->Nat
 cF:Nat->Nat->Prop
 bs:Nat
 ag:Option Addr
 cg:Nat
def Dsd.own (D:Dsd) (b n:Nat) (G:List Int):Nat->Nat->Prop
 | 0,x=>x=b
 | 1,x=>D.FM x
 | 2,x=>x=D.gc
 | 3,x=>x=D.bs
 | 4,x=>G≠[]/\D.ag=R ⟨x,0,I⟩
 | k+5,x=>k<n/\D.cF k x
structure Dsk (w:Z) (b:Nat) (D:Dsd) (X:Pg.Spc):Prop where
 c0:w.cell? ⟨b,0,I⟩=R (Y (R ⟨D.bm,0,I⟩))
 c1:w.cell? ⟨b,1,I⟩=R (y .i64 0)
 c2:w.cell? ⟨b,2,I⟩=R (H (R ⟨D.gc,0,I⟩) X.C.length D.cc)
 c3:w.cell? ⟨b,3,I⟩=R (Y (R ⟨D.bs,0,I⟩))
 c4:w.cell? ⟨b,4,I⟩=R (H D.ag X.G.length D.cg)
 fb:∀p,w.frozen? ⟨b,p,I⟩=J
 mem:zh w D.bm X.S D.FM
 row:∀k,k<X.C.length->w.cell? ⟨D.gc,k,I⟩=R (Y (R ⟨D.cb k,0,I⟩))
 core:∀k,k<X.C.length->qm w (D.cb k) 0 (X.C.getD k Pg.Cr.new) (D.cF k)
 tl:jw w D.bs X.T (fun k=>X.W.getD k J)
 gone:zu w D.ag X.G
 part:∀i j x,D.own b X.C.length X.G i x->D.own b X.C.length X.G j x->i=j
 len:X.W.length=X.C.length
 pos:1<=X.C.length
 le:X.C.length<=4
 told:Pg.fits X.T.p
 few:X.G.length<=4680
def dsF (D:Dsd) (b n:Nat) (G:List Int):Nat->Prop:=fun x=>∃i,D.own b n G i x
namespace Dsk
variable {w w':Z} {b:Nat} {D D':Dsd} {X:Pg.Spc}
theorem lb (h:Dsk w b D X):b<w.heap.size:=P _ _ h.c0
theorem lt (h:Dsk w b D X) {i x:Nat} (hx:D.own b X.C.length X.G i x):x<w.heap.size:=by
 match i with
 | 0=>have hx:x=b:=hx;rw[hx];exact h.lb
 | 1=>exact h.mem.lt hx
 | 2=>have hx:x=D.gc:=hx;rw[hx];exact P _ _ (h.row 0 h.pos)
 | 3=>have hx:x=D.bs:=hx;rw[hx];exact h.tl.lb
 | 4=>
   obtain⟨hG,ha⟩:=hx;have:0<X.G.length:=List.length_pos_iff.2 hG;obtain⟨g,e,hl,_⟩:=h.gone 0 this;rw[ha]at e;injection e with e;injection e with e;rw[e];exact hl
 | k+5=>exact(h.core k hx.1).lt hx.2
theorem others (h:Dsk w b D X) {F:Nat->Prop} (hb:But F w w'):
 ((∀x,D.own b X.C.length X.G 0 x->¬F x)->(∀p,w'.cell? ⟨b,p,I⟩=w.cell? ⟨b,p,I⟩)/\∀p,w'.frozen? ⟨b,p,I⟩=J)/\
 ((∀x,D.own b X.C.length X.G 1 x->¬F x)->zh w' D.bm X.S D.FM)/\
 ((∀x,D.own b X.C.length X.G 2 x->¬F x)->∀k,k<X.C.length->w'.cell? ⟨D.gc,k,I⟩=R (Y (R ⟨D.cb k,0,I⟩)))/\
 ((∀x,D.own b X.C.length X.G 3 x->¬F x)->jw w' D.bs X.T (fun k=>X.W.getD k J))/\
 ((∀x,D.own b X.C.length X.G 4 x->¬F x)->zu w' D.ag X.G)/\
 (∀k,k<X.C.length->(∀x,D.own b X.C.length X.G (k+5) x->¬F x)->qm w' (D.cb k) 0 (X.C.getD k Pg.Cr.new) (D.cF k)):=by
 refine⟨fun hF=> ?_,fun hF=>h.mem.keep hb hF,fun hF k hk=> ?_,fun hF=>h.tl.keep hb (hF _ rfl),fun hF=> ?_,fun k hk hF=> ?_⟩
 ·have kb:=hb.block b h.lb (hF b rfl)
  exact⟨fun p=>v (a:=⟨b,p,I⟩) kb,fun p=>(z (a:=⟨b,p,I⟩) kb).trans (h.fb p)⟩
 ·exact(hb.cell (a:=⟨D.gc,k,I⟩) (P _ _ (h.row k hk)) (hF _ rfl)).trans (h.row k hk)
 ·intro j hj
  obtain⟨g,e,hl,hc⟩:=h.gone j hj;refine⟨g,e,Nat.lt_of_lt_of_le hl hb.size,(hb.cell (a:=⟨g,j,I⟩) hl (hF g ⟨?_,e⟩)).trans hc⟩;intro e0;rw[e0]at hj;simp at hj
 ·exact(h.core k hk).keep hb fun x hx=>hF x ⟨hk,hx⟩
theorem keep (h:Dsk w b D X) {F:Nat->Prop} (hb:But F w w') (hF:∀x,dsF D b X.C.length X.G x->¬F x):Dsk w' b D X:=by
 obtain⟨o0,o1,o2,o3,o4,o5⟩:=h.others hb;have hF:∀i x,D.own b X.C.length X.G i x->¬F x:=fun i x hx=>hF x ⟨i,hx⟩;obtain⟨e0,f0⟩:=o0 (hF 0);exact⟨(e0 0).trans h.c0,(e0 1).trans h.c1,(e0 2).trans h.c2,(e0 3).trans h.c3,(e0 4).trans h.c4,f0,o1 (hF 1),o2 (hF 2),fun k hk=>o5 k hk (hF _),o3 (hF 3),o4 (hF 4),h.part,h.len,h.pos,h.le,h.told,h.few⟩
theorem grow (h:Dsk w b D X) (hb:Below w.heap.size w w'):Dsk w' b D X:=h.keep (F:=fun _=>False) (But.yhf hb) (fun _ _=>id)
theorem ykM (h:Dsk w b D X) {G':List Int} (ho:∀i x,D'.own b X.C.length G' i x->D.own b X.C.length X.G i x\/w.heap.size<=x) (hn:∀i j x,w.heap.size<=x->D'.own b X.C.length G' i x->D'.own b X.C.length G' j x->i=j):∀i j x,D'.own b X.C.length G' i x->D'.own b X.C.length G' j x->i=j:=by
 intro i j x hi hj;rcases ho i x hi with h1|h1
 ·rcases ho j x hj with h2|h2
  ·exact h.part i j x h1 h2
  ·have:=h.lt h1
   omega
 ·exact hn i j x h1 hi hj
theorem yiU (h:Dsk w b D X) {l:Nat} {G':List Int} (ho:∀i,i≠l->∀x,D'.own b X.C.length G' i x->D.own b X.C.length X.G i x) (hl:∀x,D'.own b X.C.length G' l x->D.own b X.C.length X.G l x\/w.heap.size<=x):∀i j x,D'.own b X.C.length G' i x->D'.own b X.C.length G' j x->i=j:=by
 refine h.ykM (fun i x hx=> ?_) (fun i j x hx hi hj=> ?_)
 ·by_cases e:i=l
  ·subst e
   exact hl x hx
  ·exact .inl (ho i e x hx)
 ·have key:∀i,D'.own b X.C.length G' i x->i=l:=fun i hi=>by
   by_cases e:i=l
   ·exact e
   ·have:=h.lt (ho i e x hi)
    omega
  rw[key i hi,key j hj]
theorem frames {S':Pg.Fs} {FM':Nat->Prop} (h:Dsk w b D X) (hm:zh w' D.bm S' FM') (hb:But D.FM w w') (hF:∀x,FM' x->D.FM x\/w.heap.size<=x):Dsk w' b {D with FM:=FM'} {X with S:=S'}:=by
 obtain⟨o0,o1,o2,o3,o4,o5⟩:=h.others hb;have hF':∀i,i≠1->∀x,D.own b X.C.length X.G i x->¬D.FM x:=fun i hi x hx hm=>hi (h.part i 1 x hx hm);obtain⟨e0,f0⟩:=o0 (hF' 0 (by decide));refine⟨(e0 0).trans h.c0,(e0 1).trans h.c1,(e0 2).trans h.c2,(e0 3).trans h.c3,(e0 4).trans h.c4,f0,hm,o2 (hF' 2 (by decide)),fun k hk=>o5 k hk (hF' _ (by omega)),o3 (hF' 3 (by decide)),o4 (hF' 4 (by decide)),h.yiU (l:=1) (fun i hi x hx=> ?_) (fun x hx=>hF x hx),h.len,h.pos,h.le,h.told,h.few⟩
 match i with
 | 0=>exact hx
 | 1=>exact absurd rfl hi
 | 2=>exact hx
 | 3=>exact hx
 | 4=>exact hx
 | k+5=>exact hx
theorem walked {k:Nat} {C':Pg.Cr} {S':Pg.Fs} {Fc FM':Nat->Prop} (h:Dsk w b D X) (hk:k<X.C.length) (hC:qm w' (D.cb k) 0 C' Fc) (hm:zh w' D.bm S' FM') (hb:But (fun j=>D.cF k j\/D.FM j) w w') (hF:∀x,Fc x->D.cF k x\/w.heap.size<=x) (hF2:∀x,FM' x->D.FM x\/w.heap.size<=x) (hne:∀x,Fc x->¬FM' x):
 Dsk w' b {D with cF:=fun j=>if j=k then Fc else D.cF j,FM:=FM'} {X with S:=S',C:=X.C.set k C'}:=by
 obtain⟨o0,o1,o2,o3,o4,o5⟩:=h.others hb;have hF':∀i,i≠k+5->i≠1->∀x,D.own b X.C.length X.G i x->¬(D.cF k x\/D.FM x):=fun i hi h1 x hx hm=>hm.elim (fun hm=>hi (h.part i (k+5) x hx ⟨hk,hm⟩)) (fun hm=>h1 (h.part i 1 x hx hm));obtain⟨e0,f0⟩:=o0 (hF' 0 (by omega) (by omega));have hl:(X.C.set k C').length=X.C.length:=List.length_set
 have old:∀i,i≠k+5->i≠1->∀x,({D with cF:=fun j=>if j=k then Fc else D.cF j,FM:=FM'}:Dsd).own b X.C.length X.G i x->D.own b X.C.length X.G i x:=fun i hi h1 x hx=>by
  match i with
  | 0=>exact hx
  | 1=>exact absurd rfl h1
  | 2=>exact hx
  | 3=>exact hx
  | 4=>exact hx
  | j+5=>
    obtain⟨a1,a2⟩:=hx;simp only at a2;rw[if_neg (by omega)]at a2;exact⟨a1,a2⟩
 have new:∀x,({D with cF:=fun j=>if j=k then Fc else D.cF j,FM:=FM'}:Dsd).own b X.C.length X.G (k+5) x->Fc x:=fun x hx=>by
  obtain⟨a1,a2⟩:=hx
  simpa only[if_true]using a2
 have hpart:∀i j x,({D with cF:=fun j=>if j=k then Fc else D.cF j,FM:=FM'}:Dsd).own b X.C.length X.G i x->({D with cF:=fun j=>if j=k then Fc else D.cF j,FM:=FM'}:Dsd).own b X.C.length X.G j x->i=j:=by
  refine h.ykM (fun i x hx=> ?_) (fun i j x hx hi hj=> ?_)
  ·by_cases e:i=k+5
   ·subst e
    exact(hF x (new x hx)).imp (fun h=>⟨hk,h⟩) id
   ·by_cases e1:i=1
    ·subst e1
     exact hF2 x hx
    ·exact .inl (old i e e1 x hx)
  ·have key:∀i,({D with cF:=fun j=>if j=k then Fc else D.cF j,FM:=FM'}:Dsd).own b X.C.length X.G i x->i=k+5\/i=1:=fun i hi=>by
    by_cases e:i=k+5
    ·exact .inl e
    ·by_cases e1:i=1
     ·exact .inr e1
     ·have:=h.lt (old i e e1 x hi)
      omega
   rcases key i hi with rfl|rfl
   ·rcases key j hj with rfl|rfl
    ·rfl
    ·exact absurd hj (hne x (new x hi))
   ·rcases key j hj with rfl|rfl
    ·exact absurd hi (hne x (new x hj))
    ·rfl
 refine⟨(e0 0).trans h.c0,(e0 1).trans h.c1,?_,(e0 3).trans h.c3,(e0 4).trans h.c4,f0,hm,?_,?_,o3 (hF' 3 (by omega) (by omega)),o4 (hF' 4 (by omega) (by omega)),?_,?_,?_,?_,h.told,h.few⟩
 ·simp only[hl]
  exact(e0 2).trans h.c2
 ·simp only[hl]
  exact o2 (hF' 2 (by omega) (by omega))
 ·simp only[hl]
  intro j hj
  show qm w' (D.cb j) 0 ((X.C.set k C').getD j Pg.Cr.new) (if j=k then Fc else D.cF j)
  by_cases e:j=k
  ·subst e
   rw[if_pos rfl,show(X.C.set j C').getD j Pg.Cr.new=C' by simp[List.getD,hk]];exact hC
  ·rw[if_neg e,show(X.C.set k C').getD j Pg.Cr.new=X.C.getD j Pg.Cr.new by simp[List.getD,List.getElem?_set_ne (fun h=>e h.symm)]]
   exact o5 j hj (hF' _ (by omega) (by omega))
 ·simp only[hl]
  exact hpart
 ·simp only[hl]
  exact h.len
 ·simp only[hl]
  exact h.pos
 ·simp only[hl]
  exact h.le
theorem asked {k:Nat} {C':Pg.Cr} {Fc:Nat->Prop} (h:Dsk w b D X) (hk:k<X.C.length) (hC:qm w' (D.cb k) 0 C' Fc) (hb:But (D.cF k) w w') (hF:∀x,Fc x->D.cF k x\/w.heap.size<=x):
 Dsk w' b {D with cF:=fun j=>if j=k then Fc else D.cF j} {X with C:=X.C.set k C'}:=by
 have hm:zh w' D.bm X.S D.FM:=(h.others hb).2.1 (fun x hx hm=>by have:=h.part 1 (k+5) x hx ⟨hk,hm⟩;omega);refine h.walked hk hC hm (hb.mono (fun _ _ h=> .inl h)) hF (fun x hx=> .inl hx) (fun x hx hm=> ?_);rcases hF x hx with h1|h1
 ·have:=h.part 1 (k+5) x hm ⟨hk,h1⟩
  omega
 ·have:=h.lt (i:=1) hm
  omega
theorem shot {T':Pg.Mp} {W':List Bool} (h:Dsk w b D X) (hs:jw w' D.bs T' (fun k=>W'.getD k J)) (hb:But (fun j=>j=D.bs) w w') (hl:W'.length=X.C.length) (hf:Pg.fits T'.p):
 Dsk w' b D {X with T:=T',W:=W'}:=by
 obtain⟨o0,o1,o2,o3,o4,o5⟩:=h.others hb;have hF':∀i,i≠3->∀x,D.own b X.C.length X.G i x->¬x=D.bs:=fun i hi x hx hm=>hi (h.part i 3 x hx hm);obtain⟨e0,f0⟩:=o0 (hF' 0 (by decide));exact⟨(e0 0).trans h.c0,(e0 1).trans h.c1,(e0 2).trans h.c2,(e0 3).trans h.c3,(e0 4).trans h.c4,f0,o1 (hF' 1 (by decide)),o2 (hF' 2 (by decide)),fun j hj=>o5 j hj (hF' _ (by omega)),hs,o4 (hF' 4 (by decide)),h.part,hl,h.pos,h.le,hf,h.few⟩
theorem goes {G:List Int} {ag:Option Addr} {cg:Nat} (h:Dsk w b D X) (hG:zu w ag G) (hn:∀g,ag=R ⟨g,0,I⟩->¬dsF D b X.C.length [] g) (hg:G.length<=4680):
 Dsk (w.setCell ⟨b,4,I⟩ (H ag G.length cg)) b {D with ag:=ag,cg:=cg} {X with G:=G}/\But (fun x=>x=b) w (w.setCell ⟨b,4,I⟩ (H ag G.length cg)):=by
 have hb:But (fun x=>x=b) w (w.setCell ⟨b,4,I⟩ (H ag G.length cg)):=(But.refl (fun x=>x=b) w).setCell (a:=⟨b,4,I⟩) (.inr rfl) _;obtain⟨o0,o1,o2,o3,o4,o5⟩:=h.others hb;have hF':∀i,i≠0->∀x,D.own b X.C.length X.G i x->¬x=b:=fun i hi x hx hm=>hi (h.part i 0 x hx hm);have k0:=h.c0;have k1:=h.c1;have k2:=h.c2;have k3:=h.c3;have k4:=h.c4;have kf:=h.fb;refine⟨⟨by simp[go_sem,k0],by simp[go_sem,k1],by simp[go_sem,k2],by simp[go_sem,k3],by simp[go_sem,k4],fun q=>by simp[go_sem,kf],o1 (hF' 1 (by decide)),o2 (hF' 2 (by decide)),fun j hj=>o5 j hj (hF' _ (by omega)),o3 (hF' 3 (by decide)),?_,?_,h.len,h.pos,h.le,h.told,hg⟩,hb⟩
 ·intro j hj
  obtain⟨g,e,hl,hc⟩:=hG j hj;exact⟨g,e,by simpa using hl,(hb.cell (a:=⟨g,j,I⟩) hl (fun e'=>hn g e ⟨0,e'⟩)).trans hc⟩
 ·have oth:∀i,i≠4->∀x,({D with ag:=ag,cg:=cg}:Dsd).own b X.C.length G i x->D.own b X.C.length X.G i x/\D.own b X.C.length [] i x:=fun i hi x hx=>by
   match i with
   | 0=>exact⟨hx,hx⟩
   | 1=>exact⟨hx,hx⟩
   | 2=>exact⟨hx,hx⟩
   | 3=>exact⟨hx,hx⟩
   | 4=>exact absurd rfl hi
   | k+5=>exact⟨hx,hx⟩
  intro i j x hi hj
  by_cases ei:i=4
  ·by_cases ej:j=4
   ·rw[ei,ej]
   ·subst ei
    exact absurd ⟨j,(oth j ej x hj).2⟩ (hn x hi.2)
  ·by_cases ej:j=4
   ·subst ej
    exact absurd ⟨i,(oth i ei x hi).2⟩ (hn x hj.2)
   ·exact h.part i j x (oth i ei x hi).1 (oth j ej x hj).1
end Dsk
theorem ycz {D D':Dsd} {b n N:Nat} {G G':List Int} (ho:∀i x,D'.own b n G' i x->D.own b n G i x\/N<=x):∀x,dsF D' b n G' x->dsF D b n G x\/N<=x:=by
 rintro x ⟨i,hx⟩;exact(ho i x hx).imp (fun h=>⟨_,h⟩) id
theorem qu {D:Dsd} {b n N:Nat} {G:List Int} {FM':Nat->Prop} (hF:∀x,FM' x->D.FM x\/N<=x):∀x,dsF {D with FM:=FM'} b n G x->dsF D b n G x\/N<=x:=by
 refine ycz fun i x hx=> ?_
 match i with
 | 0=>exact .inl hx
 | 1=>exact hF x hx
 | 2=>exact .inl hx
 | 3=>exact .inl hx
 | 4=>exact .inl hx
 | k+5=>exact .inl hx
theorem yaD {D:Dsd} {b n N k:Nat} {G:List Int} {Fc FM':Nat->Prop} (hk:k<n) (hF:∀x,Fc x->D.cF k x\/N<=x) (hF2:∀x,FM' x->D.FM x\/N<=x):∀x,dsF {D with cF:=fun j=>if j=k then Fc else D.cF j,FM:=FM'} b n G x->dsF D b n G x\/N<=x:=by
 refine ycz fun i x hx=> ?_
 match i with
 | 0=>exact .inl hx
 | 1=>exact hF2 x hx
 | 2=>exact .inl hx
 | 3=>exact .inl hx
 | 4=>exact .inl hx
 | j+5=>
   obtain⟨a1,a2⟩:=hx;simp only at a2
   by_cases e:j=k
   ·subst e
    rw[if_pos rfl]at a2;exact(hF x a2).imp (fun h=>⟨hk,h⟩) id
   ·rw[if_neg e]at a2
    exact .inl ⟨a1,a2⟩
theorem ybF {D:Dsd} {b n N k:Nat} {G:List Int} {Fc:Nat->Prop} (hk:k<n) (hF:∀x,Fc x->D.cF k x\/N<=x):∀x,dsF {D with cF:=fun j=>if j=k then Fc else D.cF j} b n G x->dsF D b n G x\/N<=x:=yaD (FM':=D.FM) hk hF (fun x hx=> .inl hx)
theorem yfh {D:Dsd} {b n N:Nat} {G G':List Int} {ag:Option Addr} {cg:Nat} (hF:∀x,ag=R ⟨x,0,I⟩->G'≠[]->N<=x):∀x,dsF {D with ag:=ag,cg:=cg} b n G' x->dsF D b n G x\/N<=x:=by
 refine ycz fun i x hx=> ?_
 match i with
 | 0=>exact .inl hx
 | 1=>exact .inl hx
 | 2=>exact .inl hx
 | 3=>exact .inl hx
 | 4=>exact .inr (hF x hx.2 hx.1)
 | k+5=>exact .inl hx
structure ybs (w:Z) (b:Nat) (X:Pg.Spc) (F:Nat->Prop):Prop where
 ex:∃D,Dsk w b D X/\F=dsF D b X.C.length X.G
section
variable {w w':Z} {b:Nat} {X:Pg.Spc} {F G:Nat->Prop}
theorem ybs.lt (h:ybs w b X F) {k:Nat} (hk:F k):k<w.heap.size:=by
 obtain⟨D,h,rfl⟩:=h;obtain⟨i,hi⟩:=hk;exact h.lt hi
theorem ybs.keep (h:ybs w b X F) (hb:But G w w') (hF:∀k,F k->¬G k):ybs w' b X F:=by
 obtain⟨D,h,rfl⟩:=h;exact⟨D,h.keep hb hF,rfl⟩
end
theorem Pg.yj8 {W:List Bool} (h:W.length<=4):Pg.yjK (fun k=>W.getD k J)= !(W.any id):=by
 match W,h with
 | [],_=>rfl
 | [a],_=>cases a<;>rfl
 | [a,b],_=>cases a<;>cases b<;>rfl
 | [a,b,c],_=>cases a<;>cases b<;>cases c<;>rfl
 | [a,b,c,d],_=>cases a<;>cases b<;>cases c<;>cases d<;>rfl
 | a::b::c::d::e::l,h=>simp at h
theorem Pg.ack_waits' {W:List Bool} {k:Nat} (hk:k<W.length):Pg.ylk k (fun j=>W.getD j J)=fun j=>(W.set k J).getD j J:=by
 funext j
 unfold Pg.ylk;rw[Pg.yiD hk]
theorem Pg.post_waits {W:List Bool}:Pg.yi7 W.length (fun j=>W.getD j J)=fun j=>(W.map fun _=>B).getD j J:=by
 funext j
 unfold Pg.yi7
 by_cases h:j<W.length
 ·rw[Pg.yja W j h]
  simp[h]
 ·simp[List.getD,h]
end Go.Proofs.YtdphiompijbelaaGreat
namespace Go.Proofs.YtdphiompijbelaaGreat
open Go.RowKit
namespace Pg
def Right (L:List Mp) (q k:Int) (u:Bool) (e:Ev):Prop:=e.a=ansE L q k u/\e.f=ansF L q k u/\e.r=ansR L q k u
theorem takes_n (S:Fs):S.take.n=S.n:=by
 unfold Fs.take;split
 ·rfl
 ·split<;>rfl
theorem ykD (p s:Int):∀(lv:Nat) (S:Fs) (t:Int),(insW p s lv S t).1.n=S.n
 | 0,_,_=>rfl
 | lv+1,S,t=>by
   rw[insW];split
   ·rfl
   ·rw[ykD p s lv,(yh1 _ _ _ _).1,takes_n]
theorem ins_n (S:Fs) (t:Int) (m:Mp):(insS S t m).n=S.n:=by
 unfold insS;split
 ·rw[(yh1 _ _ _ _).1,ykD]
 ·rfl
theorem prs_n (S:Fs) (t p r:Int):(prS S t p r).n=S.n:=by
 unfold prS;split
 ·exact(yh1 _ _ _ _).1
 ·rfl
section
variable {X:Spc} {L L0:List Mp}
theorem Inv.stT (h:Inv X L L0) {k:Nat} (hk:k<X.C.length) (ho:(X.C.getD k Cr.new).K.on=B):Stepped X.S X.G L L0 X.T (X.W.getD k J) (X.C.getD k Cr.new):=bas_walk h.bas (h.cores k hk) ho
theorem ykA (h:Inv X L L0) (x:Sx):(X.goN x).S.n=X.S.n/\(X.goN x).C.length=X.C.length:=by
 unfold Spc.goN;split
 ·unfold Spc.chN
  split
  ·exact⟨rfl,rfl⟩
  ·rename_i hb
   have hb:X.busy=J:=by simpa using hb
   split
   ·exact⟨ins_n _ _ _,rfl⟩
   ·split
    ·split
     ·exact⟨(yjJ (h.rep hb) _).2.1,rfl⟩
     ·exact⟨rfl,rfl⟩
    ·split
     ·exact⟨prs_n _ _ _ _,rfl⟩
     ·exact⟨rfl,rfl⟩
 ·split
  ·exact⟨rfl,rfl⟩
  ·split
   ·exact⟨rfl,rfl⟩
   ·rename_i _ hc
    have hlt:=yiI hc;split
    ·exact⟨rfl,by simp⟩
    ·split
     ·refine⟨?_,by simp⟩
      show((X.C.getD x.core.toNat Cr.new).stS X.S 0).n=X.S.n
      cases ho:(X.C.getD x.core.toNat Cr.new).K.on
      ·rw[(yjb (S:=X.S) ho).2.2]
      ·exact(h.stT hlt ho).n
     ·split
      ·unfold Spc.akN
       split
       ·exact⟨rfl,rfl⟩
       ·split
        ·exact⟨rfl,by simp⟩
        ·exact⟨(yh5 X.G X.S h.bas.ok h.bas.nd h.bas.hs).2.2.1,by simp⟩
      ·exact⟨rfl,by simp⟩
theorem inv_tables (h:Inv X L L0):(thr X.S zW 3 0 0).2=0/\zM (thr X.S zW 3 0 0).1=L/\((0:Int)::zU (thr X.S zW 3 0 0).1).Nodup/\(((0:Int)::zU (thr X.S zW 3 0 0).1).length:Int)+X.G.length+X.S.free=X.S.n/\needed L=(((0:Int)::zU (thr X.S zW 3 0 0).1).length:Int):=by
 rw[h.bas.thr];have g:=yh5 X.G X.S h.bas.ok h.bas.nd h.bas.hs;have hf:=rep_free h.bas.rep;have hn:=rep_needed h.bas.rep;rw[g.2.2.2.2,g.2.2.1]at hf;refine⟨h.bas.rep.code,h.bas.rep.maps,h.bas.rep.nodup,?_,?_⟩
 ·rw[O]
  omega
 ·rw[hn,O]
  omega
theorem ykt (C:Cr) (q k:Int) (u:Bool):(C.bgT q k u).c=if zK q k≠0 then zK q k else if C.K.on=B then 8 else 0:=by
 unfold Cr.bgT;split
 ·rfl
 ·split
  ·rfl
  ·split
   ·rfl
   ·rfl
theorem yj0 (h:Inv X L L0) (x:Sx) (hc:(X.goE x).c≠0):X.goN x=X/\X.goE x= .code (X.goE x).c:=by
 unfold Spc.goE at hc ⊢;unfold Spc.goN
 by_cases hk:1<=x.kind/\x.kind<=3
 ·rw[if_pos hk]at hc
  rw[if_pos hk,if_pos hk];unfold Spc.chE at hc ⊢;unfold Spc.chN
  by_cases hb:X.busy=B
  ·rw[if_pos hb,if_pos hb]
   exact⟨rfl,rfl⟩
  ·rw[if_neg hb]at hc
   rw[if_neg hb,if_neg hb]
   by_cases h1:x.kind=1
   ·rw[if_pos h1]at hc
    rw[if_pos h1,if_pos h1];have hc:insC X.S 0 x.m≠0:=hc
    have:insS X.S 0 x.m=X.S:=by rw[insS,if_neg hc]
    rw[this];refine⟨rfl,?_⟩;simp[Ev.code,hc]
   ·rw[if_neg h1]at hc
    rw[if_neg h1,if_neg h1]
    by_cases h2:x.kind=2
    ·rw[if_pos h2]at hc
     rw[if_pos h2,if_pos h2,if_neg (show ¬tFC X.S 0 x.m.p=0 from hc)];exact⟨rfl,rfl⟩
    ·rw[if_neg h2]at hc
     rw[if_neg h2,if_neg h2,if_neg (show ¬prC X.S 0 x.m.p x.m.r=0 from hc)];exact⟨rfl,rfl⟩
 ·rw[if_neg hk]at hc
  rw[if_neg hk,if_neg hk]
  by_cases hk2:x.kind<1\/7<x.kind
  ·rw[if_pos hk2,if_pos hk2]
   exact⟨rfl,rfl⟩
  ·rw[if_neg hk2]at hc
   rw[if_neg hk2,if_neg hk2]
   by_cases hr:x.core<0\/(X.C.length:Int)<=x.core
   ·rw[if_pos hr,if_pos hr]
    exact⟨rfl,rfl⟩
   ·rw[if_neg hr]at hc
    rw[if_neg hr,if_neg hr];have hlt:=yiI hr
    by_cases h4:x.kind=4
    ·rw[if_pos h4]at hc
     rw[if_pos h4,if_pos h4];have hc:((X.at' x.core).bgT x.q x.k x.u).c≠0:=hc;rw[ykt]at hc
     have e1:(X.at' x.core).bgN 0 x.q x.k x.u=X.at' x.core:=by
      unfold Cr.bgN;rw[if_neg];rintro ⟨a1,a2,_⟩;rw[a1,a2]at hc;exact hc rfl
     have e2:(X.at' x.core).bgT x.q x.k x.u= .code ((X.at' x.core).bgT x.q x.k x.u).c:=by
      unfold Cr.bgT;split
      ·rfl
      ·rename_i b1
       split
       ·rfl
       ·rename_i b2
        rw[if_neg b1,if_neg b2]at hc;exact absurd rfl hc
     rw[e1];refine⟨?_,?_⟩
     ·unfold Spc.at'
      rw[yiW hlt]
     ·rw[e2]
      rfl
    ·rw[if_neg h4]at hc
     rw[if_neg h4,if_neg h4]
     by_cases h5:x.kind=5
     ·rw[if_pos h5]at hc
      rw[if_pos h5,if_pos h5];have hc:((X.C.getD x.core.toNat Cr.new).stT X.S 0).c≠0:=hc;cases ho:(X.C.getD x.core.toNat Cr.new).K.on
      ·obtain⟨o1,o2,o3⟩:=yjb (S:=X.S) ho
       unfold Spc.at';rw[o1,o2,o3,yiW hlt];exact⟨rfl,rfl⟩
      ·exact absurd (h.stT hlt ho).code hc
     ·rw[if_neg h5]at hc
      rw[if_neg h5,if_neg h5]
      by_cases h6:x.kind=6
      ·rw[if_pos h6]at hc
       rw[if_pos h6,if_pos h6];unfold Spc.akE at hc ⊢;unfold Spc.akN
       by_cases hw:X.W.getD x.core.toNat J=J
       ·rw[if_pos hw,if_pos hw]
        exact⟨rfl,rfl⟩
       ·rw[if_neg hw]at hc
        exfalso
        split at hc
        ·exact hc rfl
        ·exact hc rfl
      ·rw[if_neg h6]at hc
       rw[if_neg h6,if_neg h6]
       by_cases hL:(X.at' x.core).L=[]
       ·rw[if_pos hL]
        refine⟨?_,rfl⟩
        have:(X.at' x.core).yh2=X.at' x.core:=by
         unfold Cr.yh2;rw[hL]
         show(⟨[],(X.at' x.core).K⟩:Cr)=_
         rw[<-hL]
        rw[this];unfold Spc.at';rw[yiW hlt]
       ·rw[if_neg hL]at hc
        exact absurd rfl hc
theorem yjD {L:List Mp} (hg:Good L) {l:Ln} (hm:l.m ∈ L) {q:Int} (hq:l.m.has q=B) (k:Int) (u:Bool):Right L q k u (l.ans q k u).ev:=by
 obtain⟨h1,h2,h3⟩:=good_ans hg hm hq k u;exact⟨h1.symm,h2.symm,h3.symm⟩
theorem hit_line {C:Cr} {q k:Int} {u:Bool} (h:C.hit q k u=B):kAt C.L q ∈ C.L/\(kAt C.L q).m.has q=B/\(kAt C.L q).wants k u=J:=by
 unfold Cr.hit at h;simp only[Bool.and_eq_true,Option.isSome_iff_exists,Bool.not_eq_true']at h;obtain⟨⟨j,hj⟩,hw⟩:=h;obtain⟨k1,k2,_⟩:=yiR hj;refine⟨?_,?_,hw⟩
 ·unfold kAt
  rw[hj];exact yln k1
 ·unfold kAt
  rw[hj];exact k2
theorem bgT_ended {C:Cr} {q k:Int} {u:Bool} (h:(C.bgT q k u).ended=B):zK q k=0/\C.K.on=J/\C.hit q k u=B/\C.bgT q k u=(kAt C.L q).ans q k u:=by
 unfold Cr.bgT at h ⊢;split at h
 ·cases h
 ·rename_i h1
  split at h
  ·cases h
  ·rename_i h2
   split at h
   ·rename_i h3
    refine⟨by simpa using h1,by simpa using h2,h3,?_⟩;rw[if_neg h1,if_neg h2,if_pos h3]
   ·cases h
theorem yhS (h:Inv X L L0) (x:Sx) (he:(X.goE x).ended=B):(X.goE x).c=0/\(X.goE x).back=J/\0<=x.core/\x.core<X.C.length/\
 ((x.kind=4/\zK x.q x.k=0/\(X.at' x.core).K.on=J/\(Right L x.q x.k x.u (X.goE x)\/(X.busy=B/\Right L0 x.q x.k x.u (X.goE x))))\/
  (x.kind=5/\(X.at' x.core).K.on=B/\Right L (X.at' x.core).K.q (X.at' x.core).K.k (X.at' x.core).K.u (X.goE x))):=by
 unfold Spc.goE at he ⊢;split at he
 ·exfalso
  unfold Spc.chE at he;split at he
  ·cases he
  ·split at he
   ·cases he
   ·split at he<;>cases he
 ·rename_i hk
  split at he
  ·cases he
  ·rename_i hk2
   split at he
   ·cases he
   ·rename_i hc
    have hlt:=yiI hc;rw[if_neg hk,if_neg hk2,if_neg hc];split at he
    ·rename_i h4
     rw[if_pos h4];have he:((X.at' x.core).bgT x.q x.k x.u).ended=B:=he;obtain⟨b1,b2,b3,b4⟩:=bgT_ended he;obtain⟨l1,l2,l3⟩:=hit_line b3;rw[b4];refine⟨rfl,rfl,by omega,by omega,.inl ⟨h4,b1,b2,?_⟩⟩;rcases (h.cores _ hlt).lines _ l1 with hx|⟨hw,hx,_⟩
     ·exact .inl (yjD (yhU h.bas.rep) (hx.mem h.bas.rep) l2 _ _)
     ·have hb:X.busy=B:=E.2 ⟨B,by rw[<-hw];exact yiC (by rw[h.len];exact hlt) _,rfl⟩
      exact .inr ⟨hb,yjD (h.past hb) hx l2 _ _⟩
    ·rename_i h4
     rw[if_neg h4];split at he
     ·rename_i h5
      rw[if_pos h5];have he:((X.C.getD x.core.toNat Cr.new).stT X.S 0).ended=B:=he;cases ho:(X.C.getD x.core.toNat Cr.new).K.on
      ·rw[(yjb (S:=X.S) ho).1]at he
       cases he
      ·have hs:=h.stT hlt ho
       exact⟨hs.code,rfl,by omega,by omega,.inr ⟨h5,ho,hs.ans he⟩⟩
     ·split at he
      ·unfold Spc.akE at he
       split at he
       ·cases he
       ·split at he<;>cases he
      ·split at he<;>cases he
end
end Pg
namespace Pg
section
variable {X X0:Spc} {L L0:List Mp}
theorem busy_iff (X:Spc):X.busy=B ↔ ∃j,j<X.W.length/\X.W.getD j J=B:=by
 unfold Spc.busy;rw[E];constructor
 ·rintro ⟨b,hb,hb2⟩
  obtain⟨j,hj,rfl⟩:=List.mem_iff_getElem.1 hb;exact⟨j,hj,by simp[List.getD,hj];exact hb2⟩
 ·rintro ⟨j,hj,e⟩
  exact⟨B,by rw[<-e];exact yiC hj _,rfl⟩
end
end Pg
namespace Pg
structure Tms where
 L:List (List Mp)
 fl:Nat
def opL (L:List Mp) (x:Sx):List Mp:=if x.kind=1 then addL L x.m else if x.kind=2 then yif L x.m.p else yiO L x.m.p x.m.r
namespace Tms
end Tms
section
variable {X:Spc} {L L0:List Mp} {T:Tms}
theorem yjM (h:Inv X L L0) (x:Sx):
 ((2<=x.kind/\x.kind<=3/\(X.goE x).c=0)/\X.busy=J/\(X.goN x).busy=B/\(X.goE x).back=J)\/
 ((x.kind=1/\(X.goE x).c=0)/\X.busy=J/\(X.goN x).busy=J/\(X.goE x).back=B)\/
 (¬(1<=x.kind/\x.kind<=3/\(X.goE x).c=0)/\(((X.goE x).back=J/\(X.goN x).busy=X.busy)\/((X.goE x).back=B/\X.busy=B/\(X.goN x).busy=J/\(X.goE x).c=0))):=by
 by_cases hk:1<=x.kind/\x.kind<=3
 ·by_cases hc:(X.goE x).c=0
  ·have hg:X.goE x=X.chE x:=by unfold Spc.goE;rw[if_pos hk]
   have hN:X.goN x=X.chN x:=by unfold Spc.goN;rw[if_pos hk]
   rw[hg]at hc ⊢;rw[hN];unfold Spc.chE at hc ⊢;unfold Spc.chN
   by_cases hb:X.busy=B
   ·rw[if_pos hb]at hc
    cases hc
   ·rw[if_neg hb]at hc
    rw[if_neg hb,if_neg hb]
    have hb':X.busy=J:=by simpa using hb
    by_cases h1:x.kind=1
    ·rw[if_pos h1]at hc
     rw[if_pos h1,if_pos h1];have hc:insC X.S 0 x.m=0:=hc;exact .inr (.inl ⟨⟨h1,hc⟩,hb',hb',by simp[hc]⟩)
    ·rw[if_neg h1]at hc
     rw[if_neg h1,if_neg h1]
     have hsome:1<=X.W.length:=by rw[h.len];exact h.some
     by_cases h2:x.kind=2
     ·rw[if_pos h2]at hc
      rw[if_pos h2,if_pos h2,if_pos (show tFC X.S 0 x.m.p=0 from hc)];exact .inl ⟨⟨by omega,hk.2,hc⟩,hb',yhL hsome,rfl⟩
     ·rw[if_neg h2]at hc
      rw[if_neg h2,if_neg h2,if_pos (show prC X.S 0 x.m.p x.m.r=0 from hc)];exact .inl ⟨⟨by omega,hk.2,hc⟩,hb',yhL hsome,rfl⟩
  ·obtain⟨e1,e2⟩:=yj0 h x hc
   refine .inr (.inr ⟨fun e=>hc e.2.2,.inl ⟨by rw[e2];rfl,by rw[e1]⟩⟩)
 ·refine .inr (.inr ⟨fun e=>hk ⟨e.1,e.2.1⟩,?_⟩)
  unfold Spc.goE Spc.goN;rw[if_neg hk,if_neg hk]
  by_cases hk2:x.kind<1\/7<x.kind
  ·rw[if_pos hk2,if_pos hk2]
   exact .inl ⟨rfl,rfl⟩
  ·rw[if_neg hk2,if_neg hk2]
   by_cases hr:x.core<0\/(X.C.length:Int)<=x.core
   ·rw[if_pos hr,if_pos hr]
    exact .inl ⟨rfl,rfl⟩
   ·rw[if_neg hr,if_neg hr]
    by_cases h4:x.kind=4
    ·rw[if_pos h4,if_pos h4]
     exact .inl ⟨rfl,rfl⟩
    ·rw[if_neg h4,if_neg h4]
     by_cases h5:x.kind=5
     ·rw[if_pos h5,if_pos h5]
      exact .inl ⟨rfl,rfl⟩
     ·rw[if_neg h5,if_neg h5]
      by_cases h6:x.kind=6
      ·rw[if_pos h6,if_pos h6]
       have hlt:=yiI hr;unfold Spc.akE Spc.akN
       by_cases hw:X.W.getD x.core.toNat J=J
       ·rw[if_pos hw,if_pos hw]
        exact .inl ⟨rfl,rfl⟩
       ·rw[if_neg hw,if_neg hw]
        have hw:X.W.getD x.core.toNat J=B:=by simpa using hw
        have hb:X.busy=B:=(busy_iff X).2 ⟨_,by rw[h.len];exact hlt,hw⟩
        by_cases ha:(X.W.set x.core.toNat J).any id=B
        ·rw[if_pos ha,if_pos ha]
         exact .inl ⟨rfl,ha.trans hb.symm⟩
        ·rw[if_neg ha,if_neg ha]
         have ha:(X.W.set x.core.toNat J).any id=J:=by simpa using ha
         exact .inr ⟨rfl,hb,ha,rfl⟩
      ·rw[if_neg h6,if_neg h6]
       split
       ·exact .inl ⟨rfl,rfl⟩
       ·exact .inl ⟨rfl,rfl⟩
end
end Pg
set_option maxRecDepth 100000
namespace Pg
def Spc.maps (X:Spc):List Mp:=if (thr X.S zW 3 0 0).2=0 then zM (thr X.S zW 3 0 0).1 else []
def Spc.tabs (X:Spc):List Int:=if (thr X.S zW 3 0 0).2=0 then 0::zU (thr X.S zW 3 0 0).1 else []
end Pg
end Go.Proofs.YtdphiompijbelaaGreat
namespace Go.Proofs.YtdphiompijbelaaGreat
open Go.RowKit
namespace Pg
def ans3 (L:List Mp) (q k:Int) (u:Bool):Int×Int×Int:=(ansE L q k u,ansF L q k u,ansR L q k u)
def Wk.ans (L:List Mp) (K:Wk):Int×Int×Int:=ans3 L K.q K.k K.u
structure WOk (X:Spc) (L L0 fl nw:List Mp) (d:Nat->Option Nat) (A:Nat->List (Int×Int×Int)):Prop where
 inv:Inv X L L0
 now:nw=L
 busy:X.busy=B->fl=L0
 calm:X.busy=J->fl=L
 due:∀j:Nat,j<4->(X.walkOf j).on=B->d j≠I/\(X.walkOf j).ans L ∈ A j
 le:X.C.length<=4
section
variable {X:Spc} {L L0 fl nw:List Mp} {d:Nat->Option Nat} {A:Nat->List (Int×Int×Int)}
theorem walk_ok (h:Inv X L L0) (k:Int):(X.walkOf k).Ok:=by
 unfold Spc.walkOf;split
 ·by_cases hk:k.toNat<X.C.length
  ·exact(h.cores _ hk).ok.walk
  ·rw[show X.C.getD k.toNat Cr.new=Cr.new from by simp[List.getD,List.getElem?_eq_none (Nat.le_of_not_lt hk)]]
   exact Wk.yiT
 ·exact Wk.yiT
theorem walk_fits (h:Inv X L L0) (k:Int):fits (X.walkOf k).q:=by
 have hw:=walk_ok h k;cases ho:(X.walkOf k).on
 ·rw[hw.idle ho]
  show fits 0
  unfold fits;omega
 ·have:=zB.1 (hw.page ho)
  unfold fits;omega
def Wk.Was (K K':Wk):Prop:=K'.on=B->K.on=B/\K'.q=K.q/\K'.k=K.k/\K'.u=K.u
theorem Wk.Was.refl (K:Wk):K.Was K:=fun h=>⟨h,rfl,rfl,rfl⟩
theorem Wk.yjw (K:Wk) (root:Int):K.Was (K.again root):=by
 unfold Wk.again;split
 ·rename_i ho
  exact fun _=>⟨ho,rfl,rfl,rfl⟩
 ·exact .refl K
theorem Wk.was_next (S:Fs) (root:Int) (K:Wk):K.Was ((kOut S root K).next K):=by
 unfold kOut;split
 ·exact .refl K
 ·rename_i ho
  have ho:K.on=B:=by simpa using ho
  split
  ·exact .refl K
  ·split
   ·split
    ·intro e
     cases e
    ·exact K.yjw root
   ·split
    ·exact .refl K
    ·split
     ·intro e
      cases e
     ·split
      ·exact fun _=>⟨ho,rfl,rfl,rfl⟩
      ·split
       ·intro e
        cases e
       ·split
        ·exact fun _=>⟨ho,rfl,rfl,rfl⟩
        ·intro e
         cases e
theorem ended_off {S:Fs} {K:Wk} {root:Int} (h:((kOut S root K).res K).ended=B):(kOut S root K).next K=Wk.off:=by
 rcases hk:kOut S root K with c|K'|r|⟨e,m⟩
 ·rw[hk]at h;cases h
 ·rw[hk]at h;cases h
 ·rfl
 ·rfl
theorem yh6 {k:Nat} {C':Cr} {S':Fs} {G':List Int} {T':Mp} {W':List Bool} (hk:k<X.C.length) (j:Nat):(⟨S',X.C.set k C',G',T',W'⟩:Spc).walkOf (j:Int)=if j=k then C'.K else X.walkOf (j:Int):=by
 unfold Spc.walkOf;have hj:(0:Int)<=(j:Int):=V j;simp only[if_pos hj,Q];rw[yiD hk]
 split<;>rfl
theorem yjC (h:Inv X L L0) (x:Sx) (j:Nat):
 (X.walkOf j).Was ((X.goN x).walkOf j)\/(x.kind=4/\x.core=j/\(X.goE x).c=0/\(X.goE x).ended=J/\(X.goN x).walkOf j=Wk.start 0 x.q x.k x.u):=by
 by_cases hk:1<=x.kind/\x.kind<=3
 ·refine .inl ?_
  have:(X.goN x).C=X.C:=by
   unfold Spc.goN;rw[if_pos hk];unfold Spc.chN Spc.post;split
   ·rfl
   ·split
    ·rfl
    ·split
     ·split<;>rfl
     ·split<;>rfl
  unfold Spc.walkOf;rw[this];exact .refl _
 ·by_cases hk2:x.kind<1\/7<x.kind
  ·refine .inl ?_
   unfold Spc.goN;rw[if_neg hk,if_pos hk2];exact .refl _
  ·by_cases hr:x.core<0\/(X.C.length:Int)<=x.core
   ·refine .inl ?_
    unfold Spc.goN;rw[if_neg hk,if_neg hk2,if_pos hr];exact .refl _
   ·have hlt:=yiI hr
    have ew:∀i:Nat,i=x.core.toNat->X.walkOf i=(X.at' x.core).K:=fun i e=>by
     unfold Spc.walkOf Spc.at';rw[if_pos (V i),Q,e]
    unfold Spc.goN Spc.goE;rw[if_neg hk,if_neg hk2,if_neg hr,if_neg hk,if_neg hk2,if_neg hr]
    by_cases h4:x.kind=4
    ·rw[if_pos h4,if_pos h4,yh6 hlt]
     by_cases e:j=x.core.toNat
     ·rw[if_pos e,ew j e]
      unfold Cr.bgN
      by_cases hc:zK x.q x.k=0/\(X.at' x.core).K.on=J/\(X.at' x.core).hit x.q x.k x.u=J
      ·rw[if_pos hc]
       obtain⟨c1,c2,c3⟩:=hc;refine .inr ⟨h4,by omega,?_,?_,rfl⟩
       ·unfold Cr.bgT
        rw[if_neg (by simp[c1]),if_neg (by simp[c2]),if_neg (by simp[c3])];rfl
       ·unfold Cr.bgT
        rw[if_neg (by simp[c1]),if_neg (by simp[c2]),if_neg (by simp[c3])];rfl
      ·rw[if_neg hc]
       exact .inl (.refl _)
     ·rw[if_neg e]
      exact .inl (.refl _)
    ·rw[if_neg h4,if_neg h4]
     refine .inl ?_
     by_cases h5:x.kind=5
     ·rw[if_pos h5,yh6 hlt]
      by_cases e:j=x.core.toNat
      ·rw[if_pos e,ew j e]
       exact Wk.was_next _ _ _
      ·rw[if_neg e]
       exact .refl _
     ·rw[if_neg h5]
      by_cases h6:x.kind=6
      ·rw[if_pos h6]
       unfold Spc.akN;split
       ·exact .refl _
       ·split
        ·rw[yh6 hlt]
         by_cases e:j=x.core.toNat
         ·rw[if_pos e,ew j e]
          exact Wk.yjw _ _
         ·rw[if_neg e]
          exact .refl _
        ·rw[yh6 hlt]
         by_cases e:j=x.core.toNat
         ·rw[if_pos e,ew j e]
          exact Wk.yjw _ _
         ·rw[if_neg e]
          exact .refl _
      ·rw[if_neg h6,yh6 hlt]
       by_cases e:j=x.core.toNat
       ·rw[if_pos e,ew j e]
        exact .refl _
       ·rw[if_neg e]
        exact .refl _
theorem ykz (h:Inv X L L0) (x:Sx) (he:(X.goE x).ended=B):((X.goN x).walkOf x.core).on=J:=by
 obtain⟨_,_,c1,c2,hx⟩:=yhS h x he
 have hr:¬(x.core<0\/(X.C.length:Int)<=x.core):=by omega
 have hlt:=yiI hr
 have ec:((x.core.toNat:Nat):Int)=x.core:=by omega
 rcases hx with ⟨k4,_,ho,_⟩|⟨k5,_,_⟩
 ·rcases yjC h x x.core.toNat with hw|⟨_,_,_,e,_⟩
  ·rw[ec]at hw
   cases hn:((X.goN x).walkOf x.core).on
   ·rfl
   ·have:=(hw hn).1
    unfold Spc.walkOf at this;rw[if_pos c1]at this;unfold Spc.at' at ho;rw[ho]at this;cases this
  ·rw[he]at e
   cases e
 ·have he2:((kOut X.S 0 (X.at' x.core).K).res (X.at' x.core).K).ended=B:=by
   have:=he;unfold Spc.goE at this;rw[if_neg (by omega),if_neg (by omega),if_neg hr,if_neg (by omega),if_pos k5]at this;exact this
  have en:(X.goN x).walkOf x.core=(kOut X.S 0 (X.at' x.core).K).next (X.at' x.core).K:=by
   unfold Spc.goN;rw[if_neg (by omega),if_neg (by omega),if_neg hr,if_neg (by omega),if_pos k5];have:=yh6 (X:=X) (C':=(X.at' x.core).stN X.S 0) (S':=(X.at' x.core).stS X.S 0) (G':=X.G) (T':=X.T) (W':=X.W) hlt x.core.toNat;rw[ec,if_pos rfl]at this;exact this
  rw[en,ended_off he2];rfl
theorem yjs {e:Ev} {q k:Int} {u:Bool} (h:Right L q k u e):(e.a,e.f,e.r)=ans3 L q k u:=by
 obtain⟨a1,a2,a3⟩:=h;unfold ans3;rw[a1,a2,a3]
theorem WOk.walked (h:WOk X L L0 fl nw d A) (x:Sx) (he:(X.goE x).ended=B) (hk:x.kind=5):0<=x.core/\x.core<4/\d x.core.toNat≠I/\((X.goE x).a,(X.goE x).f,(X.goE x).r) ∈ A x.core.toNat:=by
 obtain⟨_,_,c1,c2,hx⟩:=yhS h.inv x he;have hle:=h.le;rcases hx with ⟨k4,_⟩|⟨_,ho,hr⟩
 ·omega
 ·have ew:X.walkOf x.core.toNat=(X.at' x.core).K:=by
   unfold Spc.walkOf Spc.at';rw[if_pos (V _),Q]
  obtain⟨d1,d2⟩:=h.due x.core.toNat (by omega) (by rw[ew];exact ho);refine⟨c1,by omega,d1,?_⟩;rw[yjs hr];rw[ew]at d2;exact d2
theorem WOk.hit (h:WOk X L L0 fl nw d A) (x:Sx) (he:(X.goE x).ended=B) (hk:x.kind=4):0<=x.core/\x.core<4/\((X.goE x).a,(X.goE x).f,(X.goE x).r) ∈ [ans3 nw x.q x.k x.u,ans3 fl x.q x.k x.u]:=by
 obtain⟨_,_,c1,c2,hx⟩:=yhS h.inv x he;have hle:=h.le;rcases hx with ⟨_,_,_,hr⟩|⟨k5,_⟩
 ·refine⟨c1,by omega,?_⟩
  rcases hr with hr|⟨hb,hr⟩
  ·rw[yjs hr,h.now]
   exact U
  ·rw[yjs hr,h.busy hb]
   simp
 ·omega
def ykm (d:Nat->Option Nat) (X:Spc) (nw:List Mp) (A:Nat->List (Int×Int×Int)):Nat->List (Int×Int×Int):=fun j=>if d j=I then A j else(X.walkOf j).ans nw::A j
theorem Wk.Was.ans {K K':Wk} (h:K.Was K') (ho:K'.on=B) (M:List Mp):K'.ans M=K.ans M:=by
 obtain⟨_,a,b,c⟩:=h ho;unfold Wk.ans;rw[a,b,c]
theorem WOk.change (h:WOk X L L0 fl nw d A) (x:Sx) (hk:1<=x.kind/\x.kind<=3) (hc:(X.goE x).c=0):
 WOk (X.goN x) (X.nxL L x) (X.nxP L L0 x) (if (X.goE x).back=B then X.nxL L x else fl) (X.nxL L x) d (ykm d (X.goN x) (X.nxL L x) A):=by
 have hs:=ykA h.inv x;refine⟨yjN h.inv x,rfl,fun e=> ?_,fun e=> ?_,fun j hj ho=> ?_,by rw[hs.2];exact h.le⟩
 ·rcases yjM h.inv x with ⟨⟨k1,k2,k3⟩,b1,b2,b3⟩|⟨⟨k1,k3⟩,b1,b2,b3⟩|⟨hn,_⟩
  ·rw[b3,if_neg (by decide),h.calm b1]
   unfold Spc.nxP;rw[if_pos ⟨k1,k2,k3⟩]
  ·rw[e]at b2
   cases b2
  ·exact absurd ⟨hk.1,hk.2,hc⟩ hn
 ·rcases yjM h.inv x with ⟨⟨k1,k2,k3⟩,b1,b2,b3⟩|⟨⟨k1,k3⟩,b1,b2,b3⟩|⟨hn,_⟩
  ·rw[e]at b2
   cases b2
  ·rw[b3,if_pos rfl]
  ·exact absurd ⟨hk.1,hk.2,hc⟩ hn
 ·rcases yjC h.inv x j with hw|⟨k4,_⟩
  ·obtain⟨d1,_⟩:=h.due j hj (hw ho).1
   refine⟨d1,?_⟩;unfold ykm;rw[if_neg d1];exact U
  ·omega
theorem ykn (x:Sx) (hn:¬(1<=x.kind/\x.kind<=3/\(X.goE x).c=0)):X.nxL L x=L/\X.nxP L L0 x=L0:=by
 constructor
 ·unfold Spc.nxL
  rw[if_neg hn]
 ·unfold Spc.nxP
  rw[if_neg (fun e=>hn ⟨by omega,e.2⟩)]
theorem WOk.other (h:WOk X L L0 fl nw d A) (x:Sx) (hn:¬(1<=x.kind/\x.kind<=3/\(X.goE x).c=0)) {d':Nat->Option Nat} {A':Nat->List (Int×Int×Int)}
 (hd:∀j:Nat,j<4->((X.goN x).walkOf j).on=B->d' j≠I/\((X.goN x).walkOf j).ans L ∈ A' j):
 WOk (X.goN x) (X.nxL L x) (X.nxP L L0 x) (if (X.goE x).back=B then nw else fl) nw d' A':=by
 have hi:=yjN h.inv x;have hs:=ykA h.inv x;obtain⟨e1,e2⟩:=ykn (X:=X) (L:=L) (L0:=L0) x hn;rw[e1,e2]at hi ⊢;refine⟨hi,h.now,fun e=> ?_,fun e=> ?_,hd,by rw[hs.2];exact h.le⟩
 ·rcases yjM h.inv x with ⟨⟨k1,k2,k3⟩,_⟩|⟨⟨k1,k3⟩,_⟩|⟨_,⟨b1,b2⟩|⟨b1,b2,b3,_⟩⟩
  ·exact absurd ⟨by omega,k2,k3⟩ hn
  ·exact absurd ⟨by omega,by omega,k3⟩ hn
  ·rw[b1,if_neg (by decide)]
   exact h.busy (by rw[<-b2];exact e)
  ·rw[e]at b3
   cases b3
 ·rcases yjM h.inv x with ⟨⟨k1,k2,k3⟩,_⟩|⟨⟨k1,k3⟩,_⟩|⟨_,⟨b1,b2⟩|⟨b1,b2,b3,_⟩⟩
  ·exact absurd ⟨by omega,k2,k3⟩ hn
  ·exact absurd ⟨by omega,by omega,k3⟩ hn
  ·rw[b1,if_neg (by decide)]
   exact h.calm (by rw[<-b2];exact e)
  ·rw[b1,if_pos rfl]
   exact h.now
theorem WOk.same (h:WOk X L L0 fl nw d A) (x:Sx) (hn:¬(1<=x.kind/\x.kind<=3/\(X.goE x).c=0)) (h4:¬(x.kind=4/\(X.goE x).c=0)):
 WOk (X.goN x) (X.nxL L x) (X.nxP L L0 x) (if (X.goE x).back=B then nw else fl) nw d A:=
 h.other x hn fun j hj ho=>by
  rcases yjC h.inv x j with hw|⟨k4,_,k0,_⟩
  ·obtain⟨d1,d2⟩:=h.due j hj (hw ho).1
   exact⟨d1,by rw[hw.ans ho];exact d2⟩
  ·exact absurd ⟨k4,k0⟩ h4
theorem WOk.ends (h:WOk X L L0 fl nw d A) (x:Sx) (hk:x.kind=5) (he:(X.goE x).ended=B):
 WOk (X.goN x) (X.nxL L x) (X.nxP L L0 x) (if (X.goE x).back=B then nw else fl) nw (fun j=>if j=x.core.toNat then I else d j) A:=
 h.other x (by omega) fun j hj ho=>by
  have hoff:=ykz h.inv x he;obtain⟨_,_,c1,_⟩:=yhS h.inv x he
  by_cases e:j=x.core.toNat
  ·exfalso
   rw[show((j:Nat):Int)=x.core by omega,hoff]at ho;cases ho
  ·rw[if_neg e]
   rcases yjC h.inv x j with hw|⟨k4,_⟩
   ·obtain⟨d1,d2⟩:=h.due j hj (hw ho).1
    exact⟨d1,by rw[hw.ans ho];exact d2⟩
   ·omega
theorem WOk.begins (h:WOk X L L0 fl nw d A) (x:Sx) (hk:x.kind=4) (hc:(X.goE x).c=0) (he:(X.goE x).ended=J) (m:Nat):
 WOk (X.goN x) (X.nxL L x) (X.nxP L L0 x) (if (X.goE x).back=B then nw else fl) nw (fun j=>if j=x.core.toNat then R m else d j) (fun j=>if j=x.core.toNat then [ans3 nw x.q x.k x.u,ans3 fl x.q x.k x.u]else A j):=
 h.other x (by omega) fun j hj ho=>by
  rcases yjC h.inv x j with hw|⟨k4,hco,k0,_,hw⟩
  ·by_cases e:j=x.core.toNat
   ·exfalso
    have:=(hw ho).1
    have hr:¬(x.core<0\/(X.C.length:Int)<=x.core):=by
     intro hr;unfold Spc.goE at hc;rw[if_neg (by omega),if_neg (by omega),if_pos hr]at hc;cases hc
    unfold Spc.goE at hc;rw[if_neg (by omega),if_neg (by omega),if_neg hr,if_pos hk]at hc;have hb:=ykt (X.at' x.core) x.q x.k x.u
    have ew:X.walkOf j=(X.at' x.core).K:=by
     unfold Spc.walkOf Spc.at';rw[if_pos (V j),Q,e]
    rw[ew]at this;have hc:((X.at' x.core).bgT x.q x.k x.u).c=0:=hc;rw[hc,this]at hb;split at hb
    ·omega
    ·simp at hb
   ·rw[if_neg e,if_neg e]
    obtain⟨d1,d2⟩:=h.due j hj (hw ho).1;exact⟨d1,by rw[hw.ans ho];exact d2⟩
  ·have e:j=x.core.toNat:=by omega
   rw[if_pos e,if_pos e];refine⟨by simp,?_⟩;rw[hw,h.now];exact U
theorem WOk.hits (h:WOk X L L0 fl nw d A) (x:Sx) (hk:x.kind=4) (he:(X.goE x).ended=B) {A':Nat->List (Int×Int×Int)} (hA:∀j,j≠x.core.toNat->A' j=A j):
 WOk (X.goN x) (X.nxL L x) (X.nxP L L0 x) (if (X.goE x).back=B then nw else fl) nw (fun j=>if j=x.core.toNat then I else d j) A':=
 h.other x (by omega) fun j hj ho=>by
  have hoff:=ykz h.inv x he;obtain⟨_,_,c1,_⟩:=yhS h.inv x he
  by_cases e:j=x.core.toNat
  ·exfalso
   rw[show((j:Nat):Int)=x.core by omega,hoff]at ho;cases ho
  ·rw[if_neg e,hA j e]
   rcases yjC h.inv x j with hw|⟨_,_,_,k0,_⟩
   ·obtain⟨d1,d2⟩:=h.due j hj (hw ho).1
    exact⟨d1,by rw[hw.ans ho];exact d2⟩
   ·rw[he]at k0
    cases k0
end
end Pg
end Go.Proofs.YtdphiompijbelaaGreat
