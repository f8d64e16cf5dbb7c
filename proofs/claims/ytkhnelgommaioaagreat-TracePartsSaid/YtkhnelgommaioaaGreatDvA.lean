import Derived.Test.YtkhnelgommaioaaGreatPlainSD
import Derived.Test.YtkhnelgommaioaaGreatCrA
import Derived.Test.YtkhnelgommaioaaGreatShB
import Derived.Test.YtkhnelgommaioaaGreatSpVal
namespace Go.Proofs.YtkhnelgommaioaaGreat
open Go.RowKit Go.Sort
set_option linter.unusedVariables false
set_option linter.unusedSimpArgs false
set_option maxRecDepth 100000
structure Dsd where
 bm:Nat
 FM:Nat->Prop
 gc:Nat
 cc:Nat
 cb:Nat->Nat
 cF:Nat->Nat->Prop
 bs:Nat
 ag:Option Addr
 cg:Nat
def Dsd.own (D:Dsd) (b n:Nat) (G:List Int):Nat->Nat->Prop
 | 0,x=>x=b
 | 1,x=>D.FM x
 | 2,x=>x=D.gc
 | 3,x=>x=D.bs
 | 4,x=>G≠[]/\D.ag=some ⟨x,0,none⟩
 | k+5,x=>k<n/\D.cF k x
structure Dsk (w:World) (b:Nat) (D:Dsd) (X:Pg.Spc):Prop where
 c0:w.cell? ⟨b,0,none⟩=some (.pointer (some ⟨D.bm,0,none⟩))
 c1:w.cell? ⟨b,1,none⟩=some (.int .i64 0)
 c2:w.cell? ⟨b,2,none⟩=some (.slice (some ⟨D.gc,0,none⟩) X.C.length D.cc)
 c3:w.cell? ⟨b,3,none⟩=some (.pointer (some ⟨D.bs,0,none⟩))
 c4:w.cell? ⟨b,4,none⟩=some (.slice D.ag X.G.length D.cg)
 fb:∀p,w.frozen? ⟨b,p,none⟩=false
 mem:FrAt w D.bm X.S D.FM
 row:∀k,k<X.C.length->w.cell? ⟨D.gc,k,none⟩=some (.pointer (some ⟨D.cb k,0,none⟩))
 core:∀k,k<X.C.length->CrAt w (D.cb k) 0 (X.C.getD k Pg.Cr.new) (D.cF k)
 tl:ShAt w D.bs X.T (fun k=>X.W.getD k false)
 gone:IntsAt w D.ag X.G
 part:∀i j x,D.own b X.C.length X.G i x->D.own b X.C.length X.G j x->i=j
 len:X.W.length=X.C.length
 pos:1<=X.C.length
 le:X.C.length<=4
 told:Pg.fits X.T.p
 few:X.G.length<=4680
def dsF (D:Dsd) (b n:Nat) (G:List Int):Nat->Prop:=fun x=>∃i,D.own b n G i x
namespace Dsk
variable {w w':World} {b:Nat} {D D':Dsd} {X:Pg.Spc}
theorem lb (h:Dsk w b D X):b<w.heap.size:=World.block_lt_of_cell? _ _ h.c0
theorem lt (h:Dsk w b D X) {i x:Nat} (hx:D.own b X.C.length X.G i x):x<w.heap.size:=by
 match i with
 | 0=>have hx:x=b:=hx;rw[hx];exact h.lb
 | 1=>exact h.mem.lt hx
 | 2=>have hx:x=D.gc:=hx;rw[hx];exact World.block_lt_of_cell? _ _ (h.row 0 h.pos)
 | 3=>have hx:x=D.bs:=hx;rw[hx];exact h.tl.lb
 | 4=>
   obtain⟨hG,ha⟩:=hx
   have:0<X.G.length:=List.length_pos_iff.2 hG
   obtain⟨g,e,hl,_⟩:=h.gone 0 this
   rw[ha]at e
   injection e with e
   injection e with e
   rw[e]
   exact hl
 | k+5=>exact(h.core k hx.1).lt hx.2
theorem others (h:Dsk w b D X) {F:Nat->Prop} (hb:But F w w'):
 ((∀x,D.own b X.C.length X.G 0 x->¬F x)->(∀p,w'.cell? ⟨b,p,none⟩=w.cell? ⟨b,p,none⟩)/\∀p,w'.frozen? ⟨b,p,none⟩=false)/\
 ((∀x,D.own b X.C.length X.G 1 x->¬F x)->FrAt w' D.bm X.S D.FM)/\
 ((∀x,D.own b X.C.length X.G 2 x->¬F x)->∀k,k<X.C.length->w'.cell? ⟨D.gc,k,none⟩=some (.pointer (some ⟨D.cb k,0,none⟩)))/\
 ((∀x,D.own b X.C.length X.G 3 x->¬F x)->ShAt w' D.bs X.T (fun k=>X.W.getD k false))/\
 ((∀x,D.own b X.C.length X.G 4 x->¬F x)->IntsAt w' D.ag X.G)/\
 (∀k,k<X.C.length->(∀x,D.own b X.C.length X.G (k+5) x->¬F x)->CrAt w' (D.cb k) 0 (X.C.getD k Pg.Cr.new) (D.cF k)):=by
 refine⟨fun hF=> ?_,fun hF=>h.mem.keep hb hF,fun hF k hk=> ?_,fun hF=>h.tl.keep hb (hF _ rfl),fun hF=> ?_,fun k hk hF=> ?_⟩
 ·have kb:=hb.block b h.lb (hF b rfl)
  exact⟨fun p=>World.cell?_of_block (a:=⟨b,p,none⟩) kb,fun p=>(World.frozen?_of_block (a:=⟨b,p,none⟩) kb).trans (h.fb p)⟩
 ·exact(hb.cell (a:=⟨D.gc,k,none⟩) (World.block_lt_of_cell? _ _ (h.row k hk)) (hF _ rfl)).trans (h.row k hk)
 ·intro j hj
  obtain⟨g,e,hl,hc⟩:=h.gone j hj
  refine⟨g,e,Nat.lt_of_lt_of_le hl hb.size,(hb.cell (a:=⟨g,j,none⟩) hl (hF g ⟨?_,e⟩)).trans hc⟩
  intro e0
  rw[e0]at hj
  simp at hj
 ·exact(h.core k hk).keep hb fun x hx=>hF x ⟨hk,hx⟩
theorem keep (h:Dsk w b D X) {F:Nat->Prop} (hb:But F w w') (hF:∀x,dsF D b X.C.length X.G x->¬F x):Dsk w' b D X:=by
 obtain⟨o0,o1,o2,o3,o4,o5⟩:=h.others hb
 have hF:∀i x,D.own b X.C.length X.G i x->¬F x:=fun i x hx=>hF x ⟨i,hx⟩
 obtain⟨e0,f0⟩:=o0 (hF 0)
 exact⟨(e0 0).trans h.c0,(e0 1).trans h.c1,(e0 2).trans h.c2,(e0 3).trans h.c3,(e0 4).trans h.c4,f0,o1 (hF 1),o2 (hF 2),fun k hk=>o5 k hk (hF _),o3 (hF 3),o4 (hF 4),h.part,h.len,h.pos,h.le,h.told,h.few⟩
theorem grow (h:Dsk w b D X) (hb:Below w.heap.size w w'):Dsk w' b D X:=h.keep (F:=fun _=>False) (But.of_below hb) (fun _ _=>id)
theorem part_gen (h:Dsk w b D X) {G':List Int} (ho:∀i x,D'.own b X.C.length G' i x->D.own b X.C.length X.G i x\/w.heap.size<=x) (hn:∀i j x,w.heap.size<=x->D'.own b X.C.length G' i x->D'.own b X.C.length G' j x->i=j):∀i j x,D'.own b X.C.length G' i x->D'.own b X.C.length G' j x->i=j:=by
 intro i j x hi hj
 rcases ho i x hi with h1|h1
 ·rcases ho j x hj with h2|h2
  ·exact h.part i j x h1 h2
  ·have:=h.lt h1
   omega
 ·exact hn i j x h1 hi hj
theorem part_one (h:Dsk w b D X) {l:Nat} {G':List Int} (ho:∀i,i≠l->∀x,D'.own b X.C.length G' i x->D.own b X.C.length X.G i x) (hl:∀x,D'.own b X.C.length G' l x->D.own b X.C.length X.G l x\/w.heap.size<=x):∀i j x,D'.own b X.C.length G' i x->D'.own b X.C.length G' j x->i=j:=by
 refine h.part_gen (fun i x hx=> ?_) (fun i j x hx hi hj=> ?_)
 ·by_cases e:i=l
  ·subst e
   exact hl x hx
  ·exact .inl (ho i e x hx)
 ·have key:∀i,D'.own b X.C.length G' i x->i=l:=fun i hi=>by
   by_cases e:i=l
   ·exact e
   ·have:=h.lt (ho i e x hi)
    omega
  rw[key i hi,key j hj]
theorem frames {S':Pg.Fs} {FM':Nat->Prop} (h:Dsk w b D X) (hm:FrAt w' D.bm S' FM') (hb:But D.FM w w') (hF:∀x,FM' x->D.FM x\/w.heap.size<=x):Dsk w' b {D with FM:=FM'} {X with S:=S'}:=by
 obtain⟨o0,o1,o2,o3,o4,o5⟩:=h.others hb
 have hF':∀i,i≠1->∀x,D.own b X.C.length X.G i x->¬D.FM x:=fun i hi x hx hm=>hi (h.part i 1 x hx hm)
 obtain⟨e0,f0⟩:=o0 (hF' 0 (by decide))
 refine⟨(e0 0).trans h.c0,(e0 1).trans h.c1,(e0 2).trans h.c2,(e0 3).trans h.c3,(e0 4).trans h.c4,f0,hm,o2 (hF' 2 (by decide)),fun k hk=>o5 k hk (hF' _ (by omega)),o3 (hF' 3 (by decide)),o4 (hF' 4 (by decide)),h.part_one (l:=1) (fun i hi x hx=> ?_) (fun x hx=>hF x hx),h.len,h.pos,h.le,h.told,h.few⟩
 match i with
 | 0=>exact hx
 | 1=>exact absurd rfl hi
 | 2=>exact hx
 | 3=>exact hx
 | 4=>exact hx
 | k+5=>exact hx
theorem walked {k:Nat} {C':Pg.Cr} {S':Pg.Fs} {Fc FM':Nat->Prop} (h:Dsk w b D X) (hk:k<X.C.length) (hC:CrAt w' (D.cb k) 0 C' Fc) (hm:FrAt w' D.bm S' FM') (hb:But (fun j=>D.cF k j\/D.FM j) w w') (hF:∀x,Fc x->D.cF k x\/w.heap.size<=x) (hF2:∀x,FM' x->D.FM x\/w.heap.size<=x) (hne:∀x,Fc x->¬FM' x):
 Dsk w' b {D with cF:=fun j=>if j=k then Fc else D.cF j,FM:=FM'} {X with S:=S',C:=X.C.set k C'}:=by
 obtain⟨o0,o1,o2,o3,o4,o5⟩:=h.others hb
 have hF':∀i,i≠k+5->i≠1->∀x,D.own b X.C.length X.G i x->¬(D.cF k x\/D.FM x):=fun i hi h1 x hx hm=>hm.elim (fun hm=>hi (h.part i (k+5) x hx ⟨hk,hm⟩)) (fun hm=>h1 (h.part i 1 x hx hm))
 obtain⟨e0,f0⟩:=o0 (hF' 0 (by omega) (by omega))
 have hl:(X.C.set k C').length=X.C.length:=List.length_set
 have old:∀i,i≠k+5->i≠1->∀x,({D with cF:=fun j=>if j=k then Fc else D.cF j,FM:=FM'}:Dsd).own b X.C.length X.G i x->D.own b X.C.length X.G i x:=fun i hi h1 x hx=>by
  match i with
  | 0=>exact hx
  | 1=>exact absurd rfl h1
  | 2=>exact hx
  | 3=>exact hx
  | 4=>exact hx
  | j+5=>
    obtain⟨a1,a2⟩:=hx
    simp only at a2
    rw[if_neg (by omega)]at a2
    exact⟨a1,a2⟩
 have new:∀x,({D with cF:=fun j=>if j=k then Fc else D.cF j,FM:=FM'}:Dsd).own b X.C.length X.G (k+5) x->Fc x:=fun x hx=>by
  obtain⟨a1,a2⟩:=hx
  simpa only[if_true]using a2
 have hpart:∀i j x,({D with cF:=fun j=>if j=k then Fc else D.cF j,FM:=FM'}:Dsd).own b X.C.length X.G i x->({D with cF:=fun j=>if j=k then Fc else D.cF j,FM:=FM'}:Dsd).own b X.C.length X.G j x->i=j:=by
  refine h.part_gen (fun i x hx=> ?_) (fun i j x hx hi hj=> ?_)
  ·by_cases e:i=k+5
   ·subst e
    exact(hF x (new x hx)).imp (fun h=>⟨hk,h⟩) id
   ·by_cases e1:i=1
    ·subst e1
     exact hF2 x hx
    ·exact .inl (old i e e1 x hx)
  ·have key:∀i,({D with cF:=fun j=>if j=k then Fc else D.cF j,FM:=FM'}:Dsd).own b X.C.length X.G i x->i=k+5\/i=1:=fun i hi=>by
    by_cases e:i=k+5
    ·exact .inl e
    ·by_cases e1:i=1
     ·exact .inr e1
     ·have:=h.lt (old i e e1 x hi)
      omega
   rcases key i hi with rfl|rfl
   ·rcases key j hj with rfl|rfl
    ·rfl
    ·exact absurd hj (hne x (new x hi))
   ·rcases key j hj with rfl|rfl
    ·exact absurd hi (hne x (new x hj))
    ·rfl
 refine⟨(e0 0).trans h.c0,(e0 1).trans h.c1,?_,(e0 3).trans h.c3,(e0 4).trans h.c4,f0,hm,?_,?_,o3 (hF' 3 (by omega) (by omega)),o4 (hF' 4 (by omega) (by omega)),?_,?_,?_,?_,h.told,h.few⟩
 ·simp only[hl]
  exact(e0 2).trans h.c2
 ·simp only[hl]
  exact o2 (hF' 2 (by omega) (by omega))
 ·simp only[hl]
  intro j hj
  show CrAt w' (D.cb j) 0 ((X.C.set k C').getD j Pg.Cr.new) (if j=k then Fc else D.cF j)
  by_cases e:j=k
  ·subst e
   rw[if_pos rfl,show(X.C.set j C').getD j Pg.Cr.new=C' by simp[List.getD,hk]]
   exact hC
  ·rw[if_neg e,show(X.C.set k C').getD j Pg.Cr.new=X.C.getD j Pg.Cr.new by simp[List.getD,List.getElem?_set_ne (fun h=>e h.symm)]]
   exact o5 j hj (hF' _ (by omega) (by omega))
 ·simp only[hl]
  exact hpart
 ·simp only[hl]
  exact h.len
 ·simp only[hl]
  exact h.pos
 ·simp only[hl]
  exact h.le
theorem asked {k:Nat} {C':Pg.Cr} {Fc:Nat->Prop} (h:Dsk w b D X) (hk:k<X.C.length) (hC:CrAt w' (D.cb k) 0 C' Fc) (hb:But (D.cF k) w w') (hF:∀x,Fc x->D.cF k x\/w.heap.size<=x):
 Dsk w' b {D with cF:=fun j=>if j=k then Fc else D.cF j} {X with C:=X.C.set k C'}:=by
 have hm:FrAt w' D.bm X.S D.FM:=(h.others hb).2.1 (fun x hx hm=>by have:=h.part 1 (k+5) x hx ⟨hk,hm⟩;omega)
 refine h.walked hk hC hm (hb.mono (fun _ _ h=> .inl h)) hF (fun x hx=> .inl hx) (fun x hx hm=> ?_)
 rcases hF x hx with h1|h1
 ·have:=h.part 1 (k+5) x hm ⟨hk,h1⟩
  omega
 ·have:=h.lt (i:=1) hm
  omega
theorem shot {T':Pg.Mp} {W':List Bool} (h:Dsk w b D X) (hs:ShAt w' D.bs T' (fun k=>W'.getD k false)) (hb:But (fun j=>j=D.bs) w w') (hl:W'.length=X.C.length) (hf:Pg.fits T'.p):
 Dsk w' b D {X with T:=T',W:=W'}:=by
 obtain⟨o0,o1,o2,o3,o4,o5⟩:=h.others hb
 have hF':∀i,i≠3->∀x,D.own b X.C.length X.G i x->¬x=D.bs:=fun i hi x hx hm=>hi (h.part i 3 x hx hm)
 obtain⟨e0,f0⟩:=o0 (hF' 0 (by decide))
 exact⟨(e0 0).trans h.c0,(e0 1).trans h.c1,(e0 2).trans h.c2,(e0 3).trans h.c3,(e0 4).trans h.c4,f0,o1 (hF' 1 (by decide)),o2 (hF' 2 (by decide)),fun j hj=>o5 j hj (hF' _ (by omega)),hs,o4 (hF' 4 (by decide)),h.part,hl,h.pos,h.le,hf,h.few⟩
theorem goes {G:List Int} {ag:Option Addr} {cg:Nat} (h:Dsk w b D X) (hG:IntsAt w ag G) (hn:∀g,ag=some ⟨g,0,none⟩->¬dsF D b X.C.length [] g) (hg:G.length<=4680):
 Dsk (w.setCell ⟨b,4,none⟩ (.slice ag G.length cg)) b {D with ag:=ag,cg:=cg} {X with G:=G}/\But (fun x=>x=b) w (w.setCell ⟨b,4,none⟩ (.slice ag G.length cg)):=by
 have hb:But (fun x=>x=b) w (w.setCell ⟨b,4,none⟩ (.slice ag G.length cg)):=(But.refl (fun x=>x=b) w).setCell (a:=⟨b,4,none⟩) (.inr rfl) _
 obtain⟨o0,o1,o2,o3,o4,o5⟩:=h.others hb
 have hF':∀i,i≠0->∀x,D.own b X.C.length X.G i x->¬x=b:=fun i hi x hx hm=>hi (h.part i 0 x hx hm)
 have k0:=h.c0
 have k1:=h.c1
 have k2:=h.c2
 have k3:=h.c3
 have k4:=h.c4
 have kf:=h.fb
 refine⟨⟨by simp[go_sem,k0],by simp[go_sem,k1],by simp[go_sem,k2],by simp[go_sem,k3],by simp[go_sem,k4],fun q=>by simp[go_sem,kf],o1 (hF' 1 (by decide)),o2 (hF' 2 (by decide)),fun j hj=>o5 j hj (hF' _ (by omega)),o3 (hF' 3 (by decide)),?_,?_,h.len,h.pos,h.le,h.told,hg⟩,hb⟩
 ·intro j hj
  obtain⟨g,e,hl,hc⟩:=hG j hj
  exact⟨g,e,by simpa using hl,(hb.cell (a:=⟨g,j,none⟩) hl (fun e'=>hn g e ⟨0,e'⟩)).trans hc⟩
 ·have oth:∀i,i≠4->∀x,({D with ag:=ag,cg:=cg}:Dsd).own b X.C.length G i x->D.own b X.C.length X.G i x/\D.own b X.C.length [] i x:=fun i hi x hx=>by
   match i with
   | 0=>exact⟨hx,hx⟩
   | 1=>exact⟨hx,hx⟩
   | 2=>exact⟨hx,hx⟩
   | 3=>exact⟨hx,hx⟩
   | 4=>exact absurd rfl hi
   | k+5=>exact⟨hx,hx⟩
  intro i j x hi hj
  by_cases ei:i=4
  ·by_cases ej:j=4
   ·rw[ei,ej]
   ·subst ei
    exact absurd ⟨j,(oth j ej x hj).2⟩ (hn x hi.2)
  ·by_cases ej:j=4
   ·subst ej
    exact absurd ⟨i,(oth i ei x hi).2⟩ (hn x hj.2)
   ·exact h.part i j x (oth i ei x hi).1 (oth j ej x hj).1
end Dsk
theorem dsF_gen {D D':Dsd} {b n N:Nat} {G G':List Int} (ho:∀i x,D'.own b n G' i x->D.own b n G i x\/N<=x):∀x,dsF D' b n G' x->dsF D b n G x\/N<=x:=by
 rintro x ⟨i,hx⟩
 exact(ho i x hx).imp (fun h=>⟨_,h⟩) id
theorem dsF_frames {D:Dsd} {b n N:Nat} {G:List Int} {FM':Nat->Prop} (hF:∀x,FM' x->D.FM x\/N<=x):∀x,dsF {D with FM:=FM'} b n G x->dsF D b n G x\/N<=x:=by
 refine dsF_gen fun i x hx=> ?_
 match i with
 | 0=>exact .inl hx
 | 1=>exact hF x hx
 | 2=>exact .inl hx
 | 3=>exact .inl hx
 | 4=>exact .inl hx
 | k+5=>exact .inl hx
theorem dsF_walked {D:Dsd} {b n N k:Nat} {G:List Int} {Fc FM':Nat->Prop} (hk:k<n) (hF:∀x,Fc x->D.cF k x\/N<=x) (hF2:∀x,FM' x->D.FM x\/N<=x):∀x,dsF {D with cF:=fun j=>if j=k then Fc else D.cF j,FM:=FM'} b n G x->dsF D b n G x\/N<=x:=by
 refine dsF_gen fun i x hx=> ?_
 match i with
 | 0=>exact .inl hx
 | 1=>exact hF2 x hx
 | 2=>exact .inl hx
 | 3=>exact .inl hx
 | 4=>exact .inl hx
 | j+5=>
   obtain⟨a1,a2⟩:=hx
   simp only at a2
   by_cases e:j=k
   ·subst e
    rw[if_pos rfl]at a2
    exact(hF x a2).imp (fun h=>⟨hk,h⟩) id
   ·rw[if_neg e]at a2
    exact .inl ⟨a1,a2⟩
theorem dsF_asked {D:Dsd} {b n N k:Nat} {G:List Int} {Fc:Nat->Prop} (hk:k<n) (hF:∀x,Fc x->D.cF k x\/N<=x):∀x,dsF {D with cF:=fun j=>if j=k then Fc else D.cF j} b n G x->dsF D b n G x\/N<=x:=dsF_walked (FM':=D.FM) hk hF (fun x hx=> .inl hx)
theorem dsF_goes {D:Dsd} {b n N:Nat} {G G':List Int} {ag:Option Addr} {cg:Nat} (hF:∀x,ag=some ⟨x,0,none⟩->G'≠[]->N<=x):∀x,dsF {D with ag:=ag,cg:=cg} b n G' x->dsF D b n G x\/N<=x:=by
 refine dsF_gen fun i x hx=> ?_
 match i with
 | 0=>exact .inl hx
 | 1=>exact .inl hx
 | 2=>exact .inl hx
 | 3=>exact .inl hx
 | 4=>exact .inr (hF x hx.2 hx.1)
 | k+5=>exact .inl hx
structure DvAt (w:World) (b:Nat) (X:Pg.Spc) (F:Nat->Prop):Prop where
 ex:∃D,Dsk w b D X/\F=dsF D b X.C.length X.G
section
variable {w w':World} {b:Nat} {X:Pg.Spc} {F G:Nat->Prop}
theorem DvAt.lt (h:DvAt w b X F) {k:Nat} (hk:F k):k<w.heap.size:=by
 obtain⟨D,h,rfl⟩:=h
 obtain⟨i,hi⟩:=hk
 exact h.lt hi
theorem DvAt.keep (h:DvAt w b X F) (hb:But G w w') (hF:∀k,F k->¬G k):DvAt w' b X F:=by
 obtain⟨D,h,rfl⟩:=h
 exact⟨D,h.keep hb hF,rfl⟩
end
theorem Pg.over_busy {W:List Bool} (h:W.length<=4):Pg.shOver (fun k=>W.getD k false)= !(W.any id):=by
 match W,h with
 | [],_=>rfl
 | [a],_=>cases a<;>rfl
 | [a,b],_=>cases a<;>cases b<;>rfl
 | [a,b,c],_=>cases a<;>cases b<;>cases c<;>rfl
 | [a,b,c,d],_=>cases a<;>cases b<;>cases c<;>cases d<;>rfl
 | a::b::c::d::e::l,h=>simp at h
theorem Pg.ack_waits' {W:List Bool} {k:Nat} (hk:k<W.length):Pg.shAck k (fun j=>W.getD j false)=fun j=>(W.set k false).getD j false:=by
 funext j
 unfold Pg.shAck
 rw[Pg.set_getD hk]
theorem Pg.post_waits {W:List Bool}:Pg.shPost W.length (fun j=>W.getD j false)=fun j=>(W.map fun _=>true).getD j false:=by
 funext j
 unfold Pg.shPost
 by_cases h:j<W.length
 ·rw[Pg.map_true W j h]
  simp[h]
 ·simp[List.getD,h]
end Go.Proofs.YtkhnelgommaioaaGreat
