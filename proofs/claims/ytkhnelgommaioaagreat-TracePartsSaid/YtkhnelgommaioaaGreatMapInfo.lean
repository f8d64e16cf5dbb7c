import Derived.Test.YtkhnelgommaioaaGreatMemLay
import Derived.Test.YtkhnelgommaioaaGreatPlainB
import Derived.Deep.AppendLies
import Derived.Test.YtkhnelgommaioaaGreatChecked
namespace Go.Proofs.YtkhnelgommaioaaGreat
open Go.RowKit Go.Sort
set_option linter.unusedVariables false
def zC (L:List Pg.Mp):List Value:=L.flatMap fun m=>[.int .i64 m.p,.int .i64 m.s,.int .i64 m.f,.int .i64 m.r]
theorem mpCells_len:∀L:List Pg.Mp,(zC L).length=L.length*4
 | []=>rfl
 | x::r=>by
   have:=mpCells_len r
   simp[zC]at this ⊢
   omega
theorem mpCells_append (A B:List Pg.Mp):zC (A++B)=zC A++zC B:=by simp[zC]
theorem mpCells_one (m:Pg.Mp):zC [m]=[.int .i64 m.p,.int .i64 m.s,.int .i64 m.f,.int .i64 m.r]:=by simp[zC]
theorem mpCells_push (A:List Pg.Mp) (m:Pg.Mp):zC (A++[m])=zC A++[.int .i64 m.p,.int .i64 m.s,.int .i64 m.f,.int .i64 m.r]:=by rw[mpCells_append,mpCells_one]
theorem mpCells_at:∀(L:List Pg.Mp) (j:Nat),j<L.length->
 (zC L)[j*4]?=some (.int .i64 (L.getD j .zz).p)/\(zC L)[j*4+1]?=some (.int .i64 (L.getD j .zz).s)/\(zC L)[j*4+2]?=some (.int .i64 (L.getD j .zz).f)/\(zC L)[j*4+3]?=some (.int .i64 (L.getD j .zz).r)
 | [],j,h=>by simp at h
 | x::r,0,_=>by simp[zC]
 | x::r,j+1,h=>by
   have:=mpCells_at r j (by simpa using h)
   have e:∀i,(zC (x::r))[(j+1)*4+i]?=(zC r)[j*4+i]?:=by
    intro i
    have e1:zC (x::r)=[.int .i64 x.p,.int .i64 x.s,.int .i64 x.f,.int .i64 x.r]++zC r:=by simp[zC]
    rw[e1,List.getElem?_append_right (by simp;omega)]
    congr 1
    simp
    omega
   have e0:=e 0
   simp only[Nat.add_zero]at e0
   rw[e0,e 1,e 2,e 3]
   simpa using this
def MpAt (w:World) (g o:Nat) (m:Pg.Mp):Prop:=
 w.cell? ⟨g,o,none⟩=some (.int .i64 m.p)/\w.cell? ⟨g,o+1,none⟩=some (.int .i64 m.s)/\w.cell? ⟨g,o+2,none⟩=some (.int .i64 m.f)/\w.cell? ⟨g,o+3,none⟩=some (.int .i64 m.r)
def MapsAt (w:World) (ad:Option Addr) (L:List Pg.Mp):Prop:=∀j,j<L.length->∃g,ad=some ⟨g,0,none⟩/\g<w.heap.size/\MpAt w g (j*4) (L.getD j .zz)
theorem MpAt.below {w w':World} {g o:Nat} {m:Pg.Mp} (h:MpAt w g o m) {B:Nat} (hb:Below B w w') (hg:g<B):MpAt w' g o m:=
 ⟨(hb.cell (p:=⟨g,o,none⟩) hg).trans h.1,(hb.cell (p:=⟨g,o+1,none⟩) hg).trans h.2.1,(hb.cell (p:=⟨g,o+2,none⟩) hg).trans h.2.2.1,(hb.cell (p:=⟨g,o+3,none⟩) hg).trans h.2.2.2⟩
theorem MapsAt.below {w w':World} {ad:Option Addr} {L:List Pg.Mp} (h:MapsAt w ad L) (hb:Below w.heap.size w w'):MapsAt w' ad L:=by
 intro j hj
 obtain⟨g,e,hg,hm⟩:=h j hj
 exact⟨g,e,Nat.lt_of_lt_of_le hg hb.size,hm.below hb hg⟩
theorem zF {w:World} {base:Nat} {e:TypeId} {size n:Nat} {v:Value} {xs:List Value} (h:w.ownsRow base e size v n xs):∃ad cap,v= .slice ad n cap:=by
 rcases h.2 with ⟨rfl,rfl⟩|⟨g,cap,cur,rfl,_⟩
 ·exact⟨none,0,rfl⟩
 ·exact⟨_,_,rfl⟩
theorem owns_mapsAt {w:World} {base:Nat} {ad:Option Addr} {n cap:Nat} {L:List Pg.Mp} (h:w.ownsRow base 39 4 (.slice ad n cap) L.length (zC L)):MapsAt w ad L:=by
 intro j hj
 obtain⟨g,cap',e,_,hg⟩:=h.form (by omega)
 cases e
 have hc:=mpCells_at L j hj
 refine⟨g,rfl,hg,?_,?_,?_,?_⟩
 ·rw[h.cellAt _ (by omega)];exact hc.1
 ·rw[h.cellAt _ (by omega)];exact hc.2.1
 ·rw[h.cellAt _ (by omega)];exact hc.2.2.1
 ·rw[h.cellAt _ (by omega)];exact hc.2.2.2
theorem ownsMaps_but {F:Nat->Prop} {w w':World} {base:Nat} {e:TypeId} {size n:Nat} {v:Value} {xs:List Value} (h:w.ownsRow base e size v n xs) (hb:But F w w') (hF:∀k,v.ownBlock=some k->¬F k):w'.ownsRow base e size v n xs:=
 owns_of_block h fun k hk=>hb.block k (h.lt k hk).2 (hF k hk)
theorem ownsMaps_below {w w':World} {base:Nat} {e:TypeId} {size n:Nat} {v:Value} {xs:List Value} (h:w.ownsRow base e size v n xs) (hb:Below w.heap.size w w'):w'.ownsRow base e size v n xs:=
 owns_of_block h fun k hk=>hb.block k (h.lt k hk).2
theorem ownsMaps_zero {w:World} {base:Nat} {e:TypeId} {size n:Nat} {v:Value} {xs:List Value} (h:w.ownsRow base e size v n xs):w.ownsRow 0 e size v n xs:=
 ⟨h.1,h.2.imp id fun⟨g,cap,cur,a,_,r⟩=>⟨g,cap,cur,a,Nat.zero_le _,r⟩⟩
def bkF (b:Nat) (vb:Value):Nat->Prop:=fun k=>k=b\/vb.ownBlock=some k
namespace BkAt
variable {w w':World} {b:Nat} {vb vb':Value} {L L':List Pg.Mp}
end BkAt
theorem infoMap:(Tryz.prog.info? 39).map (fun i=>(i.zero,i.size,i.bytes))=some (some (.agg #[.int .i64 0,.int .i64 0,.int .i64 0,.int .i64 0]),4,32):=by kernel_rfl
theorem mpCells_one' (L:List Pg.Mp):∀u,u ∈ zC L->u.oneCell'=true:=by
 intro u hu
 obtain⟨m,_,hm⟩:=List.mem_flatMap.1 hu
 simp at hm
 rcases hm with rfl|rfl|rfl|rfl<;>rfl
theorem but_set4 {F:Nat->Prop} {w w1:World} (h:But F w w1) (r:Nat) (hr:w.heap.size<=r\/F r) (x0 x1 x2 x3:Value):
 But F w ((((w1.setCell ⟨r,0,none⟩ x0).setCell ⟨r,1,none⟩ x1).setCell ⟨r,2,none⟩ x2).setCell ⟨r,3,none⟩ x3):=
 (((h.setCell (a:=⟨r,0,none⟩) hr x0).setCell (a:=⟨r,1,none⟩) hr x1).setCell (a:=⟨r,2,none⟩) hr x2).setCell (a:=⟨r,3,none⟩) hr x3
theorem below_set4 {w w1:World} (h:Below w.heap.size w w1) (r:Nat) (hr:w.heap.size<=r) (x0 x1 x2 x3:Value):
 Below w.heap.size w ((((w1.setCell ⟨r,0,none⟩ x0).setCell ⟨r,1,none⟩ x1).setCell ⟨r,2,none⟩ x2).setCell ⟨r,3,none⟩ x3):=
 (but_set4 (F:=fun _=>False) (But.of_below h) r (.inl hr) x0 x1 x2 x3).below (Nat.le_refl _) (fun _ h=>h.elim)
end Go.Proofs.YtkhnelgommaioaaGreat
