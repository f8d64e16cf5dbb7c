import Derived.Test.YtdphiompijbelaaGreatPlainW
import Derived.Laws.CopyRow
import Derived.Laws.AppendOwn
import Derived.Lib.AppendZerosOnto
import Derived.ArgAppend
import Derived.Test.YtdphiompijbelaaGreatRows
import Derived.ProofKit
import Derived.OpenShut
import Derived.Lib.SmallJoins
import Derived.Deep.Slices
import Derived.Laws.LoneSync
set_option linter.all false
set_option maxRecDepth 100000
open Int renaming natCast_add->yU
open Array renaming getElem?_eq_some_iff->yF,length_toList->yK
open Go.Obj renaming cells->yN
open Go.Ending renaming returned->yP
open Go.World renaming block_lt_of_cell?->yJ,cell?_setCell_same->yQ,cells?_some->yL
open Nat renaming add_mul->ur,mul_le_mul_right->uc,one_mul->ua,lt_of_lt_of_le->yY,add_zero->yZ,add_sub_cancel->yD,le_trans->yA,le_refl->yq,min->yt
open Go.Proofs.Tryz renaming prog->kh
open Bool renaming false->kO,true->kp
open List renaming length_append->U,take_append_of_le_length->O,take_of_length_le->ki,length_take->un,findIdx?_eq_some_iff_getElem->uv,append_assoc->ud,length_drop->ue,drop_eq_nil_of_le->yC,drop_append_of_le_length->yR,getElem?_append_right->yT,findIdx?_eq_none_iff->yV,take_take->yO,filter_append->yX,mem_singleton->yE,drop_sublist->yH,mem_flatMap->yG,filter_cons->yW,map_toArray->yx,filter_nil->yy,drop_take->yz,map_cons->yj,map_nil->yk
open Go.Value renaming int->Z,slice->ks,bool->yI,ownBlock->yB,pointer->yS,tuple->yM,agg->yi,okWide->yn,cells->yr
open Go.IntKind renaming i64->Y
open Go renaming World->N
open Option renaming none->I,some->J
set_option maxHeartbeats 4000000
namespace Go.Proofs.YtdphiompijbelaaGreat
open Go.RowKit Go.Sort
def zC (L:List Pg.Mp):List Value:=L.flatMap fun m=>[Z Y m.p,Z Y m.s,Z Y m.f,Z Y m.r]
theorem xK:∀L:List Pg.Mp,(zC L).length=L.length*4
 | []=>rfl
 | x::r=>by
   have:=xK r;simp[zC]at this ⊢;omega
theorem xg (A B:List Pg.Mp):zC (A++B)=zC A++zC B:=by simp[zC]
theorem vT (m:Pg.Mp):zC [m]=[Z Y m.p,Z Y m.s,Z Y m.f,Z Y m.r]:=by simp[zC]
theorem qX (A:List Pg.Mp) (m:Pg.Mp):zC (A++[m])=zC A++[Z Y m.p,Z Y m.s,Z Y m.f,Z Y m.r]:=by rw[xg,vT]
theorem ya2:∀(L:List Pg.Mp) (j:Nat),j<L.length->
 (zC L)[j*4]?=J (Z Y (L.getD j .zz).p)/\(zC L)[j*4+1]?=J (Z Y (L.getD j .zz).s)/\(zC L)[j*4+2]?=J (Z Y (L.getD j .zz).f)/\(zC L)[j*4+3]?=J (Z Y (L.getD j .zz).r)
 | [],j,h=>by simp at h
 | x::r,0,_=>by simp[zC]
 | x::r,j+1,h=>by
   have:=ya2 r j (by simpa using h)
   have e:∀i,(zC (x::r))[(j+1)*4+i]?=(zC r)[j*4+i]?:=by
    intro i
    have e1:zC (x::r)=[Z Y x.p,Z Y x.s,Z Y x.f,Z Y x.r]++zC r:=by simp[zC]
    rw[e1,yT (by simp;omega)]
    congr 1
    simp;omega
   have e0:=e 0;simp only[yZ]at e0;rw[e0,e 1,e 2,e 3]
   simpa using this
def ybG (w:N) (g o:Nat) (m:Pg.Mp):Prop:=
 w.cell? ⟨g,o,I⟩=J (Z Y m.p)/\w.cell? ⟨g,o+1,I⟩=J (Z Y m.s)/\w.cell? ⟨g,o+2,I⟩=J (Z Y m.f)/\w.cell? ⟨g,o+3,I⟩=J (Z Y m.r)
def xS (w:N) (ad:Option Addr) (L:List Pg.Mp):Prop:=∀j,j<L.length->∃g,ad=J ⟨g,0,I⟩/\g<w.heap.size/\ybG w g (j*4) (L.getD j .zz)
theorem ybG.below {w w':N} {g o:Nat} {m:Pg.Mp} (h:ybG w g o m) {B:Nat} (hb:Below B w w') (hg:g<B):ybG w' g o m:=
 ⟨(hb.cell (p:=⟨g,o,I⟩) hg).trans h.1,(hb.cell (p:=⟨g,o+1,I⟩) hg).trans h.2.1,(hb.cell (p:=⟨g,o+2,I⟩) hg).trans h.2.2.1,(hb.cell (p:=⟨g,o+3,I⟩) hg).trans h.2.2.2⟩
theorem xS.below {w w':N} {ad:Option Addr} {L:List Pg.Mp} (h:xS w ad L) (hb:Below w.heap.size w w'):xS w' ad L:=by
 intro j hj;obtain⟨g,e,hg,hm⟩:=h j hj;exact⟨g,e,yY hg hb.size,hm.below hb hg⟩
theorem zF {w:N} {base:Nat} {e:TypeId} {size n:Nat} {v:Value} {xs:List Value} (h:w.ownsRow base e size v n xs):∃ad cap,v=ks ad n cap:=by
 rcases h.2 with ⟨rfl,rfl⟩|⟨g,cap,cur,rfl,_⟩
 ·exact⟨I,0,rfl⟩
 ·exact⟨_,_,rfl⟩
theorem xx {w:N} {base:Nat} {ad:Option Addr} {n cap:Nat} {L:List Pg.Mp} (h:w.ownsRow base 39 4 (ks ad n cap) L.length (zC L)):xS w ad L:=by
 intro j hj;obtain⟨g,cap',e,_,hg⟩:=h.form (by omega);cases e;have hc:=ya2 L j hj;refine⟨g,rfl,hg,?_,?_,?_,?_⟩
 ·rw[h.cellAt _ (by omega)];exact hc.1
 ·rw[h.cellAt _ (by omega)];exact hc.2.1
 ·rw[h.cellAt _ (by omega)];exact hc.2.2.1
 ·rw[h.cellAt _ (by omega)];exact hc.2.2.2
theorem zc {F:Nat->Prop} {w w':N} {base:Nat} {e:TypeId} {size n:Nat} {v:Value} {xs:List Value} (h:w.ownsRow base e size v n xs) (hb:But F w w') (hF:∀k,v.ownBlock=J k->¬F k):w'.ownsRow base e size v n xs:=
 zb h fun k hk=>hb.block k (h.lt k hk).2 (hF k hk)
theorem zl {w w':N} {base:Nat} {e:TypeId} {size n:Nat} {v:Value} {xs:List Value} (h:w.ownsRow base e size v n xs) (hb:Below w.heap.size w w'):w'.ownsRow base e size v n xs:=
 zb h fun k hk=>hb.block k (h.lt k hk).2
theorem qF {w:N} {base:Nat} {e:TypeId} {size n:Nat} {v:Value} {xs:List Value} (h:w.ownsRow base e size v n xs):w.ownsRow 0 e size v n xs:=
 ⟨h.1,h.2.imp id fun⟨g,cap,cur,a,_,r⟩=>⟨g,cap,cur,a,Nat.zero_le _,r⟩⟩
theorem qE {w:N} {base base':Nat} {e:TypeId} {size n:Nat} {v:Value} {xs:List Value} (h:w.ownsRow base e size v n xs) (hb:base'<=base):w.ownsRow base' e size v n xs:=
 ⟨h.1,h.2.imp id fun⟨g,cap,cur,a,b,r⟩=>⟨g,cap,cur,a,yA hb b,r⟩⟩
theorem j8 {wx w w3:N} {e:TypeId} {n size:Nat} {v:Value} {xs:List Value} {o:Obj} (hb:Below wx.heap.size wx w) (hr:w.ownsRow wx.heap.size e size v n xs) (hg:(w.alloc o).grownBy w3 v.ownBlock):Below wx.heap.size wx w3:=by
 have hB:But (fun j=>v.ownBlock=J j) w w3:=((But.refl _ w).alloc o).grown hg fun j hj=> .inr hj;exact hb.trans (hB.below hb.size fun k hk=>(hr.lt k hk).1)
structure qQ (w:N) (b:Nat) (vb:Value) (L:List Pg.Mp):Prop where
 c0:w.cell? ⟨b,0,I⟩=J vb
 fb:∀o,w.frozen? ⟨b,o,I⟩=kO
 row:w.ownsRow 0 39 4 vb L.length (zC L)
 nb:vb.ownBlock≠J b
 good:Pg.Good L
 none':L=[]->vb=ks I 0 0
def bkF (b:Nat) (vb:Value):Nat->Prop:=fun k=>k=b\/vb.ownBlock=J k
namespace qQ
variable {w w':N} {b:Nat} {vb vb':Value} {L L':List Pg.Mp}
theorem lb (h:qQ w b vb L):b<w.heap.size:=yJ _ _ h.c0
theorem lt (h:qQ w b vb L) {k:Nat} (hk:bkF b vb k):k<w.heap.size:=by
 rcases hk with rfl|hk
 ·exact h.lb
 ·exact(h.row.lt k hk).2
theorem keep (h:qQ w b vb L) {F:Nat->Prop} (hb:But F w w') (hF:∀k,bkF b vb k->¬F k):qQ w' b vb L:=by
 have kb:=hb.block b h.lb (hF b (.inl rfl));exact⟨(World.cell?_of_block kb).trans h.c0,fun o=>(World.frozen?_of_block kb).trans (h.fb o),zc h.row hb fun k hk=>hF k (.inr hk),h.nb,h.good,h.none'⟩
theorem grow (h:qQ w b vb L) (hb:Below w.heap.size w w'):qQ w' b vb L:=h.keep (F:=fun _=>False) (But.yhp hb) (fun _ _=>id)
theorem put (h:qQ w b vb L) (hb:Below w.heap.size w w') (hr:w'.ownsRow w.heap.size 39 4 vb' L'.length (zC L')) (hg:Pg.Good L') (hn:L'=[]->vb'=ks I 0 0):
 qQ (w'.setCell ⟨b,0,I⟩ vb') b vb' L'/\But (bkF b vb) w (w'.setCell ⟨b,0,I⟩ vb')/\(∀k,bkF b vb' k->bkF b vb k\/w.heap.size<=k):=by
 have h':=h.grow hb;have hl:=h.lb
 have Ho:vb'.ownBlock≠J b:=fun e=>by have:=(hr.lt b e).1;omega
 refine⟨⟨yQ _ _ _ h'.c0,fun o=>by simpa using h'.fb o,?_,Ho,hg,hn⟩,?_,fun k hk=> ?_⟩
 ·exact zb (qF hr) fun k hk=>Below.heap_setCell _ _ _ _ (fun e=>Ho (by rw[hk];exact congrArg J e))
 ·exact(But.yhp hb).setCell (.inr (.inl rfl)) _
 ·rcases hk with rfl|hk
  ·exact .inl (.inl rfl)
  ·exact .inr (hr.lt k hk).1
end qQ
theorem qp:(Tryz.prog.info? 39).map (fun i=>(i.zero,i.size,i.bytes))=J (J (yi #[Z Y 0,Z Y 0,Z Y 0,Z Y 0]),4,32):=by kernel_rfl
theorem qn (L:List Pg.Mp):∀u,u ∈ zC L->u.oneCell'=kp:=by
 intro u hu;obtain⟨m,_,hm⟩:=yG.1 hu;simp at hm
 rcases hm with rfl|rfl|rfl|rfl<;>rfl
theorem qm {F:Nat->Prop} {w w1:N} (h:But F w w1) (r:Nat) (hr:w.heap.size<=r\/F r) (x0 x1 x2 x3:Value):
 But F w ((((w1.setCell ⟨r,0,I⟩ x0).setCell ⟨r,1,I⟩ x1).setCell ⟨r,2,I⟩ x2).setCell ⟨r,3,I⟩ x3):=
 (((h.setCell (a:=⟨r,0,I⟩) hr x0).setCell (a:=⟨r,1,I⟩) hr x1).setCell (a:=⟨r,2,I⟩) hr x2).setCell (a:=⟨r,3,I⟩) hr x3
theorem zp {w w1:N} (h:Below w.heap.size w w1) (r:Nat) (hr:w.heap.size<=r) (x0 x1 x2 x3:Value):
 Below w.heap.size w ((((w1.setCell ⟨r,0,I⟩ x0).setCell ⟨r,1,I⟩ x1).setCell ⟨r,2,I⟩ x2).setCell ⟨r,3,I⟩ x3):=
 (qm (F:=fun _=>False) (But.yhp h) r (.inl hr) x0 x1 x2 x3).below (yq _) (fun _ h=>h.elim)
theorem jB (e:Pg.En) (w:N):
 Calls kh 118 #[e.val] w fun x w'=>x=yP (yI e.on)/\Below w.heap.size w w':=by
 obtain⟨t,l,r,u,d,f⟩:=e;simp only[Pg.En.val,Pg.En.on];cases t
 ·go_enter Tryz.func118,Tryz.ntmps118
  go_wp2_with fail
  go_ret
  exact⟨rfl,zA (zR w) _⟩
 ·go_enter Tryz.func118,Tryz.ntmps118
  go_wp2_with fail
  go_ret
  exact⟨rfl,zA (zR w) _⟩
theorem jt (i lv:Int) (w:N):
 Calls kh 113 #[Z Y i,Z Y lv] w fun x w'=>x=yP (yI kp)/\w'=w:=by
 go_enter Tryz.func113,Tryz.ntmps113
 go_wp2_with fail
 go_ret
 exact⟨rfl,rfl⟩
theorem yfd {b:Nat} {S:Pg.Fs} {F:Nat->Prop} (t:Int) (i lv:Nat) (hi:i<8) (w:N) (h:zh w b S F):
 Calls kh 188 #[yS (J ⟨b,0,I⟩),Z Y t,Z Y (i:Int),Z Y (lv:Int)] w fun x w'=>x=yP (yM #[(Pg.rEn S t i lv).val,Z Y (Pg.yhx S t i lv)])/\Below w.heap.size w w':=by
 have hA:zh (w.alloc (yN #[yI kO,yI kO,Z Y 0,yI kO,yI kO,Z Y 0] 70)) b S F:=h.keep (F:=F) (G:=fun _=>False) (But.yhp (zA (zR w) _)) (fun _ _=>id);have HL:=jA t (i:Int) _ hA;have h0:=h.ok.low t.toNat i;have h1:=h.ok.high t.toNat i;cases hh:S.has t
 ·have ha:S.at' t (i:Int)=kO:=by simp[Pg.Fs.at',hh]
  have e1:Pg.rEn S t i lv=Pg.En.zero:=by simp[Pg.rEn,hh]
  have e2:Pg.yhx S t i lv=12:=by simp[Pg.yhx,hh]
  rw[e1,e2]
  have e3:S.load t (i:Int)=0:=by simp[Pg.Fs.load,ha]
  rw[ha,e3]at HL;clear h hA
  go_enter Tryz.func188,Tryz.ntmps188
  go_wp2_with fail
  refine HL.mono ?_;rintro e w' ⟨rfl,hw⟩;subst w'
  go_wp2_with fail
  refine bodyPost_ret (v:=yM #[Pg.En.zero.val,Z Y 12]) ?_ rfl ⟨rfl,?_⟩
  ·simp[results,Tryz.results188,go_sem,Pg.En.zero,Pg.En.val]
  ·exact zA (zR w) _
 ·have ha:S.at' t (i:Int)=kp:=by simp[Pg.Fs.at',hh];omega
  have e1:Pg.rEn S t i lv=Pg.En.of (S.word t.toNat i) lv:=by simp[Pg.rEn,hh]
  have e2:Pg.yhx S t i lv=Pg.yhA (S.word t.toNat i) lv:=by simp[Pg.yhx,hh]
  have e3:S.load t (i:Int)=S.word t.toNat i:=by simp[Pg.Fs.load,ha]
  rw[e1,e2];rw[ha,e3]at HL;clear h hA e1 e2 e3;generalize S.word t.toNat i=W at*;have HD:=jV W (lv:Int) h0 h1;rw[Pg.yi9]at HD;generalize Pg.En.of W (lv:Int)=e at*;obtain⟨t',l,r,u,d,f⟩:=e;simp only[Pg.En.val]at HD ⊢;generalize Pg.yhA W (lv:Int)=c at*
  go_enter Tryz.func188,Tryz.ntmps188
  go_wp2_with fail
  refine HL.mono ?_;rintro e w' ⟨rfl,hw⟩;subst w'
  go_wp2_with fail
  refine(HD _).mono ?_;rintro e w1 ⟨rfl,Ha⟩;have hB:Below w.heap.size w w1:=zT (zA (zR w) _) Ha;obtain⟨rO,pY⟩:=xW Ha
  go_wp2_with fail
  refine bodyPost_ret (v:=yM #[yi #[yI t',yI l,Z Y r,yI u,yI d,Z Y f],Z Y c]) ?_ rfl ⟨rfl,?_⟩
  ·simp[results,Tryz.results188,go_sem,rO]
  ·exact(((((hB.setCell (by simp) _).setCell (by simp) _).setCell (by simp) _).setCell (by simp) _).setCell (by simp) _).setCell (by simp) _
def Pg.Sp.val (s:Pg.Sp):Value:=yi #[Z Y s.table,Z Y (s.place:Int),Z Y (s.level:Int),Z Y (s.ahead:Int),yI s.e.t,yI s.e.l,Z Y s.e.r,yI s.e.u,yI s.e.d,Z Y s.e.f]
structure yct (b:Nat) (S:Pg.Fs) (F:Nat->Prop) (g h:FuncId) (ca cb:Array Value) (L:Nat->Nat->Bool) (R:List Pg.Sp->(Nat->Prop)->N->Prop):Prop where
 eg:∀args w,(callFunc g args).run kh w= .ok (.enter g args) w
 eh:∀args w,(callFunc h args).run kh w= .ok (.enter h args) w
 fr:∀X V w,R X V w->zh w b S F
 lt:∀X V w,R X V w->∀k,V k->k<w.heap.size
 grow:∀X V w w',R X V w->Below w.heap.size w w'->R X V w'
 looks:∀(i lv:Nat) X V w,i<8->lv<4->R X V w->Calls kh g (#[Z Y (i:Int),Z Y (lv:Int)]++ca) w fun e w'=>e=yP (yI (L i lv))/\Below w.heap.size w w'
 meets:∀(s:Pg.Sp) X V w,s.place<8->s.level<4->s.ahead<4096->X.length<4680->R X V w->Calls kh h (#[s.val]++cb) w fun e w'=>e=yP (yM #[])/\∃V',R (X++[s]) V' w'/\But V w w'/\∀k,V' k->V k\/w.heap.size<=k
structure vy (R:List Pg.Sp->(Nat->Prop)->N->Prop) (V:Nat->Prop) (w:N) (v0 v1 v2:Value) (X:List Pg.Sp) (V':Nat->Prop) (wr:N):Prop where
 r:R X V' wr
 but:But V w wr
 new:∀k,V' k->V k\/w.heap.size<k
 c:wr.cell? ⟨w.heap.size,0,I⟩=J v0/\wr.cell? ⟨w.heap.size,1,I⟩=J v1/\wr.cell? ⟨w.heap.size,2,I⟩=J v2
namespace vy
variable {b:Nat} {S:Pg.Fs} {F:Nat->Prop} {g h:FuncId} {ca cb:Array Value} {L:Nat->Nat->Bool} {R:List Pg.Sp->(Nat->Prop)->N->Prop} {V V' MK:Nat->Prop} {w wr wr':N} {v0 v1 v2:Value} {X X':List Pg.Sp}
theorem grow (T:yct b S F g h ca cb L R) (G:vy R V w v0 v1 v2 X V' wr) (hb:Below wr.heap.size wr wr'):vy R V w v0 v1 v2 X V' wr':=
 ⟨T.grow _ _ _ _ G.r hb,G.but.trans (But.yhp (F:=fun _=>False) hb) (fun _ _ h=>h.elim),G.new,qc hb G.c⟩
theorem lb (G:vy R V w v0 v1 v2 X V' wr):w.heap.size<wr.heap.size:=yJ _ _ G.c.1
theorem step (hV:∀k,V k->k<w.heap.size) (G:vy R V w v0 v1 v2 X V' wr) (hr:R X' MK wr') (hb:But V' wr wr') (hn:∀k,MK k->V' k\/wr.heap.size<=k):vy R V w v0 v1 v2 X' MK wr':=by
 have hl:=G.lb
 have bM:¬V' w.heap.size:=fun hk=>by
  rcases G.new _ hk with h1|h1
  ·have:=hV _ h1;omega
  ·omega
 refine⟨hr,G.but.trans hb (fun i hi hk=> ?_),fun k hk=> ?_,?_,?_,?_⟩
 ·rcases G.new i hk with h1|h1
  ·exact h1
  ·omega
 ·rcases hn k hk with h1|h1
  ·exact G.new k h1
  ·exact .inr (by omega)
 ·exact(hb.cell (a:=⟨w.heap.size,0,I⟩) hl bM).trans G.c.1
 ·exact(hb.cell (a:=⟨w.heap.size,1,I⟩) hl bM).trans G.c.2.1
 ·exact(hb.cell (a:=⟨w.heap.size,2,I⟩) hl bM).trans G.c.2.2
theorem box6 (T:yct b S F g h ca cb L R) (G:vy R V w v0 v1 v2 X V' wr) {u0 u1 u2 u3 u4 u5:Value} {ty:TypeId} (hb:But V' (wr.alloc (yN #[u0,u1,u2,u3,u4,u5] ty)) wr'):
 wr'.cell? ⟨wr.heap.size,0,I⟩=J u0/\wr'.cell? ⟨wr.heap.size,1,I⟩=J u1/\wr'.cell? ⟨wr.heap.size,2,I⟩=J u2/\wr'.cell? ⟨wr.heap.size,3,I⟩=J u3/\wr'.cell? ⟨wr.heap.size,4,I⟩=J u4/\wr'.cell? ⟨wr.heap.size,5,I⟩=J u5:=by
 have hn:¬V' wr.heap.size:=fun hk=>by have:=T.lt _ _ _ G.r _ hk;omega
 have hk:∀o,wr'.cell? ⟨wr.heap.size,o,I⟩=(wr.alloc (yN #[u0,u1,u2,u3,u4,u5] ty)).cell? ⟨wr.heap.size,o,I⟩:=fun o=>hb.cell (a:=⟨wr.heap.size,o,I⟩) (by simp) hn
 refine⟨?_,?_,?_,?_,?_,?_⟩<;>rw[hk]<;>simp[go_sem]
theorem done (G:vy R V w v0 v1 v2 X' V' wr) {A:List Pg.Sp} (e:X++A=X'):∃V',R (X++A) V' wr/\But V w wr/\∀k,V' k->V k\/w.heap.size<=k:=
 ⟨V',e▸G.r,G.but,fun k hk=>(G.new k hk).imp id Nat.le_of_lt⟩
end vy
theorem jI {X:List Pg.Sp} {s:Pg.Sp} {j c:Nat} (hj:j<8) (h:X.length+(8-j)*(1+c)<=4680):X.length<4680/\(X++[s]).length+(8-(j+1))*(1+c)+c<=4680/\(X++[s]).length+c<=4680:=by
 have e:(8-j)*(1+c)=(8-(j+1))*(1+c)+(1+c):=by
  rw[show 8-j=(8-(j+1))+1 by omega,ur,ua]
 rw[e]at h;rw[U,List.length_singleton];generalize (8-(j+1))*(1+c)=x at*;omega
theorem ye3 {S:Pg.Fs} {L:Nat->Nat->Bool} {lv:Nat} {rec:Int->Nat->List Pg.Sp×Int} {t:Int} {a j:Nat} (hj:j<8):
 Pg.scan S L lv rec t a (8-j) j=if (Pg.out S L lv rec t a j).2≠0 then Pg.out S L lv rec t a j
  else((Pg.out S L lv rec t a j).1++(Pg.scan S L lv rec t a (8-(j+1)) (j+1)).1,(Pg.scan S L lv rec t a (8-(j+1)) (j+1)).2):=by
 have e:8-j=(8-(j+1))+1:=by omega
 rw[e];rfl
theorem ydc {b:Nat} {S:Pg.Fs} {F:Nat->Prop} {g h:FuncId} {ca cb:Array Value} {L:Nat->Nat->Bool} {R:List Pg.Sp->(Nat->Prop)->N->Prop} (T:yct b S F g h ca cb L R):
 ∀(lv:Nat),lv<4->∀(t:Int) (a:Nat) (X:List Pg.Sp) (V:Nat->Prop) (w:N),a+8<=8^(4-lv)->X.length+Pg.cnt' (lv+1)<=4680->R X V w->
  Calls kh 154 #[yi #[yS (J ⟨b,0,I⟩),.func (.func g) #[] ca,.func (.func h) #[] cb],Z Y t,Z Y (lv:Int),Z Y (a:Int)] w fun e w'=>
   e=yP (Z Y (Pg.thr S L lv t a).2)/\∃V',R (X++(Pg.thr S L lv t a).1) V' w'/\But V w w'/\∀k,V' k->V k\/w.heap.size<=k:=by
 intro lv
 induction lv using Nat.strongRecOn with
 | _ lv IH=>
 intro rP t a X V w ha hX hR;have hV:=T.lt _ _ _ hR;rw[Pg.yiy];have Rp:a+8<=4096:=yA ha (by have:=Nat.pow_le_pow_right (n:=8) (by decide) (show 4-lv<=4 by omega);simpa using this);have HI:Hid _:=IH;have HT:Hid _:=T;have HV:Hid _:=hV;have HX:Hid _:=hX;have HA:Hid _:=ha
 have HG:Hid (vy R V w (yS (J ⟨b,0,I⟩)) (.func (.func g) #[] ca) (.func (.func h) #[] cb) X V (w.alloc (yN #[yS (J ⟨b,0,I⟩),.func (.func g) #[] ca,.func (.func h) #[] cb] 202))):=
  ⟨T.grow _ _ _ _ hR (zA (zR w) _),But.yhp (zA (zR w) _),fun k hk=> .inl hk,by simp[go_sem],by simp[go_sem],by simp[go_sem]⟩
 clear IH T hV hX ha hR
 go_enter Tryz.func154,Tryz.ntmps154
 go_wp2_with fail
 go_loopw [13] (fun i wr=>∃(j:Nat) (X':List Pg.Sp) (V':Nat->Prop),j<=8/\i=Z Y j/\Hid (vy R V w (yS (J ⟨b,0,I⟩)) (.func (.func g) #[] ca) (.func (.func h) #[] cb) X' V' wr/\X++(Pg.scan S L lv (Pg.sub S L lv) t a 8 0).1=X'++(Pg.scan S L lv (Pg.sub S L lv) t a (8-j) j).1/\(Pg.scan S L lv (Pg.sub S L lv) t a 8 0).2=(Pg.scan S L lv (Pg.sub S L lv) t a (8-j) j).2/\X'.length+(8-j)*(1+Pg.cnt' lv)<=4680)) (fun i _=>8-(intOf i).toNat)
 case atStart=>exact⟨0,X,V,by omega,rfl,HG.out,rfl,rfl,HX.out⟩
 case round=>
  obtain⟨j,X',V',hj,rfl,HR⟩:=hrel;clear HG;have hc:=HR.out.1.c;obtain⟨c0,c1,c2⟩:=hc
  by_cases Hf:j<8
  ·have sM:=ye3 (S:=S) (L:=L) (lv:=lv) (rec:=Pg.sub S L lv) (t:=t) (a:=a) Hf
   have eg:=HT.out.eg;have eh:=HT.out.eh
   have Wz:(j:Int)<8:=by omega
   cases hL:L j lv
   ·have HL:=HT.out.looks j lv X' V' wr Hf rP HR.out.1.r
    rw[hL]at HL
    have ho:Pg.out S L lv (Pg.sub S L lv) t a j=([],0):=by simp[Pg.out,hL]
    have HS:Hid (Pg.scan S L lv (Pg.sub S L lv) t a (8-j) j=Pg.scan S L lv (Pg.sub S L lv) t a (8-(j+1)) (j+1)):=by
     rw[Hid,sM,ho];simp
    clear sM ho hL
    go_wp2_with fail
    refine HL.mono ?_;rintro e w1 ⟨rfl,Ha⟩;have G1:Hid _:=HR.out.1.grow HT.out Ha;clear Ha
    go_wp2_with fail
    obtain⟨_,h1,h2,h3⟩:=HR.out;rw[HS.out]at h1 h2;refine⟨⟨j+1,X',V',by omega,by go_num,G1.out,h1,h2,?_⟩,?_⟩
    ·have:(8-(j+1))*(1+Pg.cnt' lv)<=(8-j)*(1+Pg.cnt' lv):=uc _ (by omega)
     omega
    ·simp[intOf];omega
   ·have HL:=HT.out.looks j lv X' V' wr Hf rP HR.out.1.r
    rw[hL]at HL;have HD:=fun w=>yfd (b:=b) (S:=S) (F:=F) t j lv Hf w;have HE:Hid (Pg.spt S t j lv a=⟨t,j,lv,a+j,Pg.rEn S t j lv⟩):=rfl;have HO:Hid _:= @Pg.yhR S t j lv
    by_cases pX:Pg.yhx S t j lv=0
    ·cases Hw:(Pg.rEn S t j lv).on
     ·have ho:Pg.out S L lv (Pg.sub S L lv) t a j=([Pg.spt S t j lv a],0):=by simp[Pg.out,hL,pX,Hw]
      have HS:Hid (Pg.scan S L lv (Pg.sub S L lv) t a (8-j) j=(Pg.spt S t j lv a::(Pg.scan S L lv (Pg.sub S L lv) t a (8-(j+1)) (j+1)).1,(Pg.scan S L lv (Pg.sub S L lv) t a (8-(j+1)) (j+1)).2)):=by
       rw[Hid,sM,ho];simp
      rw[pX]at HD;clear sM ho hL pX HO;generalize Pg.rEn S t j lv=E at*;generalize Pg.spt S t j lv a=sp at*;have lg:=jB E;rw[Hw]at lg;have HM:=HT.out.meets sp;rw[HE.out]at HM;obtain⟨et,el,er,eu,ed,ef⟩:=E;simp only[Pg.Sp.val,Pg.En.val,yU]at HM lg HD;clear Hw
      go_wp2_with fail
      refine HL.mono ?_;rintro e w1 ⟨rfl,Ha⟩;have G1:Hid _:=HR.out.1.grow HT.out Ha;clear Ha HL c0 c1 c2;obtain⟨c0,c1,c2⟩:=G1.out.c
      go_wp2_with fail
      refine(HD _ (HT.out.fr _ _ _ G1.out.r)).mono ?_;rintro e w2 ⟨rfl,Hd⟩;have G2:Hid _:=G1.out.grow HT.out Hd;clear Hd HD c0 c1 c2 G1;obtain⟨c0,c1,c2⟩:=G2.out.c;have sJ:=G2.out.lb
      go_wp2_with fail
      refine(HM X' V' _ Hf rP (show a+j<4096 by omega) ?_ (G2.out.grow HT.out (zA (zR w2) _)).r).mono ?_
      ·exact(jI (s:=sp) Hf HR.out.2.2.2).1
      rintro e w4 ⟨rfl,V4,gq,Hl,lq⟩;have G4:Hid _:=(G2.out.grow HT.out (zA (zR w2) _)).step HV.out gq Hl lq;obtain⟨x0,x1,x2,x3,x4,x5⟩:=G2.out.box6 HT.out Hl;clear c0 c1 c2 gq Hl lq HM
      go_wp2_with fail
      refine(lg _).mono ?_;rintro e w5 ⟨rfl,rA⟩;have G5:Hid _:=G4.out.grow HT.out rA;clear rA x0 x1 x2 x3 x4 x5 lg
      go_wp2_with fail
      obtain⟨_,h1,h2,h3⟩:=HR.out;rw[HS.out]at h1 h2;refine⟨⟨j+1,X'++[sp],V4,by omega,by go_num,by rw[HE.out];exact G5.out,by simpa using h1,h2,?_⟩,?_⟩
      ·have:=(jI (s:=sp) Hf HR.out.2.2.2).2.1
       omega
      ·simp[intOf];omega
     ·obtain⟨m,hm⟩:=HO.out Hw
      have pz:Pg.sub S L lv=Pg.thr S L m:=by rw[hm];rfl
      have ho:Pg.out S L lv (Pg.sub S L lv) t a j=(Pg.spt S t j lv a::(Pg.thr S L m (Pg.rEn S t j lv).f ((a+j)*8)).1,(Pg.thr S L m (Pg.rEn S t j lv).f ((a+j)*8)).2):=by simp[Pg.out,hL,pX,Hw,pz]
      rw[ho]at sM;rw[pX]at HD;have oM:Hid (lv=m+1):=hm
      have kV:(lv:Int)-1=(m:Int):=by omega
      have iq:(1:Int)<=(lv:Int):=by omega
      clear ho hL pX HO hm pz;generalize Pg.rEn S t j lv=E at*;generalize Pg.spt S t j lv a=sp at*;have lg:=jB E;rw[Hw]at lg;have HM:=HT.out.meets sp;rw[HE.out]at HM;obtain⟨et,el,er,eu,ed,ef⟩:=E;simp only[Pg.Sp.val,Pg.En.val,yU]at HM lg HD;simp only at sM;clear Hw;have CY:=HI.out m (by have:=oM.out;omega) (by have:=oM.out;omega) ef ((a+j)*8) (X'++[sp]);have mO:=Pg.ylv S L m ef ((a+j)*8);generalize aj:Pg.thr S L m ef ((a+j)*8)=th at*;have oP:Hid _:=sM
      have Mc:Hid (th.1.length<=Pg.cnt' lv):=by
       have:=oM.out;rw[Hid,this];exact mO
      clear sM mO aj;simp only[Int.natCast_mul,yU]at CY
      go_wp2_with fail
      refine HL.mono ?_;rintro e w1 ⟨rfl,Ha⟩;have G1:Hid _:=HR.out.1.grow HT.out Ha;clear Ha HL c0 c1 c2;obtain⟨c0,c1,c2⟩:=G1.out.c
      go_wp2_with fail
      refine(HD _ (HT.out.fr _ _ _ G1.out.r)).mono ?_;rintro e w2 ⟨rfl,Hd⟩;have G2:Hid _:=G1.out.grow HT.out Hd;clear Hd HD c0 c1 c2 G1;obtain⟨c0,c1,c2⟩:=G2.out.c;have sJ:=G2.out.lb
      go_wp2_with fail
      refine(HM X' V' _ Hf rP (show a+j<4096 by omega) ?_ (G2.out.grow HT.out (zA (zR w2) _)).r).mono ?_
      ·exact(jI (s:=sp) Hf HR.out.2.2.2).1
      rintro e w4 ⟨rfl,V4,gq,Hl,lq⟩;have G4:Hid _:=(G2.out.grow HT.out (zA (zR w2) _)).step HV.out gq Hl lq;have X4:Hid _:=G2.out.box6 HT.out Hl;obtain⟨x0,x1,x2,x3,x4,x5⟩:=X4.out;clear c0 c1 c2 gq Hl lq HM
      go_wp2_with fail
      refine(lg _).mono ?_;rintro e w5 ⟨rfl,rA⟩;have G5:Hid _:=G4.out.grow HT.out rA;have y5:=(xE rA X4.out).2.2.2.2.2;clear rA x0 x1 x2 x3 x4 x5 lg X4;obtain⟨c0,c1,c2⟩:=G5.out.c
      go_wp2_with fail
      refine(CY V4 w5 ?_ ?_ (by rw[HE.out];exact G5.out.r)).mono ?_
      ·have:=HA.out
       have:=oM.out;rw[show 4-m=(4-lv)+1 by omega,Nat.pow_succ];omega
      ·have:=(jI (s:=sp) Hf HR.out.2.2.2).2.2
       rw[<-oM.out];exact this
      rintro e w6 ⟨rfl,V6,kY,H7,OI⟩;have G6:Hid _:=G5.out.step HV.out kY H7 OI;clear kY H7 OI CY c0 c1 c2
      by_cases hc:th.2=0
      ·have gW:(th.2 !=0)=kO:=by simp[hc]
       go_wp2_with fail
       obtain⟨_,h1,h2,h3⟩:=HR.out;rw[oP.out,if_neg (by simpa using hc)]at h1 h2;refine⟨⟨j+1,X'++[sp]++th.1,V6,by omega,by go_num,G6.out,by simpa using h1,h2,?_⟩,?_⟩
       ·have:=(jI (s:=sp) Hf HR.out.2.2.2).2.1
        have:=Mc.out;rw[U];omega
       ·simp[intOf];omega
      ·have gW:(th.2 !=0)=kp:=by simp[hc]
       go_wp2_with fail
       go_ret
       obtain⟨_,h1,h2,h3⟩:=HR.out;rw[oP.out,if_pos (by simpa using hc)]at h1 h2;exact⟨zE h2.symm,G6.out.done (by simpa using h1)⟩
    ·have ho:Pg.out S L lv (Pg.sub S L lv) t a j=([],Pg.yhx S t j lv):=by simp[Pg.out,hL,pX]
     rw[ho]at sM;have oP:Hid _:=sM
     have gW:(Pg.yhx S t j lv !=0)=kp:=by simp[pX]
     have HC:Hid _:=pX;clear sM ho hL HO HE pX;generalize Pg.rEn S t j lv=E at*;generalize Pg.yhx S t j lv=c at*;obtain⟨et,el,er,eu,ed,ef⟩:=E;simp only[Pg.En.val]at HD
     go_wp2_with fail
     refine HL.mono ?_;rintro e w1 ⟨rfl,Ha⟩;have G1:Hid _:=HR.out.1.grow HT.out Ha;clear Ha HL c0 c1 c2;obtain⟨c0,c1,c2⟩:=G1.out.c
     go_wp2_with fail
     refine(HD _ (HT.out.fr _ _ _ G1.out.r)).mono ?_;rintro e w2 ⟨rfl,Hd⟩;have G2:Hid _:=G1.out.grow HT.out Hd;clear Hd HD c0 c1 c2 G1
     go_wp2_with fail
     go_ret
     obtain⟨_,h1,h2,h3⟩:=HR.out;rw[oP.out,if_pos (by simpa using HC.out)]at h1 h2;exact⟨zE h2.symm,(G2.out.grow HT.out (zA (zR w2) _)).done (by simpa using h1)⟩
  ·have PZ:j=8:=by omega
   subst PZ
   have Wz:¬((8:Nat):Int)<8:=by omega
   go_wp2_with fail
   go_ret
   obtain⟨G,h1,h2,h3⟩:=HR.out;exact⟨zE h2.symm,G.done (by simpa[Pg.scan]using h1)⟩
theorem ybq {b:Nat} {S:Pg.Fs} {F:Nat->Prop} {g h:FuncId} {ca cb:Array Value} {L:Nat->Nat->Bool} {R:List Pg.Sp->(Nat->Prop)->N->Prop} (T:yct b S F g h ca cb L R) (t:Int) (V:Nat->Prop) (w:N) (hR:R [] V w):
 Calls kh 116 #[yi #[yS (J ⟨b,0,I⟩),.func (.func g) #[] ca,.func (.func h) #[] cb],Z Y t] w fun e w'=>
  e=yP (Z Y (Pg.thr S L 3 t 0).2)/\∃V',R (Pg.thr S L 3 t 0).1 V' w'/\But V w w'/\∀k,V' k->V k\/w.heap.size<=k:=by
 have HT:Hid _:=ydc T 3 (by omega) t 0 [] V _ (by decide) (by decide) (T.grow _ _ _ _ hR (zA (zR w) (yN #[yS (J ⟨b,0,I⟩),.func (.func g) #[] ca,.func (.func h) #[] cb] 202)));clear hR T
 go_enter Tryz.func116,Tryz.ntmps116
 go_wp2_with fail
 refine Calls.mono HT.out ?_;rintro e w1 ⟨rfl,V',hr,hb,hn⟩
 have fin:Hid (∃V',R (Pg.thr S L 3 t 0).1 V' w1/\But V w w1/\∀k,V' k->V k\/w.heap.size<=k):=
  ⟨V',hr,((But.refl V w).alloc _).trans hb (fun _ _ h=>h),fun k hk=>(hn k hk).imp id (fun h=>by simp at h;omega)⟩
 clear hr hb hn
 go_wp2_with fail
 go_ret
 exact⟨rfl,fin.out⟩
def xG (l:List Int):List Value:=l.map fun k:Int=>Value.int Y k
theorem ygc (l:List Int) (j:Nat) (hj:j<l.length):(xG l)[j]?=J (Z Y (l.getD j 0)):=by
 simp[xG,List.getD,hj]
def zx (w:N) (ad:Option Addr) (L:List Int):Prop:=∀j,j<L.length->∃g,ad=J ⟨g,0,I⟩/\g<w.heap.size/\w.cell? ⟨g,j,I⟩=J (Z Y (L.getD j 0))
theorem zx.below {w w':N} {ad:Option Addr} {L:List Int} (h:zx w ad L) (hb:Below w.heap.size w w'):zx w' ad L:=by
 intro j hj;obtain⟨g,e,hg,hm⟩:=h j hj;exact⟨g,e,yY hg hb.size,(hb.cell (p:=⟨g,j,I⟩) hg).trans hm⟩
theorem qG {w:N} {base:Nat} {ad:Option Addr} {n cap:Nat} {L:List Int} (h:w.ownsRow base 3 1 (ks ad n cap) L.length (xG L)):zx w ad L:=by
 intro j hj;obtain⟨g,cap',e,_,hg⟩:=h.form (by omega);cases e;refine⟨g,rfl,hg,?_⟩;rw[h.cellAt _ (by omega)];exact ygc L j hj
structure Var (B:Nat) (c o:Nat) (e:TypeId) (size:Nat) (vb:Value) (n:Nat) (xs:List Value) (w:N):Prop where
 cell:w.cell? ⟨c,o,I⟩=J vb
 own:w.ownsRow B e size vb n xs
 ne:vb.ownBlock≠J c
namespace Var
variable {B c o:Nat} {e:TypeId} {size:Nat} {vb:Value} {n:Nat} {xs:List Value} {w w':N}
theorem grow (h:Var B c o e size vb n xs w) (hb:Below w.heap.size w w'):Var B c o e size vb n xs w':=
 ⟨cell_later hb h.cell,zl h.own hb,h.ne⟩
theorem lt (h:Var B c o e size vb n xs w) {k:Nat} (hk:vb.ownBlock=J k):k<w.heap.size:=(h.own.lt k hk).2
theorem lb (h:Var B c o e size vb n xs w):c<w.heap.size:=yJ _ _ h.cell
theorem push {wA w3:N} {g cap n':Nat} {xs':List Value} (h:Var B c o e size vb n xs w) (hA:Below w.heap.size w wA) (hg:wA.grownBy w3 vb.ownBlock)
 (Hr:w3.ownsRow B e size (ks (J ⟨g,0,I⟩) n' cap) n' xs') (hat:vb.ownBlock=J g\/g=wA.heap.size):
 w3.cell? ⟨c,o,I⟩=J vb/\(∀o,w3.frozen? ⟨c,o,I⟩=w.frozen? ⟨c,o,I⟩)/\(∀o,w3.cell? ⟨c,o,I⟩=w.cell? ⟨c,o,I⟩)/\g≠c/\Var B c o e size (ks (J ⟨g,0,I⟩) n' cap) n' xs' (w3.setCell ⟨c,o,I⟩ (ks (J ⟨g,0,I⟩) n' cap))/\
  But (fun k=>k=c\/vb.ownBlock=J k) w (w3.setCell ⟨c,o,I⟩ (ks (J ⟨g,0,I⟩) n' cap))/\(vb.ownBlock=J g\/w.heap.size<=g):=by
 have hl:=h.lb
 have fU:g≠c:=by
  rintro rfl;rcases hat with e1|e1
  ·exact h.ne e1
  ·have:=hA.size;omega
 have hB:But (fun k=>k=c\/vb.ownBlock=J k) w w3:=(But.yhp hA).grown hg fun k hk=> .inr (.inr hk);have tH:But (fun k=>vb.ownBlock=J k) w w3:=(But.yhp hA).grown hg fun k hk=> .inr hk;have hc:w3.cell? ⟨c,o,I⟩=J vb:=(tH.cell (a:=⟨c,o,I⟩) hl (fun e=>h.ne e)).trans h.cell;refine⟨hc,fun o=>tH.frozen (a:=⟨c,o,I⟩) hl (fun e=>h.ne e),fun o=>tH.cell (a:=⟨c,o,I⟩) hl (fun e=>h.ne e),fU,⟨yQ _ _ _ hc,?_,?_⟩,hB.setCell (.inr (.inl rfl)) _,?_⟩
 ·exact zb Hr fun k hk=>Below.heap_setCell _ _ _ _ (fun e=>fU ((show g=k by simpa[yB]using hk).trans e))
 ·simpa[yB]using fU
 ·exact hat.imp id fun e=>by have:=hA.size;omega
end Var
structure qs (w0:N) (c:Nat) (e:TypeId) (size:Nat) (len:List Pg.Sp->Nat) (row:List Pg.Sp->List Value) (X:List Pg.Sp) (V:Nat->Prop) (w:N):Prop where
 bel:Below w0.heap.size w0 w
 hi:w0.heap.size<=c
 fz:∀o,w.frozen? ⟨c,o,I⟩=kO
 var:∃vb,Var w0.heap.size c 0 e size vb (len X) (row X) w/\V=fun k=>k=c\/vb.ownBlock=J k
namespace qs
variable {w0:N} {c:Nat} {e:TypeId} {size:Nat} {len:List Pg.Sp->Nat} {row:List Pg.Sp->List Value} {X X':List Pg.Sp} {V:Nat->Prop} {w w':N}
theorem grow (h:qs w0 c e size len row X V w) (hb:Below w.heap.size w w'):qs w0 c e size len row X V w':=by
 obtain⟨h1,h2,h3,vb,hv,rfl⟩:=h;exact⟨h1.trans (hb.mono h1.size),h2,fun o=>(hb.frozen (p:=⟨c,o,I⟩) hv.lb).trans (h3 o),vb,hv.grow hb,rfl⟩
theorem lt (h:qs w0 c e size len row X V w) {k:Nat} (hk:V k):k<w.heap.size:=by
 obtain⟨h1,h2,h3,vb,hv,rfl⟩:=h;rcases hk with rfl|hk
 ·exact hv.lb
 ·exact hv.lt hk
theorem same (h:qs w0 c e size len row X V w) (h1:len X'=len X) (h2:row X'=row X):qs w0 c e size len row X' V w:=
 ⟨h.bel,h.hi,h.fz,by rw[h1,h2];exact h.var⟩
theorem stay (h:qs w0 c e size len row X V w) (hb:Below w.heap.size w w') (h1:len X'=len X) (h2:row X'=row X):∃V',qs w0 c e size len row X' V' w'/\But V w w'/\∀k,V' k->V k\/w.heap.size<=k:=
 ⟨V,(h.grow hb).same h1 h2,But.yhp hb,fun k hk=> .inl hk⟩
theorem fr {b:Nat} {S:Pg.Fs} {F:Nat->Prop} (hf:zh w0 b S F) (h:qs w0 c e size len row X V w):zh w b S F:=
 hf.keep (G:=fun k=>w0.heap.size<=k) (w':=w) ⟨h.bel.os,h.bel.tape,h.bel.output,h.bel.size,fun k hk _=>h.bel.block k hk⟩ (fun k hk=>by have:=hf.lt hk;omega)
theorem push (h:qs w0 c e size len row X V w) {vb:Value} (hv:Var w0.heap.size c 0 e size vb (len X) (row X) w) (hV:V=fun k=>k=c\/vb.ownBlock=J k) {wA w3:N} {g cap n':Nat} {xs':List Value} (hA:Below w.heap.size w wA) (hg:wA.grownBy w3 vb.ownBlock)
 (Hr:w3.ownsRow w0.heap.size e size (ks (J ⟨g,0,I⟩) n' cap) n' xs') (hat:vb.ownBlock=J g\/g=wA.heap.size) (h1:len X'=n') (h2:row X'=xs'):
 ∃V',qs w0 c e size len row X' V' (w3.setCell ⟨c,0,I⟩ (ks (J ⟨g,0,I⟩) n' cap))/\But V w (w3.setCell ⟨c,0,I⟩ (ks (J ⟨g,0,I⟩) n' cap))/\∀k,V' k->V k\/w.heap.size<=k:=by
 obtain⟨p1,p2,p2',p3,p4,p5,p6⟩:=hv.push hA hg Hr hat;subst hV;refine⟨_,⟨?_,h.hi,fun o=>by rw[World.frozen?_setCell,p2];exact h.fz o,_,by rw[h1,h2];exact p4,rfl⟩,p5,fun k hk=> ?_⟩
 ·have Cf:∀k,(k=c\/vb.ownBlock=J k)->w0.heap.size<=k:=fun k hk=>by
   rcases hk with rfl|hk
   ·exact h.hi
   ·exact(hv.own.lt k hk).1
  exact h.bel.trans (p5.below h.bel.size Cf)
 ·rcases hk with rfl|hk
  ·exact .inl (.inl rfl)
  ·have e1:g=k:=by simpa[yB]using hk
   subst e1;exact p6.imp .inr id
end qs
theorem ji:(Tryz.prog.info? 3).map (fun i=>(i.zero,i.size,i.bytes))=J (J (Z Y 0),1,8):=by kernel_rfl
theorem ydb {w0:N} {c:Nat} {t:Int} (s:Pg.Sp) (X:List Pg.Sp) (V:Nat->Prop) (w:N) (Hg:X.length<4680)
 (hR:qs w0 c 3 1 (fun X=>(t::Pg.zU X).length) (fun X=>xG (t::Pg.zU X)) X V w):
 Calls kh 117 #[s.val,yS (J ⟨c,0,I⟩)] w fun e w'=>e=yP (yM #[])/\∃V',qs w0 c 3 1 (fun X=>(t::Pg.zU X).length) (fun X=>xG (t::Pg.zU X)) (X++[s]) V' w'/\But V w w'/\∀k,V' k->V k\/w.heap.size<=k:=by
 have HT:Hid (Pg.zU (X++[s])=Pg.zU X++if s.e.on=kp then [s.e.f]else []):=by simp[Hid,Pg.zU]
 have HR:Hid _:=hR;have hl:=Pg.tabsOf_len X;obtain⟨st,sp,sl,sa,⟨et,el,er,eu,ed,ef⟩⟩:=s;have lg:=jB ⟨et,el,er,eu,ed,ef⟩;simp only[Pg.Sp.val,Pg.En.val]at lg ⊢;simp only at HT;cases Hw:Pg.En.on ⟨et,el,er,eu,ed,ef⟩
 ·rw[Hw]at lg HT
  clear hR Hw
  go_enter Tryz.func117,Tryz.ntmps117
  go_wp2_with fail
  refine(lg _).mono ?_;rintro e w1 ⟨rfl,Ha⟩;have fin:Hid _:=HR.out.stay (X':=X++[⟨st,sp,sl,sa,⟨et,el,er,eu,ed,ef⟩⟩]) (zT (zA (zR w) _) Ha) (by rw[HT.out];simp) (by rw[HT.out];simp);clear Ha
  go_wp2_with fail
  go_end0
  exact⟨rfl,fin.out⟩
 ·rw[Hw]at lg HT
  obtain⟨vb,hv,hV⟩:=hR.var;obtain⟨q0,hq,rW,rZ,rX⟩:=info_parts ji;have aQ:Hid _:=hv;have wC:=hR.fz;have Sd:=hR.bel.size;have NI:=hv.lb;clear hR Hw hv
  go_enter Tryz.func117,Tryz.ntmps117
  go_wp2_with fail
  refine(lg _).mono ?_;rintro e w1 ⟨rfl,Ha⟩;have hB:Below w.heap.size w w1:=zT (zA (zR w) _) Ha;have x9:w1.cell? ⟨w.heap.size,9,I⟩=J (Z Y ef):=(Ha.cell (p:=⟨w.heap.size,9,I⟩) (by simp)).trans (by simp[go_sem]);have v1:=aQ.out.grow hB;have cc:=v1.cell
  have dE:w.heap.size<w1.heap.size:=by have:=Ha.size;simp at this;omega
  have Hr:=v1.own;have HB:Hid _:=hB;clear Ha hB v1 lg
  go_wp2_with (first
   | (at_builtin;refine wpList_append_lies _ rfl _ _ 45 rfl w0.heap.size 3 q0 (Z Y 0) 1 8 Tryz.underlying45 hq rW rZ rX rfl (by decide) _ _ _ rfl (Hr.alloc _) ⟨w1.heap.size,0,I⟩ 1 1 [Z Y ef] rfl rfl ?c1 ?c2 (by decide) ?c3 ?c4 ?c5 (w1.heap.size+1) (by simp) ?_))
  case c1=>
   intro j u hj
   match j,hj with
   | 0,hj=>simp at hj;subst hj;simp[Addr.add,go_sem]
  case c2=>intro u hu;simp at hu;subst hu;rfl
  case c3=>simp[maxLen];omega
  case c4=>simp;omega
  case c5=>have:=HB.out.size;simp;omega
  intro g cap w3 Hy Hq hat pK;have TJ:=zA HB.out (yN #[Z Y ef] 3)
  have TF:vb.ownBlock=J g\/g=(w1.alloc (yN #[Z Y ef] 3)).heap.size:=by simpa using hat
  obtain⟨p1,p2,p3,p4,_⟩:=aQ.out.push TJ Hq Hy TF;have kf:w3.frozen? ⟨c,0,I⟩=kO:=(p2 0).trans (wC 0);have fin:Hid _:=HR.out.push (X':=X++[⟨st,sp,sl,sa,⟨et,el,er,eu,ed,ef⟩⟩]) aQ.out hV TJ Hq Hy TF (by rw[HT.out];simp) (by rw[HT.out];simp[xG]);clear TJ TF p2 p3 p4 Hy Hq hat pK Hr wC aQ HR
  go_wp2_with fail
  go_end0
  exact⟨rfl,fin.out⟩
theorem yau:∀args w,(callFunc 117 args).run kh w= .ok (.enter 117 args) w:=fun args w=>by simp[go_sem]
theorem qz:∀args w,(callFunc 113 args).run kh w= .ok (.enter 113 args) w:=fun args w=>by simp[go_sem]
theorem ycj {b:Nat} {S:Pg.Fs} {F:Nat->Prop} {w0:N} {c:Nat} {t:Int} (h:zh w0 b S F):
 yct b S F 113 117 #[] #[yS (J ⟨c,0,I⟩)] Pg.zW (qs w0 c 3 1 (fun X=>(t::Pg.zU X).length) (fun X=>xG (t::Pg.zU X))):=
 ⟨qz,yau,fun _ _ _ hR=>hR.fr h,fun _ _ _ hR _ hk=>hR.lt hk,fun _ _ _ _ hR hb=>hR.grow hb,
  fun i lv _ _ w _ _ _=>xz (jt (i:Int) (lv:Int) w),fun s X V w _ _ _ hl hR=>ydb s X V w hl hR⟩
end Go.Proofs.YtdphiompijbelaaGreat
namespace Go.Proofs.YtdphiompijbelaaGreat
open Go.RowKit
namespace Pg
structure Wk where
 on:Bool
 q:Int
 k:Int
 u:Bool
 t:Int
 lv:Nat
 x:Int
namespace Wk
def off:Wk:=⟨kO,0,0,kO,0,0,0⟩
def start (root q k:Int) (u:Bool):Wk:=⟨kp,q,k,u,root,3,0⟩
def again (root:Int) (K:Wk):Wk:=if K.on=kp then{K with t:=root,lv:=3,x:=0}else K
def mark (K:Wk) (e:En):En:={e with u:=kp,d:=e.d||K.k==1}
def ready (K:Wk) (e:En):Bool:=e.u&&(e.d||K.k !=1)
structure Ok (K:Wk):Prop where
 page:K.on=kp->below K.q 4096=kp
 lv:K.lv<4
 leaf:K.x≠0->0<=K.x/\K.x<18446744073709551616/\yhA K.x K.lv=0/\(En.of K.x K.lv).l=kp/\may (En.of K.x K.lv).r K.k K.u=kp/\ready K (En.of K.x K.lv)=kO
 idle:K.on=kO->K=Wk.off
def word (S:Fs) (K:Wk):Int:=S.word K.t.toNat (ix K.q K.lv)
end Wk
abbrev Wo:Type:=Int ⊕ Wk ⊕ Int ⊕ (En×Bool)
abbrev Wo.code (c:Int):Wo:= .inl c
abbrev Wo.go (K:Wk):Wo:= .inr (.inl K)
abbrev Wo.stop (r:Int):Wo:= .inr (.inr (.inl r))
abbrev Wo.done (e:En) (m:Bool):Wo:= .inr (.inr (.inr (e,m)))
def kOut (S:Fs) (root:Int) (K:Wk):Wo:=
 if K.on=kO then .code 9
 else if S.has K.t=kO then .code 12
 else if K.x≠0 then(if K.word S=K.x then .done (K.mark (En.of K.x K.lv)) kp else .go (K.again root))
 else if yhA (K.word S) K.lv≠0 then .code (yhA (K.word S) K.lv)
 else if (En.of (K.word S) K.lv).t=kO then .stop 1
 else if (En.of (K.word S) K.lv).l=kO then .go {K with t:=(En.of (K.word S) K.lv).f,lv:=K.lv-1}
 else if may (En.of (K.word S) K.lv).r K.k K.u=kO then .stop 2
 else if K.ready (En.of (K.word S) K.lv)=kO then .go {K with x:=K.word S}
 else .done (En.of (K.word S) K.lv) kO
structure Rs where
 ended:Bool
 a:Int
 f:Int
 r:Int
 m:Mp
 d:Bool
def Rs.zero:Rs:=⟨kO,0,0,0,⟨0,0,0,0⟩,kO⟩
def Rs.val (R:Rs):Value:=yi #[yI R.ended,Z Y R.a,Z Y R.f,Z Y R.r,Z Y R.m.p,Z Y R.m.s,Z Y R.m.f,Z Y R.m.r,yI R.d]
namespace Wo
def cd:Wo->Int
 | .inl c=>c
 | _=>0
def ended:Wo->Bool
 | .inr (.inr _)=>kp
 | _=>kO
def res (K:Wk):Wo->Rs
 | .inl _=>Rs.zero
 | .inr (.inl _)=>Rs.zero
 | .inr (.inr (.inl r))=>⟨kp,r,0,0,⟨0,0,0,0⟩,kO⟩
 | .inr (.inr (.inr (e,_)))=>⟨kp,aEnd (e.map K.lv K.q).r K.k K.u,yhY (e.map K.lv K.q).p (e.map K.lv K.q).f (e.map K.lv K.q).r K.q K.k K.u,yhL (e.map K.lv K.q).r K.k K.u,e.map K.lv K.q,e.d⟩
def next (K:Wk):Wo->Wk
 | .inl _=>K
 | .inr (.inl K')=>K'
 | _=>Wk.off
def fs (S:Fs) (K:Wk):Wo->Fs
 | .inr (.inr (.inr (e,kp)))=>S.store K.t (index K.q K.lv) (enc e.t e.l e.r e.u e.d e.f K.lv)
 | _=>S
end Wo
theorem yjX (t l:Bool) (r:Int) (u d:Bool) (f lv:Int):0<=enc t l r u d f lv/\enc t l r u d f lv<18446744073709551616:=by
 unfold enc;split
 ·rename_i h
  obtain⟨_,hc⟩:=yhG h;unfold yiD b01;rcases hc with ⟨rfl,_⟩|⟨rfl,r0,r1,f0,f1,_⟩
  ·simp
  ·simp only[if_true]
   split<;>split<;>split<;>omega
 ·omega
theorem Wk.yi5:Wk.off.Ok:=⟨fun h=>(by cases h),(by decide),fun h=>absurd rfl h,fun _=>rfl⟩
theorem Wk.yiR {root q k:Int} {u:Bool} (h:below q 4096=kp):(Wk.start root q k u).Ok:=⟨fun _=>h,by show 3<4;omega,fun h=>absurd rfl h,fun h=>by cases h⟩
theorem Wk.Ok.again {K:Wk} (h:K.Ok) (root:Int):(K.again root).Ok:=by
 unfold Wk.again;split
 ·rename_i ho
  exact⟨fun _=>h.page ho,by show 3<4;omega,fun h=>absurd rfl h,fun h=>by rw[ho]at h;cases h⟩
 ·exact h
theorem yku {S:Fs} (hS:S.Ok) {K:Wk} (h:K.Ok) (root:Int):((kOut S root K).next K).Ok:=by
 unfold kOut;split
 ·exact h
 ·rename_i ho
  have ho:K.on=kp:=by simpa using ho
  split
  ·exact h
  ·split
   ·split
    ·exact Wk.yi5
    ·exact h.again root
   ·rename_i hx
    have hx:K.x=0:=by simpa using hx
    split
    ·exact h
    ·rename_i hc
     have hc:yhA (K.word S) K.lv=0:=by simpa using hc
     split
     ·exact Wk.yi5
     ·rename_i ht
      split
      ·exact⟨fun _=>h.page ho,by show K.lv-1<4;have:=h.lv;omega,fun h=>absurd hx h,fun h=>by rw[ho]at h;cases h⟩
      ·rename_i hl
       have hl:(En.of (K.word S) K.lv).l=kp:=by simpa using hl
       split
       ·exact Wk.yi5
       ·rename_i hm
        have hm:may (En.of (K.word S) K.lv).r K.k K.u=kp:=by simpa using hm
        split
        ·rename_i hr
         exact⟨fun _=>h.page ho,h.lv,fun _=>⟨hS.low _ _,hS.high _ _,hc,hl,hm,hr⟩,fun h=>by rw[ho]at h;cases h⟩
        ·exact Wk.yi5
theorem kOut_fs {S:Fs} (hS:S.Ok) {K:Wk} (root:Int):((kOut S root K).fs S K).Ok:=by
 rcases kOut S root K with c|K'|r|⟨e,m⟩
 ·exact hS
 ·exact hS
 ·exact hS
 ·cases m
  ·exact hS
  ·have hb:=yjX e.t e.l e.r e.u e.d e.f K.lv
   exact hS.store _ _ hb.1 hb.2
end Pg
namespace Pg
structure Ln where
 m:Mp
 d:Bool
def Ln.zz:Ln:=⟨.zz,kO⟩
namespace Ln
def val (l:Ln):Value:=yi #[Z Y l.m.p,Z Y l.m.s,Z Y l.m.f,Z Y l.m.r,yI l.d]
def has (l:Ln) (q:Int):Bool:=l.m.has q
def meets (l:Ln) (m:Mp):Bool:=l.m.meets m
end Ln
structure Kept (L:List Ln):Prop where
 ok:∀l,l ∈ L->l.m.code=0
 ap:L.Pairwise fun a b=>a.m.meets b.m=kO
 le:L.length<=6
theorem Kept.nil:Kept []:=⟨fun _ h=>by simp at h,List.Pairwise.nil,by simp⟩
def kFnd (L:List Ln) (q:Int):Option Nat:=L.findIdx? fun l=>l.has q
def yjc (L:List Ln) (q:Int):Int:=match kFnd L q with
 | some k=>(k:Int)
 | none=> -1
def kAt (L:List Ln) (q:Int):Ln:=match kFnd L q with
 | some k=>L.getD k .zz
 | none=> .zz
def yiq (L:List Ln) (m:Mp):List Ln:=L.filter fun l=> !l.meets m
def yi4 (L:List Ln):List Ln:=if L.length=6 then L.drop 1 else L
def kPut (L:List Ln) (l:Ln):List Ln:=if l.m.code=0 then yi4 (yiq L l.m)++[l]else L
theorem yjJ {L:List Ln} {j:Nat} (hj:j<L.length):L.getD j .zz=L[j]:=by simp[List.getD,hj]
theorem ylD {L:List Ln} {j:Nat} (hj:j<L.length):L.getD j .zz ∈ L:=by rw[yjJ hj];exact List.getElem_mem _
theorem yi3 {L:List Ln} {q:Int} {k:Nat} (h:kFnd L q=J k):k<L.length/\(L.getD k .zz).has q=kp/\∀j,j<k->(L.getD j .zz).has q=kO:=by
 obtain⟨hk,h1,h2⟩:=uv.1 h;refine⟨hk,by rw[yjJ hk];exact h1,fun j hj=> ?_⟩;rw[yjJ (by omega)]
 simpa using h2 j hj
theorem ykN {L:List Ln} {P:Ln->Bool} {k:Nat} (hk:k<L.length) (h1:P (L.getD k .zz)=kp) (h2:∀j,j<k->P (L.getD j .zz)=kO):L.findIdx? P=J k:=by
 refine uv.2 ⟨hk,by rw[<-yjJ hk];exact h1,fun j hj=> ?_⟩;have:=h2 j hj;rw[yjJ (by omega)]at this
 simpa using this
theorem ykM {L:List Ln} {P:Ln->Bool} (h:∀j,j<L.length->P (L.getD j .zz)=kO):L.findIdx? P=I:=by
 refine yV.2 fun m hm=> ?_;obtain⟨j,hj,rfl⟩:=List.mem_iff_getElem.1 hm;have:=h j hj;rw[yjJ hj]at this
 simpa using this
theorem idx_of_some {L:List Ln} {P:Ln->Bool} {k:Nat} (h:L.findIdx? P=J k):k<L.length/\P (L.getD k .zz)=kp/\∀j,j<k->P (L.getD j .zz)=kO:=by
 obtain⟨hk,h1,h2⟩:=uv.1 h;refine⟨hk,by rw[yjJ hk];exact h1,fun j hj=> ?_⟩;rw[yjJ (by omega)]
 simpa using h2 j hj
theorem idx_of_none {L:List Ln} {P:Ln->Bool} (h:L.findIdx? P=I):∀l,l ∈ L->P l=kO:=fun l hl=>by
 simpa using yV.1 h l hl
def idxN (L:List Ln) (P:Ln->Bool):Int:=match L.findIdx? P with
 | some k=>(k:Int)
 | none=> -1
theorem ykn {L:List Ln} {j:Nat} (hj:j<L.length):L.take (j+1)=L.take j++[L.getD j .zz]:=by
 rw[List.take_succ_eq_append_getElem hj,yjJ hj]
theorem yiE {L:List Ln} {P:Ln->Bool} {j:Nat} (hj:j<L.length) (h:P (L.getD j .zz)=kp):(L.take (j+1)).filter P=(L.take j).filter P++[L.getD j .zz]:=by
 rw[ykn hj,yX];simp only[yW,h,if_true,yy]
theorem yiu {L:List Ln} {P:Ln->Bool} {j:Nat} (hj:j<L.length) (h:P (L.getD j .zz)=kO):(L.take (j+1)).filter P=(L.take j).filter P:=by
 rw[ykn hj,yX];simp only[yW,h,Bool.false_eq_true,if_false,yy,List.append_nil]
theorem Kept.fits {L:List Ln} (h:Kept L) {j:Nat} (hj:j<L.length):Pg.fits (L.getD j .zz).m.p:=(yi1 (h.ok _ (ylD hj))).2.2.1
theorem Kept.sub {L M:List Ln} (h:Kept L) (hs:M.Sublist L):Kept M:=
 ⟨fun l hl=>h.ok l (hs.subset hl),h.ap.sublist hs,yA hs.length_le h.le⟩
theorem Kept.drop {L:List Ln} (h:Kept L) (m:Mp):Kept (yiq L m):=h.sub List.filter_sublist
theorem Kept.tail {L:List Ln} (h:Kept L):Kept (L.drop 1):=h.sub (yH _ _)
theorem yjv (L:List Ln):(yi4 L).Sublist L:=by
 unfold yi4;split
 ·exact yH _ _
 ·exact List.Sublist.refl _
theorem yju {L:List Ln} (h:L.length<=6):(yi4 L).length<=5:=by
 unfold yi4;split
 ·simp;omega
 ·omega
theorem ykf {L:List Ln} {m:Mp} {l:Ln} (h:l ∈ yiq L m):l.m.meets m=kO:=by
 have:=(List.mem_filter.1 h).2
 simpa[Ln.meets]using this
theorem Kept.put {L:List Ln} (h:Kept L) (l:Ln):Kept (kPut L l):=by
 unfold kPut;split
 ·rename_i hc
  have hd:=(h.drop l.m).sub (yjv _);refine⟨fun x hx=> ?_,?_,?_⟩
  ·rcases List.mem_append.1 hx with hx|hx
   ·exact hd.ok x hx
   ·rw[yE.1 hx];exact hc
  ·refine List.pairwise_append.2 ⟨hd.ap,by simp,fun a ha b hb=> ?_⟩
   rw[yE.1 hb];exact ykf ((yjv _).subset ha)
  ·have:=yju (h.drop l.m).le
   simp only[U,List.length_cons,List.length_nil];omega
 ·exact h
theorem ylm {L:List Ln} {l:Ln} (h:l.m.code≠0):kPut L l=L:=by simp[kPut,h]
theorem ykP {L:List Ln} {l:Ln} (h:l.m.code=0):kPut L l=yi4 (yiq L l.m)++[l]:=by simp[kPut,h]
end Pg
namespace Pg
structure Tl where
 a:Int
 f:Int
 r:Int
 ended:Bool
 c:Int
def Tl.val (T:Tl):Value:=yM #[yi #[Z Y T.a,Z Y T.f,Z Y T.r],yI T.ended,Z Y T.c]
def Tl.code (c:Int):Tl:=⟨0,0,0,kO,c⟩
def Ln.ans (l:Ln) (q k:Int) (u:Bool):Tl:=⟨aEnd l.m.r k u,yhY l.m.p l.m.f l.m.r q k u,yhL l.m.r k u,kp,0⟩
def Ln.wants (l:Ln) (k:Int) (u:Bool):Bool:=k==1&&(!l.d&&may l.m.r k u)
structure Cr where
 L:List Ln
 K:Wk
namespace Cr
def new:Cr:=⟨[],Wk.off⟩
structure Ok (C:Cr):Prop where
 kept:Kept C.L
 walk:C.K.Ok
def hit (C:Cr) (q k:Int) (u:Bool):Bool:=(kFnd C.L q).isSome&& !(kAt C.L q).wants k u
def bgT (C:Cr) (q k:Int) (u:Bool):Tl:=if zK q k≠0 then .code (zK q k)else if C.K.on=kp then .code 8 else if C.hit q k u=kp then(kAt C.L q).ans q k u else .code 0
def bgN (root:Int) (C:Cr) (q k:Int) (u:Bool):Cr:=if zK q k=0/\C.K.on=kO/\C.hit q k u=kO then⟨C.L,Wk.start root q k u⟩else C
end Cr
def Wo.tl (K:Wk) (o:Wo):Tl:=⟨(o.res K).a,(o.res K).f,(o.res K).r,(o.res K).ended,o.cd⟩
def rPut (L:List Ln) (R:Rs):List Ln:=if (R.ended&&R.a==0)=kp then kPut L ⟨R.m,R.d⟩else L
namespace Cr
def stT (S:Fs) (root:Int) (C:Cr):Tl:=Wo.tl C.K (kOut S root C.K)
def stN (S:Fs) (root:Int) (C:Cr):Cr:=⟨rPut C.L ((kOut S root C.K).res C.K),(kOut S root C.K).next C.K⟩
def stS (S:Fs) (root:Int) (C:Cr):Fs:=(kOut S root C.K).fs S C.K
def told (root:Int) (C:Cr) (m:Mp):Cr:=⟨yiq C.L m,C.K.again root⟩
def yig (C:Cr):Cr:=⟨C.L.drop 1,C.K⟩
end Cr
theorem yhP {q k:Int} (h:zK q k=0):below q 4096=kp:=by
 unfold zK at h;split at h
 ·split at h
  ·assumption
  ·omega
 ·omega
theorem yh0 {q k:Int} (h:zK q k=0):fits q:=by
 have:=zB.1 (yhP h);unfold fits;omega
theorem ykS (e:En) (lv q:Int):fits (e.map lv q).p:=by
 show fits (yj1 e.t e.l e.r e.u e.d e.f lv q)
 unfold yj1;split
 ·rename_i h
  have hq:below q 4096=kp:=by
   unfold lOk at h;simp only[Bool.and_eq_true]at h;exact h.2
  have hq:=zB.1 hq;unfold span fits;split
  ·omega
  ·split
   ·omega
   ·split<;>omega
 ·unfold fits;omega
theorem ykZ (K:Wk) (o:Wo):fits (o.res K).m.p:=by
 rcases o with c|K'|r|⟨e,m⟩
 ·show fits 0;unfold fits;omega
 ·show fits 0;unfold fits;omega
 ·show fits 0;unfold fits;omega
 ·exact ykS e K.lv K.q
namespace Cr.Ok
variable {C:Cr} {S:Fs}
theorem new:Cr.new.Ok:=⟨Kept.nil,Wk.yi5⟩
theorem begin (h:C.Ok) (root q k:Int) (u:Bool):(C.bgN root q k u).Ok:=by
 unfold Cr.bgN;split
 ·rename_i hc
  exact⟨h.kept,Wk.yiR (yhP hc.1)⟩
 ·exact h
theorem step (h:C.Ok) (hS:S.Ok) (root:Int):(C.stN S root).Ok:=by
 refine⟨?_,yku hS h.walk root⟩
 show Kept (rPut _ _)
 unfold rPut;split
 ·exact h.kept.put _
 ·exact h.kept
theorem told (h:C.Ok) (root:Int) (m:Mp):(C.told root m).Ok:=⟨h.kept.drop m,h.walk.again root⟩
theorem yig (h:C.Ok):C.yig.Ok:=⟨h.kept.tail,h.walk⟩
end Cr.Ok
end Pg
namespace Pg
def Wk.at' (q k:Int) (u:Bool) (t:Int) (lv:Nat) (x:Int):Wk:=⟨kp,q,k,u,t,lv,x⟩
theorem yhZ {S:Fs} {t:Int} {i lv:Nat} (h:S.has t=kp):yhx S t i lv=yhA (S.word t.toNat i) lv/\rEn S t i lv=En.of (S.word t.toNat i) lv:=by
 unfold yhx rEn;rw[if_pos h,if_pos h];exact⟨rfl,rfl⟩
theorem yk7 (S:Fs) (root q k:Int) (u:Bool) (t:Int) (lv:Nat):
 kOut S root (Wk.at' q k u t lv 0)=
  if yhx S t (ix q lv) lv≠0 then .code (yhx S t (ix q lv) lv)
  else if (rEn S t (ix q lv) lv).t=kO then .stop 1
  else if (rEn S t (ix q lv) lv).l=kO then .go (Wk.at' q k u (rEn S t (ix q lv) lv).f (lv-1) 0)
  else if may (rEn S t (ix q lv) lv).r k u=kO then .stop 2
  else if (Wk.at' q k u t lv 0).ready (rEn S t (ix q lv) lv)=kO then .go (Wk.at' q k u t lv (S.word t.toNat (ix q lv)))
  else .done (rEn S t (ix q lv) lv) kO:=by
 unfold kOut;rw[if_neg (by simp[Wk.at'])];cases h:S.has t
 ·have hr:yhx S t (ix q lv) lv=12:=by simp[yhx,h]
  rw[if_pos (show S.has (Wk.at' q k u t lv 0).t=kO from h),hr,if_pos (by decide)]
 ·obtain⟨h1,h2⟩:=yhZ (i:=ix q lv) (lv:=lv) h
  rw[if_neg (show ¬S.has (Wk.at' q k u t lv 0).t=kO by rw[show(Wk.at' q k u t lv 0).t=t from rfl,h];decide),if_neg (show ¬(Wk.at' q k u t lv 0).x≠0 from fun h=>h rfl),h1,h2];rfl
theorem yll {S:Fs} {root q k:Int} {u:Bool} {t:Int} {lv:Nat} {x:Int} (hx:x≠0) (hh:S.has t=kp) (hw:S.word t.toNat (ix q lv)=x):
 kOut S root (Wk.at' q k u t lv x)= .done ((Wk.at' q k u t lv x).mark (En.of x lv)) kp:=by
 unfold kOut;rw[if_neg (by simp[Wk.at']),if_neg (show ¬S.has (Wk.at' q k u t lv x).t=kO by rw[show(Wk.at' q k u t lv x).t=t from rfl,hh];decide),if_pos (show(Wk.at' q k u t lv x).x≠0 from hx),if_pos (show(Wk.at' q k u t lv x).word S=(Wk.at' q k u t lv x).x from hw)];rfl
theorem yjz {K:Wk} {e:En} {lv:Int} (hl:e.l=kp) (hf:e.fault lv=0):(K.mark e).fault lv=0/\∀q,(K.mark e).map lv q=e.map lv q:=by
 obtain⟨t,l,r,u,d,f⟩:=e;simp only at hl;subst hl;have h:=(marks kp (d||K.k==1) hf).2.1;refine⟨h,fun q=> ?_⟩;unfold En.map yj1 ykv yjw yiA lOk;have h0:yht t kp r u d f lv=0:=hf
 show(⟨_,_,_,_⟩:Mp)=_
 simp only[Wk.mark,h,h0]
theorem mark_same {K:Wk} {e:En} (h:K.ready e=kp):K.mark e=e:=by
 obtain⟨t,l,r,u,d,f⟩:=e;unfold Wk.ready at h;unfold Wk.mark
 cases hk:(K.k==1)<;>simp_all
structure Fin where
 R:Rs
 n:Int
 c:Int
 S:Fs
 K:Wk
def fin (root:Int):Nat->Int->Fs->Wk->Fin
 | 0,_,S,K=>⟨Rs.zero,20,-1,S,K⟩
 | f+1,i,S,K=>if (kOut S root K).cd≠0\/(kOut S root K).ended=kp then⟨(kOut S root K).res K,i,(kOut S root K).cd,(kOut S root K).fs S K,(kOut S root K).next K⟩
   else fin root f (i+1) ((kOut S root K).fs S K) ((kOut S root K).next K)
theorem kst_word {S:Fs} {t i v:Int} (x j:Nat) (h:x≠t.toNat):(S.store t i v).word x j=S.word x j:=by
 unfold Fs.store;split
 ·show Fs.put S.word t.toNat i.toNat v x j=_
  unfold Fs.put;rw[if_neg (fun e=>h e.1)]
 ·rfl
end Pg
end Go.Proofs.YtdphiompijbelaaGreat
namespace Go.Proofs.YtdphiompijbelaaGreat
open Go.RowKit Go.Sort
variable {P:Program}
theorem qg (w:N) (dT sT ty elem:TypeId) (size g o dLen dCap:Nat) (a:Addr) (sLen sCap:Nat) (cur:Array Value) (t:TypeId) (cs:List Value)
 (hu:P.underlying dT=J (.slice elem)) (hs:(P.info? elem).map (·.size)=J size)
 (hg:w.heap[g]?=J (yN cur t (0,0))) (hn:cs.length=yt sLen dLen*size)
 (Km:∀j v,cs[j]?=J v->w.cell? (a.add j)=J v) (gX:o+cs.length<=cur.size) (h1:∀v ∈ cs,v.oneCell'=kp):
 (Builtin.copy_ #[dT,sT] ty #[ks (J ⟨g,o,I⟩) dLen dCap,ks (J a) sLen sCap]).run P w=
   .ok (goInt (yt sLen dLen)) (w.setRow g (cur.toList.take o++cs++cur.toList.drop (o+cs.length)).toArray):=by
 have hf:=run_firstCells_some (P:=P) w size (yt sLen dLen) a sLen sCap cs hn Km;have sM:=run_storeCells_at P g o t cs 0 cur w hg (by simpa using gX) h1
 cases hq:P.info? elem with
 | none=>simp[hq]at hs
 | some i=>
   have hi:i.size=size:=by simpa[hq]using hs
   simp[Builtin.copy_,run_underlying hu,Builtin.lenOf,sizeOf,typeInfo,hq,hi,hf,sM]
theorem qq (w:N) (t e ty t':TypeId) (z:Value) (ht:P.underlying t=J (.slice e)) (hv:∀w,(zeroValue e).run P w= .ok z w) (g o n c:Nat) (hn:0<n) (cur:Array Value)
 (hg:w.heap[g]?=J (yN cur t' (0,0))) (gX:o+n*z.cells.size<=cur.size) (h1:∀v ∈ (Builtin.zeroCells z.cells n).toList,v.oneCell'=kp):
 (Builtin.clear_ #[t] ty #[ks (J ⟨g,o,I⟩) n c]).run P w= .ok (yM #[]) (w.setRow g (cur.toList.take o++(Builtin.zeroCells z.cells n).toList++cur.toList.drop (o+n*z.cells.size)).toArray):=by
 have hl:(Builtin.zeroCells z.cells n).toList.length=n*z.cells.size:=by simp[size_zeroCells]
 have sM:=run_storeCells_at P g o t' (Builtin.zeroCells z.cells n).toList 0 cur w hg (by rw[hl];simpa using gX) h1;rw[hl]at sM;simp only[yZ]at sM;obtain⟨m,rfl⟩:∃m,n=m+1:=⟨n-1,by omega⟩;simp[Builtin.clear_,run_underlying ht,hv,sM]
theorem ybA (w:N) {o:Oper} {a:Act} {K:Act->N->Prop} {Q:Exit->Act->N->Prop} (d s:Operand) (t t':TypeId)
 (ho:o.op= .call {callee:= .builtin .copy,args:=#[d,s],argTypes:=#[t,t']}) (v u:Value) (hd:a.eval d=v) (hs:a.eval s=u) {v':Value} {w':N}
 (hr:(Builtin.copy_ #[t,t'] o.type #[v,u]).run P w= .ok v' w') (h:K (a.put o.dst v') w'):o.wp P a w K Q:=by
 unfold Oper.wp execOp;simp only[ho,resolve,invoke,builtin,Sem.run_bind,Sem.run_pure,Result.andThen_ok,yx,yj,yk,hd,hs,hr];exact h
theorem qB (w:N) {ops:Array Oper} {rest:List Oper} {o:Oper} {a:Act} {Q:Exit->Act->N->Prop} (NZ:o.guard=I) (d s:Operand) (t t':TypeId)
 (ho:o.op= .call {callee:= .builtin .copy,args:=#[d,s],argTypes:=#[t,t']}) (v u:Value) (hd:a.eval d=v) (hs:a.eval s=u) {v':Value} {w':N}
 (hr:(Builtin.copy_ #[t,t'] o.type #[v,u]).run P w= .ok v' w') (h:wpList P ops Q rest (a.put o.dst v') w'):wpList P ops Q (o::rest) a w:=
 wpList_plain NZ fun _ hK=>ybA w d s t t' ho v u hd hs hr (hK _ _ h)
theorem jb {ops:Array Oper} {o:Oper} {a:Act} {w:N} {K:Act->N->Prop} {Q:Exit->Act->N->Prop} {E:Prop}
 (hg:o.guard=I) (d x:Operand) (dT sT:TypeId) (LW:o.op=Op.call {callee:=Callee.builtin Builtin.copy,args:=#[d,x],argTypes:=#[dT,sT]})
 (v u:Value) (hd:a.eval d=v) (hx:a.eval x=u) {v':Value} {w':N} (hr:(Builtin.copy_ #[dT,sT] o.type #[v,u]).run P w= .ok v' w') (hK:K (a.put o.dst v') w'):
 if Region.wanted o (yielded ops a.tmps)=kp then Oper.wp P o a w K Q else E:=by
 have hw:Region.wanted o (yielded ops a.tmps)=kp:=by simp[Region.wanted,hg]
 rw[if_pos hw];unfold Oper.wp;simp[execOp,LW,resolve,invoke,builtin,hd,hx,hr,Result.andThen];exact hK
theorem zw {ops:Array Oper} {o:Oper} {a:Act} {w:N} {K:Act->N->Prop} {Q:Exit->Act->N->Prop} {E:Prop}
 (hg:o.guard=I) (d x:Operand) (dT sT:TypeId) (LW:o.op=Op.call {callee:=Callee.builtin Builtin.append,args:=#[d,x],argTypes:=#[dT,sT]})
 (v u:Value) (hd:a.eval d=v) (hx:a.eval x=u) {v':Value} {w':N} (hr:(Builtin.append_ #[dT,sT] o.type #[v,u]).run P w= .ok v' w') (hK:K (a.put o.dst v') w'):
 if Region.wanted o (yielded ops a.tmps)=kp then Oper.wp P o a w K Q else E:=by
 have hw:Region.wanted o (yielded ops a.tmps)=kp:=by simp[Region.wanted,hg]
 rw[if_pos hw];unfold Oper.wp;simp[execOp,LW,resolve,invoke,builtin,hd,hx,hr,Result.andThen];exact hK
theorem yaF (w:N) {o:Oper} {a:Act} {K:Act->N->Prop} {Q:Exit->Act->N->Prop} (d:Operand) (t:TypeId)
 (ho:o.op= .call {callee:= .builtin .clear,args:=#[d],argTypes:=#[t]}) (v:Value) (hd:a.eval d=v) {v':Value} {w':N}
 (hr:(Builtin.clear_ #[t] o.type #[v]).run P w= .ok v' w') (h:K (a.put o.dst v') w'):o.wp P a w K Q:=by
 unfold Oper.wp execOp;simp only[ho,resolve,invoke,builtin,Sem.run_bind,Sem.run_pure,Result.andThen_ok,yx,yj,yk,hd,hr];exact h
theorem zH (w:N) {ops:Array Oper} {rest:List Oper} {o:Oper} {a:Act} {Q:Exit->Act->N->Prop} (NZ:o.guard=I) (d:Operand) (t:TypeId)
 (ho:o.op= .call {callee:= .builtin .clear,args:=#[d],argTypes:=#[t]}) (v:Value) (hd:a.eval d=v) {v':Value} {w':N}
 (hr:(Builtin.clear_ #[t] o.type #[v]).run P w= .ok v' w') (h:wpList P ops Q rest (a.put o.dst v') w'):wpList P ops Q (o::rest) a w:=
 wpList_plain NZ fun _ hK=>yaF w d t ho v hd hr (hK _ _ h)
theorem But.setRow {F:Nat->Prop} {w w1:N} (h:But F w w1) {g:Nat} (ha:w.heap.size<=g\/F g) (cs:Array Value):But F w (w1.setRow g cs):=
 ⟨h.os,h.tape,h.output,by simpa using h.size,fun i hi hF=>by
  rw[setRow_other _ _ _ _ (fun e=>by subst e;exact ha.elim (fun h'=>by omega) hF)]
  exact h.block i hi hF⟩
theorem yd5 {c xs news:List Value} {z n k:Nat} (hk:k<=n) (hc:(n+1)*z<=c.length) (hx:c.take (n*z)=xs) (hn:news.length=z):
 let c1:=c.take ((k+1)*z)++xs.drop (k*z)++c.drop ((k+1)*z+(xs.drop (k*z)).length)
 (c1.take (k*z)++news++c1.drop (k*z+news.length)).take ((n+1)*z)=xs.take (k*z)++news++xs.drop (k*z):=by
 intro c1
 have e1:(n+1)*z=n*z+z:=by rw[ur,ua]
 have e2:(k+1)*z=k*z+z:=by rw[ur,ua]
 have e3:k*z<=n*z:=uc _ hk
 have sG:xs.length=n*z:=by rw[<-hx,un];omega
 have hd:(xs.drop (k*z)).length=n*z-k*z:=by rw[ue,sG]
 have ht:(c.take ((k+1)*z)).length=k*z+z:=by rw[un];omega
 have h1:c1.take (k*z)=xs.take (k*z):=by
  show(c.take ((k+1)*z)++xs.drop (k*z)++_).take (k*z)=_
  rw[ud,O (by omega),yO,<-hx,yO]
  congr 1
  omega
 have h2:c1.drop (k*z+news.length)=xs.drop (k*z)++c.drop ((k+1)*z+(xs.drop (k*z)).length):=by
  show(c.take ((k+1)*z)++xs.drop (k*z)++_).drop (k*z+news.length)=_
  rw[ud,yR (by omega),yC (by omega),List.nil_append]
 have hp:(xs.take (k*z)).length=k*z:=by rw[un];omega
 rw[h1,h2,<-ud,O (by simp only[U,hp,hd,hn];omega),ki (by simp only[U,hp,hd,hn];omega)]
theorem ydo {c xs zs:List Value} {z n k:Nat} (hk:k<n) (hc:n*z<=c.length) (hx:c.take (n*z)=xs):
 let c1:=c.take (k*z)++xs.drop ((k+1)*z)++c.drop (k*z+(xs.drop ((k+1)*z)).length)
 (c1.take ((n-1)*z)++zs++c1.drop ((n-1)*z+z)).take ((n-1)*z)=xs.take (k*z)++xs.drop ((k+1)*z):=by
 intro c1;obtain⟨m,rfl⟩:∃m,n=m+1:=⟨n-1,by omega⟩
 have e1:(m+1)*z=m*z+z:=by rw[ur,ua]
 have e2:(k+1)*z=k*z+z:=by rw[ur,ua]
 have e3:k*z<=m*z:=uc _ (by omega);simp only[yD]
 have sG:xs.length=m*z+z:=by rw[<-hx,un];omega
 have hd:(xs.drop ((k+1)*z)).length=m*z-k*z:=by rw[ue,sG];omega
 have ht:(c.take (k*z)).length=k*z:=by rw[un];omega
 have h1:c1.take (m*z)=c.take (k*z)++xs.drop ((k+1)*z):=by
  show(c.take (k*z)++xs.drop ((k+1)*z)++_).take (m*z)=_
  rw[O (by rw[U,ht,hd];omega),ki (by rw[U,ht,hd];omega)]
 have hl:(c1.take (m*z)).length=m*z:=by rw[h1,U,ht,hd];omega
 rw[ud,O (by omega),ki (by omega),h1,<-hx,yO]
 congr 2
 omega
theorem yd4 {c xs news:List Value} {z n k:Nat} (hk:k<=n) (hc:(n+1)*z<=c.length) (hx:c.take (k*z)=xs.take (k*z)) (sG:xs.length=n*z) (hn:news.length=z):
 let c1:=c.take (k*z)++news++c.drop (k*z+news.length)
 (c1.take ((k+1)*z)++xs.drop (k*z)++c1.drop ((k+1)*z+(xs.drop (k*z)).length)).take ((n+1)*z)=xs.take (k*z)++news++xs.drop (k*z):=by
 intro c1
 have e1:(n+1)*z=n*z+z:=by rw[ur,ua]
 have e2:(k+1)*z=k*z+z:=by rw[ur,ua]
 have e3:k*z<=n*z:=uc _ hk
 have hd:(xs.drop (k*z)).length=n*z-k*z:=by rw[ue,sG]
 have ht:(xs.take (k*z)).length=k*z:=by rw[un];omega
 have h1:c1.take ((k+1)*z)=xs.take (k*z)++news:=by
  show(c.take (k*z)++news++_).take ((k+1)*z)=_
  rw[hx,O (by rw[U,ht,hn];omega),ki (by rw[U,ht,hn];omega)]
 rw[h1,O (by simp only[U,ht,hn,hd];omega),ki (by simp only[U,ht,hn,hd];omega)]
def zm (w:N) (e:TypeId) (size:Nat) (v:Value) (n:Nat) (xs:List Value):Prop:=
 xs.length=n*size/\((v=ks I 0 0/\n=0)\/∃g o cap cur,v=ks (J ⟨g,o,I⟩) n cap/\w.heap[g]?=J (yN cur e (0,0))/\n<=cap/\cap<=maxLen/\o+cap*size<=cur.size/\(cur.toList.drop o).take (n*size)=xs)
section
variable {w w':N} {e:TypeId} {size n:Nat} {v:Value} {xs:List Value}
theorem zm.yjA {base:Nat} (h:w.ownsRow base e size v n xs):zm w e size v n xs:=by
 obtain⟨hl,h⟩:=h;refine⟨hl,h.imp id ?_⟩;rintro ⟨g,cap,cur,rfl,_,hg,h1,h2,h3,h4⟩;exact⟨g,0,cap,cur,rfl,hg,h1,h2,by omega,by simpa using h4⟩
theorem zm.nil (w:N) (e:TypeId) (size:Nat):zm w e size (ks I 0 0) 0 []:=⟨by simp,.inl ⟨rfl,rfl⟩⟩
theorem zm.lt (h:zm w e size v n xs):∀k,v.ownBlock=J k->k<w.heap.size:=by
 intro k hk;rcases h.2 with ⟨rfl,_⟩|⟨g,o,cap,cur,rfl,hg,_⟩
 ·simp[yB]at hk
 ·simp[yB]at hk
  subst hk;exact(yF.1 hg).1
theorem zm.of_block (h:zm w e size v n xs) (hb:∀k,v.ownBlock=J k->w'.heap[k]?=w.heap[k]?):zm w' e size v n xs:=by
 refine⟨h.1,h.2.imp id ?_⟩;rintro ⟨g,o,cap,cur,rfl,hg,r⟩;exact⟨g,o,cap,cur,rfl,(hb g rfl).trans hg,r⟩
theorem zm.but {F:Nat->Prop} (h:zm w e size v n xs) (hb:But F w w') (hF:∀k,v.ownBlock=J k->¬F k):zm w' e size v n xs:=
 h.of_block fun k hk=>hb.block k (h.lt k hk) (hF k hk)
theorem zm.form (h:zm w e size v n xs):∃ad cap,v=ks ad n cap:=by
 rcases h.2 with ⟨rfl,rfl⟩|⟨g,o,cap,cur,rfl,_⟩
 ·exact⟨I,0,rfl⟩
 ·exact⟨_,_,rfl⟩
theorem zm.shape (h:zm w e size v n xs) (hn:0<n):∃g o cap,v=ks (J ⟨g,o,I⟩) n cap/\g<w.heap.size/\n<=cap/\cap<=maxLen:=by
 rcases h.2 with ⟨rfl,rfl⟩|⟨g,o,cap,cur,rfl,hg,h1,h2,_⟩
 ·omega
 ·exact⟨g,o,cap,rfl,(yF.1 hg).1,h1,h2⟩
theorem zm.cell {g o cap:Nat} (h:zm w e size (ks (J ⟨g,o,I⟩) n cap) n xs) {j:Nat} (hj:j<n*size):w.cell? ⟨g,o+j,I⟩=xs[j]?:=by
 rcases h.2 with ⟨e,_⟩|⟨g',o',cap',cur,e,hg,h1,h2,h3,h4⟩
 ·cases e
 ·cases e
  rw[cell_of_row w g (o+j) cur _ _ hg,<-h4,List.getElem?_take,if_pos hj,List.getElem?_drop];simp
theorem zm.tail {g o cap:Nat} (h:zm w e size (ks (J ⟨g,o,I⟩) n cap) n xs) (hn:0<n) {o':Nat} (ho:o'=o+size\/(cap=1/\o'=o)):
 zm w e size (ks (J ⟨g,o',I⟩) (n-1) (cap-1)) (n-1) (xs.drop size):=by
 obtain⟨hl,h⟩:=h;obtain⟨m,rfl⟩:∃m,n=m+1:=⟨n-1,by omega⟩;simp only[yD]
 have hm:(m+1)*size=m*size+size:=by rw[ur,ua]
 refine⟨by rw[ue,hl];omega,?_⟩;rcases h with ⟨e,_⟩|⟨g',p,cap',cur,e,hg,h1,h2,h3,h4⟩
 ·cases e
 ·cases e
  obtain⟨c,rfl⟩:∃c,cap=c+1:=⟨cap-1,by omega⟩
  have hc:(c+1)*size=c*size+size:=by rw[ur,ua]
  refine .inr ⟨g,o',c,cur,rfl,hg,by omega,by omega,?_,?_⟩
  ·rcases ho with rfl|⟨h0,rfl⟩
   ·omega
   ·omega
  ·rcases ho with rfl|⟨h0,rfl⟩
   ·rw[<-h4,yz,List.drop_drop]
    congr 1
    omega
   ·have rT:m=0:=by omega
    subst rT
    have:(xs.drop size).length=0:=by rw[ue,hl];omega
    rw[List.length_eq_zero_iff.1 this];simp
end
section
variable {P:Program} (w:N)
theorem j9 (t ty e:TypeId) (i:TypeInfo) (ht:P.underlying t=J (.slice e)) (hi:P.info? e=J i)
 (g o sLen sCap:Nat) (cur:Array Value) (hg:w.heap[g]?=J (yN cur e (0,0)))
 (a:Addr) (m c:Nat) (news:List Value) (hl:news.length=m*i.size) (tJ:∀j u,news[j]?=J u->w.cell? (a.add j)=J u) (h1:∀u ∈ news,u.oneCell'=kp)
 (dw:sLen+m<=sCap) (gX:o+sLen*i.size+news.length<=cur.size):
 (Builtin.append_ #[t,t] ty #[ks (J ⟨g,o,I⟩) sLen sCap,ks (J a) m c]).run P w=
   .ok (ks (J ⟨g,o,I⟩) (sLen+m) sCap) (w.setRow g (cur.toList.take (o+sLen*i.size)++news++cur.toList.drop (o+sLen*i.size+news.length)).toArray):=by
 have hf:=run_firstCells_some (P:=P) w i.size m a m c news hl tJ;have sM:=run_storeCells_at P g (o+sLen*i.size) e news 0 cur w hg (by simpa using gX) h1;simp only[yZ]at sM;simp[Builtin.append_,run_underlying ht,sizeOf,typeInfo,hi,Builtin.lenOf,dw,hf,Addr.add_lit,sM]
theorem jL (t ty e:TypeId) (i:TypeInfo) (z:Value) (size bytes:Nat) (ht:P.underlying t=J (.slice e)) (hi:P.info? e=J i) (hz:i.zero=J z)
 (iI:i.size=size) (Oc:i.bytes=bytes) (Ej:z.cells.size=size) (pU:0<size)
 (v:Value) (n:Nat) (xs:List Value) (Hr:zm w e size v n xs)
 (a:Addr) (m c:Nat) (news:List Value) (hl:news.length=m*size) (tJ:∀j u,news[j]?=J u->w.cell? (a.add j)=J u) (h1:∀u ∈ news,u.oneCell'=kp)
 (hm:0<m) (UO:n+m<=maxLen) (eB:(n+m)*bytes<=140737488355328):
 ∃g o cap w',(Builtin.append_ #[t,t] ty #[v,ks (J a) m c]).run P w= .ok (ks (J ⟨g,o,I⟩) (n+m) cap) w'/\zm w' e size (ks (J ⟨g,o,I⟩) (n+m) cap) (n+m) (xs++news)/\
  But (fun j=>v.ownBlock=J j) w w'/\(v.ownBlock=J g\/w.heap.size<=g):=by
 have Hg:(xs++news).length=(n+m)*size:=by rw[U,Hr.1,hl,ur]
 rcases Hr.2 with ⟨rfl,rfl⟩|⟨g,o,cap,cur,rfl,hg,hnc,Oe,gJ,Gu⟩
 ·have hx:xs=[]:=List.eq_nil_of_length_eq_zero (by simpa using Hr.1)
  subst hx;obtain⟨v',w',hr,h2,h3,h4⟩:=run_append_own (P:=P) w w.heap.size t ty e i z size bytes ht hi hz iI Oc Ej pU (ks I 0 0) 0 [] (World.ownsRow_nil _ _ _ _) a m c news hl tJ h1 UO eB (yq _);rcases h2.2 with ⟨_,e0⟩|⟨g,cap,cur,rfl,hb,r⟩
  ·omega
  ·exact⟨g,0,cap,w',hr,zm.yjA h2,(But.refl _ w).grown h3 (fun k hk=> .inr hk),.inr hb⟩
 ·by_cases dw:n+m<=cap
  ·subst iI
   have e1:(n+m)*i.size=n*i.size+m*i.size:=ur _ _ _;have e2:(n+m)*i.size<=cap*i.size:=uc _ dw;have hr:=j9 (P:=P) w t ty e i ht hi g o n cap cur hg a m c news hl tJ h1 dw (by omega);refine⟨g,o,cap,_,hr,⟨Hg,.inr ⟨g,o,cap,_,rfl,setRow_heap w g cur _ e _ hg,dw,Oe,?_,?_⟩⟩,But.setRow (But.refl (fun j=>(Value.slice (J ⟨g,o,I⟩) n cap).ownBlock=J j) w) (g:=g) (.inr rfl) _,.inl rfl⟩
   ·simp only[List.size_toArray,U,un,ue,yK]
    omega
   ·have e3:(cur.toList.take (o+n*i.size)).length=o+n*i.size:=by rw[un,yK];omega
    rw[ud,yR (by omega),yz,show o+n*i.size-o=n*i.size by omega,Gu,<-ud,O (by rw[Hg];omega),ki (by rw[Hg];omega)]
  ·obtain⟨v',w',hr,r1,r2⟩:=run_append_arg_grows (P:=P) w t ty e i z size bytes ht hi hz iI Oc Ej pU ⟨g,o,I⟩ n cap xs Hr.1 (fun j u hj=>by
    rw[Addr.add_lit,Hr.cell (by have:=(List.getElem?_eq_some_iff.1 hj).1;rw[Hr.1]at this;exact this)]
    exact hj) a m c news hl tJ (by omega) UO eB
   rcases r1.2 with ⟨_,e0⟩|⟨g',cap',cur',rfl,hb,r⟩
   ·omega
   ·exact⟨g',0,cap',w',hr,zm.yjA r1,(But.refl _ w).grown r2 (fun k hk=>by cases hk),.inr hb⟩
end
def xT (l:Pg.Ln):List Value:=[Z Y l.m.p,Z Y l.m.s,Z Y l.m.f,Z Y l.m.r,yI l.d]
def zL (L:List Pg.Ln):List Value:=L.flatMap xT
theorem qk:∀L:List Pg.Ln,(zL L).length=L.length*5
 | []=>rfl
 | x::r=>by
   have:=qk r;simp[zL,xT]at this ⊢;omega
theorem vh (x:Pg.Ln) (r:List Pg.Ln):zL (x::r)=xT x++zL r:=by simp[zL]
theorem ju (A B:List Pg.Ln):zL (A++B)=zL A++zL B:=by simp[zL]
theorem ycT (m:Pg.Ln):zL [m]=xT m:=by simp[zL]
theorem xN (A:List Pg.Ln) (m:Pg.Ln):zL (A++[m])=zL A++xT m:=by rw[ju,ycT]
theorem j6:∀(L:List Pg.Ln) (j i:Nat),j<L.length->i<5->(zL L)[j*5+i]?=(xT (L.getD j .zz))[i]?
 | [],j,_,h,_=>by simp at h
 | x::r,0,i,_,hi=>by
   rw[vh,List.getElem?_append_left (by simp[xT];omega)];simp
 | x::r,j+1,i,h,hi=>by
   have:=j6 r j i (by simpa using h) hi;rw[vh,yT (by simp[xT];omega)];rw[show(j+1)*5+i-(xT x).length=j*5+i by simp[xT];omega,this];simp
theorem vj (L:List Pg.Ln):∀u,u ∈ zL L->u.oneCell'=kp:=by
 intro u hu;obtain⟨m,_,hm⟩:=yG.1 hu;simp[xT]at hm
 rcases hm with rfl|rfl|rfl|rfl|rfl<;>rfl
theorem xY (L:List Pg.Ln) (j:Nat):(zL L).take (j*5)=zL (L.take j)/\(zL L).drop (j*5)=zL (L.drop j):=by
 by_cases hj:j<=L.length
 ·have e:zL L=zL (L.take j)++zL (L.drop j):=by rw[<-ju,List.take_append_drop]
  have hl:(zL (L.take j)).length=j*5:=by rw[qk,un];congr 1;omega
  exact⟨by rw[e,List.take_left' hl],by rw[e,List.drop_left' hl]⟩
 ·have hl:=qk L
  rw[ki (by omega),ki (l:=L) (by omega),yC (by omega),yC (show L.length<=j by omega)];exact⟨rfl,rfl⟩
def qt (w:N) (g o:Nat) (l:Pg.Ln):Prop:=
 w.cell? ⟨g,o,I⟩=J (Z Y l.m.p)/\w.cell? ⟨g,o+1,I⟩=J (Z Y l.m.s)/\w.cell? ⟨g,o+2,I⟩=J (Z Y l.m.f)/\w.cell? ⟨g,o+3,I⟩=J (Z Y l.m.r)/\w.cell? ⟨g,o+4,I⟩=J (yI l.d)
theorem qt.of {w w':N} {g o:Nat} {l:Pg.Ln} (h:qt w g o l) (hc:∀p,w'.cell? ⟨g,p,I⟩=w.cell? ⟨g,p,I⟩):qt w' g o l:=
 ⟨(hc _).trans h.1,(hc _).trans h.2.1,(hc _).trans h.2.2.1,(hc _).trans h.2.2.2.1,(hc _).trans h.2.2.2.2⟩
theorem qt.below {w w':N} {g o B:Nat} {l:Pg.Ln} (h:qt w g o l) (hb:Below B w w') (hg:g<B):qt w' g o l:=h.of fun p=>hb.cell (p:=⟨g,p,I⟩) hg
def qC (w:N) (ad:Option Addr) (L:List Pg.Ln):Prop:=∀j,j<L.length->∃g o,ad=J ⟨g,o,I⟩/\g<w.heap.size/\qt w g (o+j*5) (L.getD j .zz)
theorem qC.below {w w':N} {ad:Option Addr} {L:List Pg.Ln} (h:qC w ad L) (hb:Below w.heap.size w w'):qC w' ad L:=by
 intro j hj;obtain⟨g,o,e,hg,hm⟩:=h j hj;exact⟨g,o,e,yY hg hb.size,hm.below hb hg⟩
theorem zt {w:N} {e:TypeId} {ad:Option Addr} {n cap:Nat} {L:List Pg.Ln} (h:zm w e 5 (ks ad n cap) L.length (zL L)):qC w ad L:=by
 intro j hj;obtain⟨g,o,cap',e,hg,_⟩:=h.shape (by omega);cases e;have hc:=fun i (hi:i<5)=>(h.cell (j:=j*5+i) (by omega)).trans (j6 L j i hj hi);have h0:=hc 0 (by omega);have h1:=hc 1 (by omega);have h2:=hc 2 (by omega);have h3:=hc 3 (by omega);have h4:=hc 4 (by omega);simp only[xT,<-Nat.add_assoc,yZ]at h0 h1 h2 h3 h4;exact⟨g,o,rfl,hg,by simpa using h0,by simpa using h1,by simpa using h2,by simpa using h3,by simpa using h4⟩
end Go.Proofs.YtdphiompijbelaaGreat
namespace Go.Proofs.YtdphiompijbelaaGreat
open Go.ChangeShapes Go.WideShapes Go.ChangeAt Go.RowKit Go.Joins
theorem own:ownKnob Tryz.prog.godebug=I:=by kernel_rfl
theorem yge:laidOutB kh=kp:=by kernel_rfl
section
variable {H:Type} {enc:TypeId×Value->H} {W:N} {r:Reach} {b0 base:Nat} {spare:Nat->Bool} {held:Bool} {v:Value} {d:DataW H} {p:List MemPlace}
theorem yeS (hv:yn kh W r b0 3 v) (h:DataW.Trod enc kh W base spare held 3 v d p):
 ∃x:Int,v=Z Y x/\Pg.fits x:=by
 obtain⟨a,rfl,_,_,w⟩:=open_int Tryz.underlying3 hv h;exact⟨a,rfl,Pg.yiY w⟩
theorem ygl {W':N} {t:TypeId} (hr:Tryz.prog.readableRec t=kp) (ht:t<Tryz.prog.types.size)
 (h:DataW.Trod enc kh W 0 (fun _=>kp) kp t v d p) (hb:Below W.heap.size W W'):
 DataW.Trod enc kh W' 0 (fun b=>decide (b<W.heap.size)) kp t v d p:=
 Below.trod yge hr ht h hb (by obtain⟨m,hm⟩:=h;exact DataW.trod_lt m _ _ _ hm)
end
open Go.ChangeShapes Go.WideShapes Go.ChangeAt Go.RowKit Go.Joins Go.Deep
set_option linter.unusedVariables false
structure Bst where
 kind:Int
 core:Int
 m:Pg.Mp
 q:Int
 k:Int
 u:Bool
def Bst.zz:Bst:=⟨0,0,.zz,0,0,kO⟩
def yf3 (W:N) (b o:Nat) (x:Bst):Prop:=
 W.cell? ⟨b,o,I⟩=J (Z Y x.kind)/\W.cell? ⟨b,o+1,I⟩=J (Z Y x.core)/\W.cell? ⟨b,o+2,I⟩=J (Z Y x.m.p)/\W.cell? ⟨b,o+3,I⟩=J (Z Y x.m.s)/\W.cell? ⟨b,o+4,I⟩=J (Z Y x.m.f)/\W.cell? ⟨b,o+5,I⟩=J (Z Y x.m.r)/\W.cell? ⟨b,o+6,I⟩=J (Z Y x.q)/\W.cell? ⟨b,o+7,I⟩=J (Z Y x.k)/\W.cell? ⟨b,o+8,I⟩=J (yI x.u)
def ycs (x:Bst):Prop:=Pg.fits x.m.p/\Pg.fits x.m.s/\Pg.fits x.m.f/\Pg.fits x.m.r/\Pg.fits x.q/\Pg.fits x.k
section
variable {H:Type} {enc:TypeId×Value->H} {W:N} {r:Reach} {b0 base:Nat} {spare:Nat->Bool} {held:Bool} {v:Value} {d:DataW H} {p:List MemPlace}
theorem yfE (hv:yn kh W r b0 22 v) (h:DataW.Trod enc kh W base spare held 22 v d p):
 ∃(ad:Option Addr) (len cap:Nat) (q:Nat->Bst),v=ks ad len cap/\
  ∀j,j<len->(∃b o,ad=J ⟨b,o,I⟩/\b<W.heap.size/\yf3 W b (o+j*9) (q j))/\ycs (q j):=by
 obtain⟨a0,len,cap,rfl⟩:=okWide_slice Tryz.underlying22 hv;obtain⟨fuel,hf⟩:=h
 have k9:Tryz.prog.cellsOf 43=9:=by kernel_rfl
 have k1:Tryz.prog.cellsOf 3=1:=by kernel_rfl
 have kb:Tryz.prog.cellsOf 4=1:=by kernel_rfl
 have km:Tryz.prog.cellsOf 39=4:=by kernel_rfl
 have ka:Tryz.prog.cellsOf 41=3:=by kernel_rfl
 rcases open_slice Tryz.underlying22 hf with ⟨e,_⟩|⟨a,len',cap',m,n,D,Pl,e,_,hl,hm,iB,_,hx⟩
 ·simp[yr]at e
  obtain⟨_,rfl,_⟩:=e;exact⟨a0,0,cap,fun _=> .zz,rfl,fun j hj=>absurd hj (by omega)⟩
 ·simp[yr]at e
  obtain⟨rfl,rfl,rfl⟩:=e
  have kV:len<=m:=by rw[iB];split<;>omega
  have each:∀i,i<len->∃x:Bst,(∃b o,J a=J ⟨b,o,I⟩/\b<W.heap.size/\yf3 W b (o+i*9) x)/\ycs x:=by
   intro i hi;obtain⟨cs0,g1,_⟩:=hx 0 (by omega);rw[k9]at g1;obtain⟨_,Aa,Dp⟩:=yL g1
   obtain⟨u,c0⟩:∃u,W.cell? a=J u:=by
    have c0:=Dp 0 (by omega);rw[List.getElem?_eq_getElem (by omega)]at c0;exact⟨_,by simpa[Addr.add]using c0⟩
   obtain⟨cs',h1,h2⟩:=hx i (by omega);rw[k9]at h1;obtain⟨_,Hg,d9⟩:=yL h1;obtain⟨xs,k,hk,hxy,_,sG,hq⟩:=DataW.trod_struct Tryz.underlying43 h2
   match xs,sG,cs',Hg with
   | [y0,y1,y2,y3],_,[v0,v1,v2,v3,v4,v5,v6,v7,v8],_=>
     have q0:=hq 0 _ rfl;have q1:=hq 1 _ rfl;have q2:=hq 2 _ rfl;have q3:=hq 3 _ rfl;simp[k1,km,ka]at q0 q1 q2 q3;obtain⟨xm,kM,_,_,_,LB,Cg⟩:=DataW.trod_struct Tryz.underlying39 q2;obtain⟨xa,kA,_,_,_,kI,Nu⟩:=DataW.trod_struct Tryz.underlying41 q3
     match xm,LB,xa,kI with
     | [m0,m1,m2,m3],_,[n0,n1,n2],_=>
       have r0:=Cg 0 _ rfl;have r1:=Cg 1 _ rfl;have r2:=Cg 2 _ rfl;have r3:=Cg 3 _ rfl;have s0:=Nu 0 _ rfl;have s1:=Nu 1 _ rfl;have s2:=Nu 2 _ rfl;simp[k1]at r0 r1 r2 r3;simp[k1,kb]at s0 s1 s2;obtain⟨a0,e0,_,_⟩:=DataW.trod_int Tryz.underlying3 q0;obtain⟨a1,e1,_,_⟩:=DataW.trod_int Tryz.underlying3 q1;obtain⟨a2,e2,_,w2⟩:=DataW.trod_int Tryz.underlying3 r0;obtain⟨a3,e3,_,w3⟩:=DataW.trod_int Tryz.underlying3 r1;obtain⟨a4,e4,_,w4⟩:=DataW.trod_int Tryz.underlying3 r2;obtain⟨a5,e5,_,w5⟩:=DataW.trod_int Tryz.underlying3 r3;obtain⟨a6,e6,_,w6⟩:=DataW.trod_int Tryz.underlying3 s0;obtain⟨a7,e7,_,w7⟩:=DataW.trod_int Tryz.underlying3 s1;obtain⟨a8,e8,_⟩:=DataW.trod_bool Tryz.underlying4 s2;simp at e0 e1 e2 e3 e4 e5 e6 e7 e8;subst e0 e1 e2 e3 e4 e5 e6 e7 e8;have d0:=d9 0 (by omega);have d1:=d9 1 (by omega);have d2:=d9 2 (by omega);have d3:=d9 3 (by omega);have d4:=d9 4 (by omega);have d5:=d9 5 (by omega);have d6:=d9 6 (by omega);have d7:=d9 7 (by omega);have d8:=d9 8 (by omega)
       have gF:a.spot=I:=by
        obtain⟨_,_,_,_,hs⟩:=World.shape?_of_cell? c0;exact hs
       obtain⟨b,o,sp⟩:=a;cases gF;have Hf:b<W.heap.size:=yJ _ _ c0
       have ha:∀x y:Nat,((⟨b,o,I⟩:Addr).add x).add y=⟨b,o+x+y,I⟩:=by
        intro x y;unfold Addr.add
        split<;>split<;>simp_all<;>omega
       rw[ha]at d0 d1 d2 d3 d4 d5 d6 d7 d8;exact⟨⟨a0,a1,⟨a2,a3,a4,a5⟩,a6,a7,a8⟩,⟨b,o,rfl,Hf,by simpa using d0,by simpa using d1,by simpa using d2,by simpa using d3,by simpa using d4,by simpa using d5,by simpa using d6,by simpa using d7,by simpa using d8⟩,Pg.yiY w2,Pg.yiY w3,Pg.yiY w4,Pg.yiY w5,Pg.yiY w6,Pg.yiY w7⟩
  have _:Inhabited Bst:=⟨.zz⟩;obtain⟨q,hq⟩:=choose_lt each;exact⟨J a,len,cap,q,rfl,hq⟩
end
end Go.Proofs.YtdphiompijbelaaGreat
