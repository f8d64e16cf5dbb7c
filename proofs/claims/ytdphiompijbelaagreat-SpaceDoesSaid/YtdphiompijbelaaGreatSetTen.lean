import Derived.Test.YtdphiompijbelaaGreatPlainB
import Derived.Deep.AppendLies
import Derived.Test.YtdphiompijbelaaGreatRows
import Derived.ProofKit
import Derived.OpenShut
import Derived.Lib.SmallJoins
import Derived.Deep.Slices
import Derived.Laws.LoneSync
set_option linter.all false
set_option maxRecDepth 100000
open Go.RowKit.Below renaming heap_setCell->kI
open Int renaming eq_ofNat_of_zero_le->X
open Bool renaming false->K,true->kN
open Go.Ending renaming returned->U
open Go renaming World->T,Value->V,Calls->kP,bodyPost_ret->kT
open Go.Proofs.Tryz renaming prog->Y
open Go.IntKind renaming i64->R,u64->Z
open Go.Value renaming int->P,pointer->Q,bool->E,slice->z,ownBlock->kS,tuple->kY,okWide->kQ,agg->kZ,slice->kU,cells->kO,bool->kK,int->kX
open Option renaming none->J,some->C
open Go.World renaming cell?_of_block->I,cell?_setCell_other->N,frozen?_of_block->O,cell?_setCell_same->M,block_lt_of_cell?->kJ,cell?_setCells_out->kC,frozen?_setCells->kR,cells?_some->kF,frozen?->kV
namespace Go.Proofs.YtdphiompijbelaaGreat
open Go.RowKit Go.Sort
structure zV (w:T) (b g:Nat) (vb:V) (S:Pg.Fs):Prop where
 c0:w.cell? ⟨b,0,J⟩=C (z (C ⟨g,0,J⟩) S.n S.n)
 c1:w.cell? ⟨b,1,J⟩=C vb
 c2:w.cell? ⟨b,2,J⟩=C (P R S.next)
 fb:∀o,w.frozen? ⟨b,o,J⟩=K
 f0:∀o,w.frozen? ⟨g,o,J⟩=K
 ci:∀k,k<S.n->w.cell? ⟨g,k*9,J⟩=C (E (S.inn k))
 cw:∀k i,k<S.n->i<8->w.cell? ⟨g,k*9+1+i,J⟩=C (P Z (S.word k i))
 own:w.ownsRow 0 3 1 vb S.back.length (yau S.back)
 l0:g<w.heap.size
 n0:g≠b
 vb0:vb.ownBlock≠C g
 vbb:vb.ownBlock≠C b
def frF (b g:Nat) (vb:V):Nat->Prop:=fun k=>k=b\/k=g\/vb.ownBlock=C k
namespace zV
variable {w w':T} {b g:Nat} {vb:V} {S:Pg.Fs}
theorem lb (h:zV w b g vb S):b<w.heap.size:=kJ _ _ h.c0
theorem lt (h:zV w b g vb S) {k:Nat} (hk:frF b g vb k):k<w.heap.size:=by
 rcases hk with rfl|rfl|hk
 ·exact kJ _ _ h.c0
 ·exact h.l0
 ·exact(h.own.lt k hk).2
theorem keep (h:zV w b g vb S) {F:Nat->Prop} (hb:But F w w') (hF:∀k,frF b g vb k->¬F k):zV w' b g vb S:=by
 have hk:∀k,frF b g vb k->w'.heap[k]?=w.heap[k]?:=fun k hk=>hb.block k (h.lt hk) (hF k hk);have kb:=hk b (.inl rfl);have k0:=hk g (.inr (.inl rfl))
 exact⟨(I kb).trans h.c0,(I kb).trans h.c1,(I kb).trans h.c2,
  fun o=>(O kb).trans (h.fb o),fun o=>(O k0).trans (h.f0 o),
  fun k a=>(I k0).trans (h.ci k a),fun k i a c=>(I k0).trans (h.cw k i a c),
  za h.own fun k e=>hk k (.inr (.inr e)),Nat.lt_of_lt_of_le h.l0 hb.size,h.n0,h.vb0,h.vbb⟩
theorem drewN (h:zV w b g vb S) (n:Nat):zV (w.drewN n) b g vb S:=
 h.keep (F:=fun _=>False) (But.ygr (below_drewN (zR w) n)) (fun _ _=>id)
theorem yh4 (h:zV w b g vb S) (m:Nat):zV (w.setCell ⟨b,2,J⟩ (P R (m:Int))) b g vb {S with next:=m}:=by
 have hh:∀k,k≠b->(w.setCell ⟨b,2,J⟩ (P R (m:Int))).heap[k]?=w.heap[k]?:=fun k hk=>kI _ _ _ _ hk;have k0:=hh g h.n0
 have hs:(w.setCell ⟨b,2,J⟩ (P R (m:Int))).heap.size=w.heap.size:=by simp
 refine⟨?_,?_,M _ _ _ h.c2,fun o=>by simpa using h.fb o,fun o=>by simpa using h.f0 o,
  fun k a=>(I k0).trans (h.ci k a),fun k i a c=>(I k0).trans (h.cw k i a c),
  za h.own fun k e=>hh k (fun e'=>h.vbb (e'▸e)),hs.symm▸h.l0,h.n0,h.vb0,h.vbb⟩
 ·exact(N _ _ _ _ (by simp)).trans h.c0
 ·exact(N _ _ _ _ (by simp)).trans h.c1
theorem grow (h:zV w b g vb S) (hs:w.heap.size<=w'.heap.size) (hk:∀k,k=b\/k=g->w'.heap[k]?=w.heap[k]?) {vb':V} {l:List Nat} (ho:w'.ownsRow 0 3 1 vb' l.length (yau l)) (v0:vb'.ownBlock≠C g) (v2:vb'.ownBlock≠C b):
 zV (w'.setCell ⟨b,1,J⟩ vb') b g vb' {S with back:=l}:=by
 have kb:=hk b (.inl rfl);have k0:=hk g (.inr rfl);have hh:∀k,k≠b->(w'.setCell ⟨b,1,J⟩ vb').heap[k]?=w'.heap[k]?:=fun k hk=>kI _ _ _ _ hk;have j0:=(hh g h.n0).trans k0
 have hs':(w'.setCell ⟨b,1,J⟩ vb').heap.size=w'.heap.size:=by simp
 have l0:=h.l0
 refine⟨?_,M _ _ _ ((I kb).trans h.c1),?_,fun o=> ?_,fun o=>(O j0).trans (h.f0 o),
  fun k a=>(I j0).trans (h.ci k a),fun k i a c=>(I j0).trans (h.cw k i a c),
  za ho fun k e=>hh k (fun e'=>v2 (e'▸e)),by rw[hs'];omega,h.n0,v0,v2⟩
 ·exact(N _ _ _ _ (by simp)).trans ((I kb).trans h.c0)
 ·exact(N _ _ _ _ (by simp)).trans ((I kb).trans h.c2)
 ·rw[World.frozen?_setCell]
  exact(O kb).trans (h.fb o)
theorem yh3 (h:zV w b g vb S) {vb':V} {l:List Nat} (ho:w.ownsRow 0 3 1 vb' l.length (yau l)) (v0:vb'.ownBlock≠C g) (v2:vb'.ownBlock≠C b):
 zV (w.setCell ⟨b,1,J⟩ vb') b g vb' {S with back:=l}:=h.grow (Nat.le_refl _) (fun _ _=>rfl) ho v0 v2
theorem mark (h:zV w b g vb S) {k:Nat} (hk:k<S.n) (v:Bool) (l:List Nat) (hl:∀j,decide (j ∈ l)=if j=k then v else S.inn j):
 zV (w.setCell ⟨g,k*9,J⟩ (E v)) b g vb {S with used:=l}:=by
 have hh:∀j,j≠g->(w.setCell ⟨g,k*9,J⟩ (E v)).heap[j]?=w.heap[j]?:=fun j hj=>kI _ _ _ _ hj;have kb:=hh b (Ne.symm h.n0)
 have hs:(w.setCell ⟨g,k*9,J⟩ (E v)).heap.size=w.heap.size:=by simp
 refine⟨(I kb).trans h.c0,(I kb).trans h.c1,(I kb).trans h.c2,
  fun o=>by simpa using h.fb o,fun o=>by simpa using h.f0 o,fun j a=> ?_,fun j i a c=> ?_,
  za h.own fun j e=>hh j (fun e'=>h.vb0 (e'▸e)),hs.symm▸h.l0,h.n0,h.vb0,h.vbb⟩
 ·show _=C (kK (decide (j ∈ l)))
  rw[hl j]
  by_cases e:j=k
  ·rw[if_pos e,e]
   exact M _ _ _ (h.ci k hk)
  ·rw[if_neg e]
   exact(N _ _ _ _ (fun he=>e (by injection he with _ he;omega))).trans (h.ci j a)
 ·exact(N _ _ _ _ (fun he=>by injection he with _ he;omega)).trans (h.cw j i a c)
theorem fill (h:zV w b g vb S) {k:Nat} (hk:k<S.n) (zs:List V) (hz:zs.length=9) (h0:zs[0]?=C (E kN)) (hv:∀j:Nat,j<8->zs[j+1]?=C (P Z 0)):
 zV (w.setCells g (k*9) zs) b g vb {S with used:=k::S.used,word:=Pg.Fs.clear S.word k}:=by
 have hh:∀j,j≠g->(w.setCells g (k*9) zs).heap[j]?=w.heap[j]?:=fun j hj=>qt _ _ _ _ _ hj;have kb:=hh b (Ne.symm h.n0);have hs:=qx g zs (k*9) w
 have hin:∀i,i<zs.length->(w.setCells g (k*9) zs).cell? ⟨g,k*9+i,J⟩=zs[i]?:=by
  intro i hi
  have:=World.cell?_setCells_in g zs (k*9) w (fun i hi=>by
   match i with
   | 0=>rw[show k*9+0=k*9 from rfl,h.ci k hk];rfl
   | i+1=>rw[show k*9+(i+1)=k*9+1+i by omega,h.cw k i hk (by omega)];rfl) i hi
  rw[this,List.getElem?_eq_getElem hi]
 refine⟨(I kb).trans h.c0,(I kb).trans h.c1,(I kb).trans h.c2,
  fun o=>(kR _ _ _ _ _).trans (h.fb o),fun o=>(kR _ _ _ _ _).trans (h.f0 o),
  fun j a=> ?_,fun j i a c=> ?_,
  za h.own fun j e=>hh j (fun e'=>h.vb0 (e'▸e)),hs.symm▸h.l0,h.n0,h.vb0,h.vbb⟩
 ·show _=C (kK (decide (j ∈ k::S.used)))
  by_cases e:j=k
  ·subst e
   have:=hin 0 (by omega);simp only[Nat.add_zero]at this;rw[this,h0];simp
  ·have he:decide (j ∈ k::S.used)=S.inn j:=by simp[Pg.Fs.inn,e]
   rw[he];exact(kC _ _ _ _ _ (fun _ _=>by show j*9<k*9\/k*9+zs.length<=j*9;omega)).trans (h.ci j a)
 ·show _=C (kX Z (Pg.Fs.clear S.word k j i))
  unfold Pg.Fs.clear
  by_cases e:j=k
  ·rw[if_pos e,e,show k*9+1+i=k*9+(i+1) by omega,hin (i+1) (by omega),hv i c]
  ·rw[if_neg e]
   exact(kC _ _ _ _ _ (fun _ _=>by show j*9+1+i<k*9\/k*9+zs.length<=j*9+1+i;omega)).trans (h.cw j i a c)
theorem put (h:zV w b g vb S) {k i:Nat} (hk:k<S.n) (hi:i<8) (v:Int):
 zV (w.setCell ⟨g,k*9+1+i,J⟩ (P Z v)) b g vb {S with word:=Pg.Fs.put S.word k i v}:=by
 have hh:∀j,j≠g->(w.setCell ⟨g,k*9+1+i,J⟩ (P Z v)).heap[j]?=w.heap[j]?:=fun j hj=>kI _ _ _ _ hj;have kb:=hh b (Ne.symm h.n0)
 have hs:(w.setCell ⟨g,k*9+1+i,J⟩ (P Z v)).heap.size=w.heap.size:=by simp
 refine⟨(I kb).trans h.c0,(I kb).trans h.c1,(I kb).trans h.c2,
  fun o=>by simpa using h.fb o,fun o=>by simpa using h.f0 o,
  fun j a=>(N _ _ _ _ (fun he=>by injection he with _ he;omega)).trans (h.ci j a),fun j m a c=> ?_,
  za h.own fun j e=>hh j (fun e'=>h.vb0 (e'▸e)),hs.symm▸h.l0,h.n0,h.vb0,h.vbb⟩
 show _=C (kX Z (Pg.Fs.put S.word k i v j m))
 unfold Pg.Fs.put
 by_cases e:j=k/\m=i
 ·rw[if_pos e,e.1,e.2]
  exact M _ _ _ (h.cw k i hk hi)
 ·rw[if_neg e]
  exact(N _ _ _ _ (fun he=>e (by injection he with _ he;omega))).trans (h.cw j m a c)
end zV
def vn:Array V:=#[E K,P Z 0,P Z 0,P Z 0,P Z 0,P Z 0,P Z 0,P Z 0,P Z 0]
theorem ydE (k:Nat):vn[k*9%vn.size]! =E K:=by
 have:k*9%9=0:=by omega
 show vn[k*9%9]! =_
 rw[this];rfl
theorem ydF (k i:Nat) (hi:i<8):vn[(k*9+1+i)%vn.size]! =P Z 0:=by
 have:(k*9+1+i)%9=i+1:=by omega
 show vn[(k*9+1+i)%9]! =_
 rw[this]
 match i,hi with
 | 0,_|1,_|2,_|3,_|4,_|5,_|6,_|7,_=>rfl
theorem zV.made {w:T} {b g n:Nat} {t0 t2:TypeId} (hb:w.heap[b]?=C (.cells #[z (C ⟨g,0,J⟩) n n,z J 0 0,P R 0] t2 (0,0)))
 (h0:w.heap[g]?=C (.cells (madeCells vn (n*9)) t0 (0,0))) (n0:g≠b):zV w b g (z J 0 0) (Pg.Fs.new n):=by
 refine⟨?_,?_,?_,fun o=>by simp[kV,hb],fun o=>by simp[kV,h0],fun k hk=> ?_,fun k i hk hi=> ?_,World.ownsRow_nil _ _ _ _,(Array.getElem?_eq_some_iff.1 h0).1,n0,by simp[kS],by simp[kS]⟩
 ·rw[cell_of_row w b 0 _ _ _ hb];rfl
 ·rw[cell_of_row w b 1 _ _ _ hb];rfl
 ·rw[cell_of_row w b 2 _ _ _ hb];rfl
 ·have hk:k<n:=hk
  have hlt:k*9<n*9:=by omega
  rw[cell_of_row w g _ _ _ _ h0,madeCells];simp only[Array.getElem?_map,Array.getElem?_range,hlt,if_true,Option.map_some,ydE];rfl
 ·have hk:k<n:=hk
  have hlt:k*9+1+i<n*9:=by omega
  rw[cell_of_row w g _ _ _ _ h0,madeCells];simp only[Array.getElem?_map,Array.getElem?_range,hlt,if_true,Option.map_some,ydF k i hi];rfl
def zd (w:T) (b:Nat) (S:Pg.Fs) (F:Nat->Prop):Prop:=∃g vb,zV w b g vb S/\S.Ok/\F=frF b g vb
theorem zd.lt {w:T} {b:Nat} {S:Pg.Fs} {F:Nat->Prop} (h:zd w b S F) {k:Nat} (hk:F k):k<w.heap.size:=by
 obtain⟨g,vb,h,_,rfl⟩:=h;exact h.lt hk
theorem zd.ok {w:T} {b:Nat} {S:Pg.Fs} {F:Nat->Prop} (h:zd w b S F):S.Ok:=by
 obtain⟨g,vb,_,h,_⟩:=h;exact h
theorem zd.keep {w w':T} {b:Nat} {S:Pg.Fs} {F G:Nat->Prop} (h:zd w b S F) (hb:But G w w') (hF:∀k,F k->¬G k):zd w' b S F:=by
 obtain⟨g,vb,h,ok,rfl⟩:=h;exact⟨g,vb,h.keep hb hF,ok,rfl⟩
theorem zd.next {w w':T} {b g:Nat} {vb vb':V} {S':Pg.Fs} (h1:zV w' b g vb' S') (ok:S'.Ok) (hb:But (frF b g vb) w w') (hv:vb'.ownBlock=vb.ownBlock\/∃k,vb'.ownBlock=C k/\w.heap.size<=k):
 ∃F',zd w' b S' F'/\But (frF b g vb) w w'/\∀k,F' k->frF b g vb k\/w.heap.size<=k:=by
 refine⟨_,⟨g,vb',h1,ok,rfl⟩,hb,fun k hk=> ?_⟩;rcases hk with rfl|rfl|hk
 ·exact .inl (.inl rfl)
 ·exact .inl (.inr (.inl rfl))
 ·rcases hv with e|⟨j,e,hj⟩
  ·exact .inl (.inr (.inr (e▸hk)))
  ·rw[hk]at e
   cases e;exact .inr hj
theorem jt {b g:Nat} {vb:V} {S:Pg.Fs} (k:Int) (w:T) (h:zV w b g vb S) (ok:S.Ok):
 kP Y 203 #[Q (C ⟨b,0,J⟩),P R k] w fun e w'=>e=U (E (S.has k))/\w'=w:=by
 have hc0:=h.c0;have hn:=ok.small
 by_cases h0:0<=k
 ·obtain⟨m,rfl⟩:=X h0
  by_cases h1:m<S.n
  ·have hm:=h.ci m h1
   have HH:Hid (S.has (m:Int)=S.inn m):=by simp[Hid,Pg.Fs.has]
   have i0:(0:Int)<=(m:Int):=by omega
   have i1:(m:Int)<(S.n:Int):=by omega
   go_enter Tryz.func203,Tryz.ntmps203
   go_wp2_with fail
   go_ret
   exact⟨xi HH.out.symm,rfl⟩
  ·have HH:Hid (S.has (m:Int)=K):=by
    cases hh:S.has (m:Int)
    ·rfl
    ·have:=ok.ygG hh
     omega
   have i1:¬(m:Int)<(S.n:Int):=by omega
   go_enter Tryz.func203,Tryz.ntmps203
   go_wp2_with fail
   go_ret
   exact⟨xi HH.out.symm,rfl⟩
 ·have HH:Hid (S.has k=K):=by simp[Hid,Pg.Fs.has,h0]
  have d0:decide (0<=k)=K:=by simpa using h0
  go_enter Tryz.func203,Tryz.ntmps203
  go_wp2_with fail
  go_ret
  exact⟨xi HH.out.symm,rfl⟩
theorem yew {b g:Nat} {vb:V} {S:Pg.Fs} (w:T) (h:zV w b g vb S) (ok:S.Ok):
 kP Y 67 #[Q (C ⟨b,0,J⟩)] w fun e w'=>e=U (P R S.free)/\Below w.heap.size w w':=by
 have hc0:=h.c0;have hc1:=h.c1;have hc2:=h.c2;have hl:=ok.len;have ht:=ok.top;have hs:=ok.small;have HF:Hid (S.free=S.back.length+S.n-S.next):=rfl
 have hb:S.back.length<=128:=by omega
 have hx:S.next<=128:=by omega
 rcases h.own.2 with ⟨rfl,hlen⟩|⟨g,cap,cur,rfl,hg⟩
 ·rw[hlen]at HF
  clear hl ht hlen hb
  go_enter Tryz.func67,Tryz.ntmps67
  go_wp2_with fail
  go_quiet (fail)
  go_wp2_with fail
  go_ret
  refine⟨?_,below_drewN (zR _) _⟩;rw[HF.out]
  first|rfl|simp
 ·clear hl ht hg
  generalize S.back.length=m at*
  go_enter Tryz.func67,Tryz.ntmps67
  go_wp2_with fail
  go_quiet (fail)
  go_wp2_with fail
  go_ret
  exact⟨xJ (by rw[HF.out]),below_drewN (zR _) _⟩
def Pg.Fs.picked (S:Pg.Fs):Pg.Fs:=match S.back.getLast? with
 | some k=>{S with back:=S.back.dropLast}
 | none=>if S.next<S.n then{S with next:=S.next+1}else S
theorem yeD {b g:Nat} {vb:V} {S:Pg.Fs} (w:T) (h:zV w b g vb S) (ok:S.Ok):
 kP Y 85 #[Q (C ⟨b,0,J⟩)] w fun e w'=>e=U (P R S.takeN)/\∃vb',zV w' b g vb' S.picked/\But (frF b g vb) w w'/\vb'.ownBlock=vb.ownBlock:=by
 have hc0:=h.c0;have hc1:=h.c1;have hc2:=h.c2;have hfb:=h.fb;have hs:=ok.small;have ht:=ok.top
 by_cases hb:S.back=[]
 ·have ho:=h.own
  rw[hb]at ho
  by_cases hn:S.next<S.n
  ·have e1:S.takeN=(S.next:Int):=by simp[Pg.Fs.takeN,Pg.Fs.pick,hb,hn]
   have e2:S.picked={S with next:=S.next+1}:=by simp[Pg.Fs.picked,hb,hn]
   have fin:∀nq,Hid (∃vb',zV ((w.drewN nq).setCell ⟨b,2,J⟩ (P R (S.next+1))) b g vb' S.picked/\But (frF b g vb) w ((w.drewN nq).setCell ⟨b,2,J⟩ (P R (S.next+1)))/\vb'.ownBlock=vb.ownBlock):=by
    intro nq;rw[e2];exact⟨vb,(h.drewN nq).yh4 (S.next+1),(But.ygr (below_drewN (zR w) nq)).setCell (.inr (.inl rfl)) _,rfl⟩
   rw[e1]
   have i1:((S.next:Int)==(S.n:Int))=K:=by simp;omega
   clear e1 e2;rcases ho.2 with ⟨rfl,hlen⟩|⟨g',cap,cur,rfl,hg⟩
   all_goals
    clear ho h
    go_enter Tryz.func85,Tryz.ntmps85
    go_wp2_with fail
    go_quiet (fail)
    go_wp2_with fail
    go_ret
    exact⟨rfl,(fin _).out⟩
  ·have hnn:S.next=S.n:=by omega
   have e1:S.takeN= -1:=by simp[Pg.Fs.takeN,Pg.Fs.pick,hb,hn]
   have e2:S.picked=S:=by simp[Pg.Fs.picked,hb,hn]
   have fin:∀nq,Hid (∃vb',zV (w.drewN nq) b g vb' S.picked/\But (frF b g vb) w (w.drewN nq)/\vb'.ownBlock=vb.ownBlock):=by
    intro nq;rw[e2];exact⟨vb,h.drewN nq,But.ygr (below_drewN (zR w) nq),rfl⟩
   rw[e1]
   have i1:((S.next:Int)==(S.n:Int))=kN:=by simp;omega
   clear e1 e2;rcases ho.2 with ⟨rfl,hlen⟩|⟨g',cap,cur,rfl,hg⟩
   all_goals
    clear ho h
    go_enter Tryz.func85,Tryz.ntmps85
    go_wp2_with fail
    go_quiet (fail)
    go_wp2_with fail
    go_ret
    exact⟨rfl,(fin _).out⟩
 ·obtain⟨l,k,hl⟩:∃l k,S.back=l++[k]:=⟨_,_,(List.dropLast_concat_getLast hb).symm⟩
  have hk:k<S.n:=by
   have:=ok.yh7 (k:=k) (by rw[hl];simp);omega
  have ho:=h.own
  have hlen:S.back.length=l.length+1:=by rw[hl];simp
  rw[hlen]at ho;obtain⟨g',cap,rfl,_,hgl⟩:=ho.form (by omega)
  have hcap:l.length+1<=cap:=by
   rcases ho.2 with ⟨h',_⟩|⟨g',cap',cur,h',_,_,hle,_⟩
   ·cases h'
   ·cases h';exact hle
  have hbd:S.back.length<=128:=by have:=ok.len;omega
  have hl128:l.length<128:=by omega
  have hck:w.cell? ⟨g',l.length,J⟩=C (P R k):=by
   rw[ho.cellAt l.length (by omega),yau,hl];simp
  have hpop:w.ownsRow 0 3 1 (z (C ⟨g',0,J⟩) l.length cap) l.length (yau l):=by
   have e:yau S.back=yau l++[P R (k:Int)]:=by simp[yau,hl]
   rw[e]at ho;exact ownsRow_pop (by simp[yau]) ho
  have e1:S.takeN=(k:Int):=by simp[Pg.Fs.takeN,Pg.Fs.pick,hl]
  have e2:S.picked={S with back:=l}:=by simp[Pg.Fs.picked,hl]
  have fin:Hid (∃vb',zV (w.setCell ⟨b,1,J⟩ (z (C ⟨g',0,J⟩) l.length cap)) b g vb' S.picked/\But (frF b g (z (C ⟨g',0,J⟩) (l.length+1) cap)) w (w.setCell ⟨b,1,J⟩ (z (C ⟨g',0,J⟩) l.length cap))/\vb'.ownBlock=(kU (C ⟨g',0,J⟩) (l.length+1) cap).ownBlock):=by
   rw[e2];exact⟨_,h.yh3 hpop h.vb0 h.vbb,(But.refl _ w).setCell (.inr (.inl rfl)) _,rfl⟩
  rw[e1]
  have j1:(l.length:Int)<=(cap:Int):=by omega
  have j0:(0:Int)<=(l.length:Int):=by omega
  clear ho h hpop hlen hl hb e1 e2;generalize l.length=m at*
  go_enter Tryz.func85,Tryz.ntmps85
  go_wp2_with fail
  go_ret
  exact⟨rfl,fin.out⟩
theorem yaV {b g:Nat} {vb:V} {S:Pg.Fs} (k i:Int) (w:T) (h:zV w b g vb S) (ok:S.Ok):
 kP Y 201 #[Q (C ⟨b,0,J⟩),P R k,P R i] w fun e w'=>e=U (.pointer (bif S.at' k i then C ⟨g,k.toNat*9+1+i.toNat,J⟩else J))/\w'=w:=by
 have HT:=jt k w h ok;have hc0:=h.c0;have hs:=ok.small;cases e1:S.has k
 ·have HA:Hid (S.at' k i=K):=by simp[Hid,Pg.Fs.at',e1]
  rw[HA.out];rw[e1]at HT;clear e1 h
  go_enter Tryz.func201,Tryz.ntmps201
  go_wp2_with (go_at_call 203;refine HT.mono ?_;rintro e w' ⟨rfl,hw⟩;subst w')
  go_ret
  exact⟨rfl,rfl⟩
 ·rw[e1]at HT
  by_cases h0:0<=i
  ·by_cases h8:i<8
   ·have HA:Hid (S.at' k i=kN):=by simp[Hid,Pg.Fs.at',e1,h0,h8]
    rw[HA.out];obtain⟨k0,k1,_⟩:=ok.ygG e1;obtain⟨a,rfl⟩:=X k0;obtain⟨c,rfl⟩:=X h0
    have i0:(0:Int)<=(a:Int):=by omega
    have i1:(a:Int)<(S.n:Int):=by omega
    have hl:¬(c:Int)<0:=by omega
    have hl8:¬(8:Int)<=(c:Int):=by omega
    clear e1 h
    go_enter Tryz.func201,Tryz.ntmps201
    go_wp2_with (go_at_call 203;refine HT.mono ?_;rintro e w' ⟨rfl,hw⟩;subst w')
    go_ret
    exact⟨rfl,rfl⟩
   ·have HA:Hid (S.at' k i=K):=by simp[Hid,Pg.Fs.at',h8]
    rw[HA.out]
    have hl:¬i<0:=by omega
    have hl8:(8:Int)<=i:=by omega
    clear e1 h
    go_enter Tryz.func201,Tryz.ntmps201
    go_wp2_with (go_at_call 203;refine HT.mono ?_;rintro e w' ⟨rfl,hw⟩;subst w')
    go_ret
    exact⟨rfl,rfl⟩
  ·have HA:Hid (S.at' k i=K):=by simp[Hid,Pg.Fs.at',h0]
   rw[HA.out]
   have hl:i<0:=by omega
   clear e1 h
   go_enter Tryz.func201,Tryz.ntmps201
   go_wp2_with (go_at_call 203;refine HT.mono ?_;rintro e w' ⟨rfl,hw⟩;subst w')
   go_ret
   exact⟨rfl,rfl⟩
theorem vl {b:Nat} {S:Pg.Fs} {F:Nat->Prop} (k:Int) (w:T) (h:zd w b S F):
 kP Y 203 #[Q (C ⟨b,0,J⟩),P R k] w fun e w'=>e=U (E (S.has k))/\Below w.heap.size w w':=by
 obtain⟨g,vb,h,ok,rfl⟩:=h;exact zX (jt k w h ok)
theorem yan {b:Nat} {S:Pg.Fs} {F:Nat->Prop} (w:T) (h:zd w b S F):
 kP Y 67 #[Q (C ⟨b,0,J⟩)] w fun e w'=>e=U (P R S.free)/\Below w.heap.size w w':=by
 obtain⟨g,vb,h,ok,rfl⟩:=h;exact yew w h ok
def yeT:List V:=[E kN,P Z 0,P Z 0,P Z 0,P Z 0,P Z 0,P Z 0,P Z 0,P Z 0]
theorem yeU:∀j:Nat,j<8->yeT[j+1]?=C (P Z 0)
 | 0,_|1,_|2,_|3,_|4,_|5,_|6,_|7,_=>rfl
 | j+8,hj=>absurd hj (by omega)
theorem yap {b:Nat} {S:Pg.Fs} {F:Nat->Prop} (w:T) (h:zd w b S F):
 kP Y 46 #[Q (C ⟨b,0,J⟩)] w fun e w'=>e=U (P R S.takeN)/\∃F',zd w' b S.take F'/\But F w w'/\∀k,F' k->F k\/w.heap.size<=k:=by
 obtain⟨g,vb,h,ok,rfl⟩:=h;have HN:=yeD w h ok
 cases hp:S.pick with
 | none=>
   have e1:S.takeN= -1:=by simp[Pg.Fs.takeN,hp]
   have e2:S.picked=S/\S.take=S:=by
    unfold Pg.Fs.pick at hp
    cases hb:S.back.getLast? with
    | some k=>rw[hb]at hp;cases hp
    | none=>
      rw[hb]at hp
      by_cases hn:S.next<S.n
      ·simp[hn]at hp
      ·simp[Pg.Fs.picked,Pg.Fs.take,hb,hn]
   rw[e1]at HN ⊢;rw[e2.1]at HN;rw[e2.2];clear e1 e2 h
   go_enter Tryz.func46,Tryz.ntmps46
   go_wp2_with fail
   refine HN.mono ?_;rintro e w1 ⟨rfl,vb1,h1,hb1,hv1⟩;have fin:Hid _:=zd.next h1 ok hb1 (.inl hv1);clear h1 hb1 hv1
   go_wp2_with fail
   go_ret
   exact⟨rfl,fin.out⟩
 | some k=>
   have e1:S.takeN=(k:Int):=by simp[Pg.Fs.takeN,hp]
   have hk:=(ok.pick_lt hp).1
   have e2:S.take={S.picked with used:=k::S.picked.used,word:=Pg.Fs.clear S.picked.word k}/\S.picked.n=S.n:=by
    unfold Pg.Fs.pick at hp
    cases hb:S.back.getLast? with
    | some j=>
      rw[hb]at hp;cases hp;simp[Pg.Fs.picked,Pg.Fs.take,hb]
    | none=>
      rw[hb]at hp
      by_cases hn:S.next<S.n
      ·simp[hn]at hp
       subst hp;simp[Pg.Fs.picked,Pg.Fs.take,hb,hn]
      ·simp[hn]at hp
   have hs:=ok.small
   have i0:(0:Int)<=(k:Int):=by omega
   have i1:(k:Int)<(S.n:Int):=by omega
   have i2:((k:Int)== -1)=K:=by simp
   rw[e1]at HN ⊢;clear e1 h
   go_enter Tryz.func46,Tryz.ntmps46
   go_wp2_with fail
   refine HN.mono ?_;rintro e w1 ⟨rfl,vb1,h1,hb1,hv1⟩;have hc0:=h1.c0;rw[e2.2]at hc0;have hf0:=h1.f0
   have hkp:k<S.picked.n:=by rw[e2.2];exact hk
   have t0:=h1.ci k hkp;have t1:=h1.cw k 0 hkp (by omega);have t2:=h1.cw k 1 hkp (by omega);have t3:=h1.cw k 2 hkp (by omega);have t4:=h1.cw k 3 hkp (by omega);have t5:=h1.cw k 4 hkp (by omega);have t6:=h1.cw k 5 hkp (by omega);have t7:=h1.cw k 6 hkp (by omega);have t8:=h1.cw k 7 hkp (by omega)
   have fin:Hid (∃F',zd (w1.setCells g (k*9) yeT) b S.take F'/\But (frF b g vb) w (w1.setCells g (k*9) yeT)/\∀k,F' k->frF b g vb k\/w.heap.size<=k):=by
    refine zd.next (vb':=vb1) ?_ ok.take (But.setCells g (.inr (.inr (.inl rfl))) _ _ _ hb1) (.inl hv1);rw[e2.1];exact h1.fill hkp yeT rfl rfl yeU
   clear h1 hb1 hv1 HN e2
   go_wp2_with fail
   go_ret
   exact⟨rfl,fin.out⟩
theorem yey:(Tryz.prog.info? 3).map (fun i=>(i.zero,i.size,i.bytes))=C (C (P R 0),1,8):=by kernel_rfl
theorem yex {b g:Nat} {vb:V} {S:Pg.Fs} (m:Nat) (w:T) (h:zV w b g vb S) (ok:S.Ok) (hh:S.has (m:Int)=kN):
 kP Y 184 #[Q (C ⟨b,0,J⟩),P R (m:Int)] w fun e w'=>e=U (E kN)/\∃F',zd w' b (S.give (m:Int)) F'/\But (frF b g vb) w w'/\∀k,F' k->frF b g vb k\/w.heap.size<=k:=by
 have hc0:=h.c0;have hfb:=h.fb;have hf0:=h.f0;have hs:=ok.small;have n0:=h.n0
 have hn:m<S.n:=by have:=ok.ygG hh;omega
 have hi:=h.ci m hn
 have i0:(0:Int)<=(m:Int):=by omega
 have i1:(m:Int)<(S.n:Int):=by omega
 have hT:=jt (m:Int) w h ok;rw[hh]at hT
 have hl:∀j,decide (j ∈ S.used.erase m)=if j=m then K else S.inn j:=by
  intro j;have hnd:S.used.Nodup:=(List.nodup_append.1 ok.nodup).1
  by_cases e:j=m
  ·simp[e,hnd.mem_erase_iff]
  ·simp[e,hnd.mem_erase_iff,Pg.Fs.inn]
 have hM:=h.mark hn K (S.used.erase m) hl
 have hbd:S.back.length<=128:=by have:=ok.len;have:=ok.top;omega
 have hown:=hM.own;have hc1:=hM.c1;have hlb:=hM.lb;obtain⟨q0,hq,hz0,hz1,hz2⟩:=info_parts yey;have HM:Hid _:=hM;have HX:Hid _:=hh;clear hM h hl hh
 go_enter Tryz.func184,Tryz.ntmps184
 go_wp2_with (first
  | (go_at_call 203;refine hT.mono ?_;rintro e w' ⟨rfl,hw⟩;subst w')
  | (at_builtin;refine wpList_append_lies _ rfl _ _ 45 rfl 0 3 q0 (P R 0) 1 8 Tryz.underlying45 hq hz0 hz1 hz2 rfl (by decide) _ _ _ rfl (hown.alloc _) ⟨w.heap.size,0,J⟩ 1 1 [P R (m:Int)] rfl rfl ?c1 ?c2 (by decide) ?c3 ?c4 (Nat.zero_le _) (w.heap.size+1) (by simp) ?_))
 case c1=>
  intro j u hj
  match j,hj with
  | 0,hj=>simp at hj;subst hj;simp[Addr.add,go_sem]
 case c2=>intro u hu;simp at hu;subst hu;rfl
 case c3=>unfold maxLen;omega
 case c4=>omega
 intro g' cap w3 hown3 hgrow hat hlt;have h1:=HM.out
 have hk:∀k,k=b\/k=g->w3.heap[k]?=(w.setCell ⟨g,m*9,J⟩ (E K)).heap[k]?:=by
  intro k hk
  have hkl:k<(w.setCell ⟨g,m*9,J⟩ (E K)).heap.size:=by
   rcases hk with rfl|rfl
   ·exact h1.lb
   ·exact h1.l0
  have hkv:C k≠vb.ownBlock:=by
   rcases hk with rfl|rfl
   ·exact fun e=>h1.vbb e.symm
   ·exact fun e=>h1.vb0 e.symm
  rw[hgrow.block k (by simp at hkl ⊢;omega) hkv];exact Below.heap_alloc _ _ _ hkl
 have hsz:(w.setCell ⟨g,m*9,J⟩ (E K)).heap.size=w.heap.size:=by simp
 have hne:∀k,k=b\/k=g->(kU (C ⟨g',0,J⟩) (S.back.length+1) cap).ownBlock≠C k:=by
  intro k hk e
  have e:g'=k:=by simpa[kS]using e
  subst e;rcases hat with hat|hat
  ·rcases hk with rfl|rfl
   ·exact h1.vbb hat
   ·exact h1.vb0 hat
  ·have:=h1.lb;have:=h1.l0
   omega
 have hG:=h1.grow (w':=w3) (l:=S.back++[m]) (by have:=hgrow.size;simp at this ⊢;omega) hk (by simpa[yau]using hown3) (hne g (.inr rfl)) (hne b (.inl rfl));have kc:w3.cell? ⟨b,1,J⟩=C vb:=(I (hk b (.inl rfl))).trans h1.c1;have kf:w3.frozen? ⟨b,1,J⟩=K:=(O (hk b (.inl rfl))).trans (h1.fb 1)
 have fin:Hid (∃F',zd (w3.setCell ⟨b,1,J⟩ (z (C ⟨g',0,J⟩) (S.back.length+1) cap)) b (S.give (m:Int)) F'/\But (frF b g vb) w (w3.setCell ⟨b,1,J⟩ (z (C ⟨g',0,J⟩) (S.back.length+1) cap))/\∀k,F' k->frF b g vb k\/w.heap.size<=k):=by
  have e:S.give (m:Int)={{S with used:=S.used.erase m}with back:=S.back++[m]}:=by
   simp[Pg.Fs.give,HX.out]
  refine zd.next (vb':=z (C ⟨g',0,J⟩) (S.back.length+1) cap) (by rw[e];exact hG) (ok.give _) ?_ ?_
  ·refine(((((But.refl _ w).setCell (.inr (.inr (.inl rfl))) _).alloc _).grown hgrow fun k hk=> .inr (.inr (.inr hk)))).setCell (.inr (.inl rfl)) _
  ·rcases hat with hat|hat
   ·exact .inl hat.symm
   ·exact .inr ⟨g',rfl,by omega⟩
 clear hk hne hG h1 hown3 hgrow hown hc1 hat hlt
 go_wp2_with fail
 go_ret
 exact⟨rfl,fin.out⟩
theorem ycV {b:Nat} {S:Pg.Fs} {F:Nat->Prop} (k:Int) (w:T) (h:zd w b S F):
 kP Y 184 #[Q (C ⟨b,0,J⟩),P R k] w fun e w'=>e=U (E (S.has k))/\∃F',zd w' b (S.give k) F'/\But F w w'/\∀k,F' k->F k\/w.heap.size<=k:=by
 obtain⟨g,vb,h,ok,rfl⟩:=h;cases hh:S.has k
 ·have hT:=jt k w h ok
  rw[hh]at hT
  have e:S.give k=S:=by simp[Pg.Fs.give,hh]
  rw[e];have fin:Hid _:=zd.next h ok (But.refl (frF b g vb) w) (.inl rfl);clear h
  go_enter Tryz.func184,Tryz.ntmps184
  go_wp2_with (go_at_call 203;refine hT.mono ?_;rintro e w' ⟨rfl,hw⟩;subst w')
  go_ret
  exact⟨rfl,fin.out⟩
 ·obtain⟨m,rfl⟩:=X (ok.ygG hh).1
  exact yex m w h ok hh
theorem ja {b:Nat} {S:Pg.Fs} {F:Nat->Prop} (k i:Int) (w:T) (h:zd w b S F):
 kP Y 171 #[Q (C ⟨b,0,J⟩),P R k,P R i] w fun e w'=>e=U (kY #[P Z (S.load k i),E (S.at' k i)])/\w'=w:=by
 obtain⟨g,vb,h,ok,rfl⟩:=h;have HW:=yaV k i w h ok;cases hh:S.at' k i
 ·have e:S.load k i=0:=by simp[Pg.Fs.load,hh]
  rw[e];rw[hh]at HW;simp only[cond]at HW;clear h
  go_enter Tryz.func171,Tryz.ntmps171
  go_wp2_with (go_at_call 201;refine HW.mono ?_;rintro e w' ⟨rfl,hw⟩;subst w')
  go_ret2
  exact⟨rfl,rfl⟩
 ·have e:S.load k i=S.word k.toNat i.toNat:=by simp[Pg.Fs.load,hh]
  rw[e];rw[hh]at HW;simp only[cond]at HW;obtain⟨k0,k1,i0,i8,_⟩:=ok.yiE hh;have hc:=h.cw k.toNat i.toNat (by omega) (by omega);clear h;generalize S.word k.toNat i.toNat=v at*;generalize k.toNat*9+1+i.toNat=o at*
  go_enter Tryz.func171,Tryz.ntmps171
  go_wp2_with (go_at_call 201;refine HW.mono ?_;rintro e w' ⟨rfl,hw⟩;subst w')
  go_ret2
  exact⟨rfl,rfl⟩
theorem yao {b:Nat} {S:Pg.Fs} {F:Nat->Prop} (k i:Int) (w:T) (h:zd w b S F):
 kP Y 171 #[Q (C ⟨b,0,J⟩),P R k,P R i] w fun e w'=>e=U (kY #[P Z (S.load k i),E (S.at' k i)])/\Below w.heap.size w w':=zX (ja k i w h)
theorem yb3 {b:Nat} {S:Pg.Fs} {F:Nat->Prop} (k i v:Int) (h0:0<=v) (h1:v<18446744073709551616) (w:T) (h:zd w b S F):
 kP Y 169 #[Q (C ⟨b,0,J⟩),P R k,P R i,P Z v] w fun e w'=>e=U (E (S.at' k i))/\∃F',zd w' b (S.store k i v) F'/\But F w w'/\∀k,F' k->F k\/w.heap.size<=k:=by
 obtain⟨g,vb,h,ok,rfl⟩:=h;have HW:=yaV k i w h ok;cases hh:S.at' k i
 ·have e:S.store k i v=S:=by simp[Pg.Fs.store,hh]
  rw[e];rw[hh]at HW;simp only[cond]at HW;have fin:Hid _:=zd.next h ok (But.refl (frF b g vb) w) (.inl rfl);clear h
  go_enter Tryz.func169,Tryz.ntmps169
  go_wp2_with (go_at_call 201;refine HW.mono ?_;rintro e w' ⟨rfl,hw⟩;subst w')
  go_ret
  exact⟨rfl,fin.out⟩
 ·have e:S.store k i v={S with word:=Pg.Fs.put S.word k.toNat i.toNat v}:=by simp[Pg.Fs.store,hh]
  have ok':=ok.store k i h0 h1;rw[e]at ok' ⊢;rw[hh]at HW;simp only[cond]at HW;obtain⟨k0,k1,i0,i8,_⟩:=ok.yiE hh;have hc:=h.cw k.toNat i.toNat (by omega) (by omega);have hf:=h.f0 (k.toNat*9+1+i.toNat)
  have fin:Hid (∃F',zd (w.setCell ⟨g,k.toNat*9+1+i.toNat,J⟩ (P Z v)) b {S with word:=Pg.Fs.put S.word k.toNat i.toNat v} F'/\But (frF b g vb) w (w.setCell ⟨g,k.toNat*9+1+i.toNat,J⟩ (P Z v))/\∀k,F' k->frF b g vb k\/w.heap.size<=k):=
   zd.next (h.put (by omega) (by omega) v) ok' ((But.refl _ w).setCell (.inr (.inr (.inl rfl))) _) (.inl rfl)
  clear h;generalize k.toNat*9+1+i.toNat=o at*
  go_enter Tryz.func169,Tryz.ntmps169
  go_wp2_with (go_at_call 201;refine HW.mono ?_;rintro e w' ⟨rfl,hw⟩;subst w')
  go_ret
  exact⟨rfl,fin.out⟩
theorem ycW {b:Nat} {S:Pg.Fs} {F:Nat->Prop} (k i old v:Int) (h0:0<=v) (h1:v<18446744073709551616) (w:T) (h:zd w b S F):
 kP Y 206 #[Q (C ⟨b,0,J⟩),P R k,P R i,P Z old,P Z v] w fun e w'=>e=U (E (S.swaps k i old))/\∃F',zd w' b (S.swap k i old v) F'/\But F w w'/\∀k,F' k->F k\/w.heap.size<=k:=by
 obtain⟨g,vb,h,ok,rfl⟩:=h;have HW:=yaV k i w h ok;cases hh:S.at' k i
 ·have es:S.swaps k i old=K:=by simp[Pg.Fs.swaps,hh]
  have e:S.swap k i old v=S:=by simp[Pg.Fs.swap,es]
  rw[e,es];rw[hh]at HW;simp only[cond]at HW;have fin:Hid _:=zd.next h ok (But.refl (frF b g vb) w) (.inl rfl);clear h
  go_enter Tryz.func206,Tryz.ntmps206
  go_wp2_with (go_at_call 201;refine HW.mono ?_;rintro e w' ⟨rfl,hw⟩;subst w')
  go_ret
  exact⟨rfl,fin.out⟩
 ·rw[hh]at HW
  simp only[cond]at HW;obtain⟨k0,k1,i0,i8,_⟩:=ok.yiE hh;have hc:=h.cw k.toNat i.toNat (by omega) (by omega);have hf:=h.f0 (k.toNat*9+1+i.toNat)
  by_cases hw:S.word k.toNat i.toNat=old
  ·have es:S.swaps k i old=kN:=by simp[Pg.Fs.swaps,hh,hw]
   have e:S.swap k i old v={S with word:=Pg.Fs.put S.word k.toNat i.toNat v}:=by simp[Pg.Fs.swap,es]
   have ok':=ok.swap k i old h0 h1;rw[e]at ok' ⊢;rw[es]
   have fin:Hid (∃F',zd (w.setCell ⟨g,k.toNat*9+1+i.toNat,J⟩ (P Z v)) b {S with word:=Pg.Fs.put S.word k.toNat i.toNat v} F'/\But (frF b g vb) w (w.setCell ⟨g,k.toNat*9+1+i.toNat,J⟩ (P Z v))/\∀k,F' k->frF b g vb k\/w.heap.size<=k):=
    zd.next (h.put (by omega) (by omega) v) ok' ((But.refl _ w).setCell (.inr (.inr (.inl rfl))) _) (.inl rfl)
   clear h;rw[hw]at hc;generalize k.toNat*9+1+i.toNat=o at*;clear hw
   go_enter Tryz.func206,Tryz.ntmps206
   go_wp2_with (go_at_call 201;refine HW.mono ?_;rintro e w' ⟨rfl,hw⟩;subst w')
   go_ret
   exact⟨rfl,fin.out⟩
  ·have es:S.swaps k i old=K:=by simp[Pg.Fs.swaps,hw]
   have e:S.swap k i old v=S:=by simp[Pg.Fs.swap,es]
   rw[e,es];have fin:Hid _:=zd.next h ok (But.refl (frF b g vb) w) (.inl rfl);clear h
   have hne:(S.word k.toNat i.toNat==old)=K:=by simpa using hw
   generalize S.word k.toNat i.toNat=x at*;generalize k.toNat*9+1+i.toNat=o at*;clear hw
   go_enter Tryz.func206,Tryz.ntmps206
   go_wp2_with (go_at_call 201;refine HW.mono ?_;rintro e w' ⟨rfl,hw⟩;subst w')
   go_ret
   exact⟨rfl,fin.out⟩
theorem ydD (n:Int) (hn:n<0\/128<n) (w:T):
 kP Y 45 #[P R n] w fun e w'=>e=U (kY #[Q J,kZ #[P R 1,P R (-1)]])/\Below w.heap.size w w':=by
 by_cases h0:n<0
 ·go_enter Tryz.func45,Tryz.ntmps45
  go_wp2_with fail
  refine kT (v:=kY #[Q J,kZ #[P R 1,P R (-1)]]) ?_ rfl ⟨rfl,?_⟩
  ·simp[results,Tryz.results45,go_sem]
  ·exact zA (zR w) _
 ·have h1:128<n:=by omega
  go_enter Tryz.func45,Tryz.ntmps45
  go_wp2_with fail
  refine kT (v:=kY #[Q J,kZ #[P R 1,P R (-1)]]) ?_ rfl ⟨rfl,?_⟩
  ·simp[results,Tryz.results45,go_sem]
  ·exact zA (zR w) _
theorem ydJ:(Tryz.prog.info? 166).map (fun i=>(i.zero,i.size,i.bytes))=C (C (kZ #[E K,P Z 0,P Z 0,P Z 0,P Z 0,P Z 0,P Z 0,P Z 0,P Z 0]),9,72):=by kernel_rfl
theorem ydC (n:Nat) (hn:n<=128) (w:T):
 kP Y 45 #[P R (n:Int)] w fun e w'=>∃b F,e=U (kY #[Q (C ⟨b,0,J⟩),kZ #[P R 0,P R 0]])/\zd w' b (Pg.Fs.new n) F/\Below w.heap.size w w'/\∀k,F k->w.heap.size<=k:=by
 obtain⟨q0,hq,hz0,hz1,hz2⟩:=info_parts ydJ
 have m0:∀w:T,(Instr.makeSlice 161 (P R (n:Int)) (P R (n:Int))).run Y w=_:=fun w=>
  run_make w 161 166 q0 _ Tryz.underlying161 hq hz0 R R n n (by omega) (Int.le_refl _) (by rw[hz2];omega) (by omega)
 rw[hz1]at m0;simp only[Int.toNat_natCast]at m0
 have d0:¬(n:Int)<0:=by omega
 have d1:¬(128:Int)<(n:Int):=by omega
 go_enter Tryz.func45,Tryz.ntmps45
 go_wp2_with fail
 refine kT (v:=kY #[Q (C ⟨w.heap.size+1+1,0,J⟩),kZ #[P R 0,P R 0]]) ?_ rfl ?_
 ·simp[results,Tryz.results45,go_sem]
 refine⟨w.heap.size+1+1,rfl,frF (w.heap.size+1+1) (w.heap.size+1) (z J 0 0),⟨w.heap.size+1,z J 0 0,?_,Pg.Fs.yit n hn,rfl⟩,?_,?_⟩
 ·refine zV.made (t0:=166) (t2:=163) ?_ ?_ (by omega)
  ·exact(jO w _ _ _).2.2
  ·exact(jO w _ _ _).2.1
 ·exact zA (zA (zA (zR w) _) _) _
 ·intro k hk
  rcases hk with rfl|rfl|hk
  ·omega
  ·omega
  ·simp[kS]at hk
def zC (L:List Pg.Mp):List V:=L.flatMap fun m=>[P R m.p,P R m.s,P R m.f,P R m.r]
theorem vA:∀L:List Pg.Mp,(zC L).length=L.length*4
 | []=>rfl
 | x::r=>by
   have:=vA r;simp[zC]at this ⊢;omega
theorem qW (A B:List Pg.Mp):zC (A++B)=zC A++zC B:=by simp[zC]
theorem ycd (m:Pg.Mp):zC [m]=[P R m.p,P R m.s,P R m.f,P R m.r]:=by simp[zC]
theorem jT (A:List Pg.Mp) (m:Pg.Mp):zC (A++[m])=zC A++[P R m.p,P R m.s,P R m.f,P R m.r]:=by rw[qW,ycd]
theorem yat:∀(L:List Pg.Mp) (j:Nat),j<L.length->
 (zC L)[j*4]?=C (P R (L.getD j .zz).p)/\(zC L)[j*4+1]?=C (P R (L.getD j .zz).s)/\(zC L)[j*4+2]?=C (P R (L.getD j .zz).f)/\(zC L)[j*4+3]?=C (P R (L.getD j .zz).r)
 | [],j,h=>by simp at h
 | x::r,0,_=>by simp[zC]
 | x::r,j+1,h=>by
   have:=yat r j (by simpa using h)
   have e:∀i,(zC (x::r))[(j+1)*4+i]?=(zC r)[j*4+i]?:=by
    intro i
    have e1:zC (x::r)=[P R x.p,P R x.s,P R x.f,P R x.r]++zC r:=by simp[zC]
    rw[e1,List.getElem?_append_right (by simp;omega)]
    congr 1
    simp;omega
   have e0:=e 0;simp only[Nat.add_zero]at e0;rw[e0,e 1,e 2,e 3]
   simpa using this
def yel (w:T) (g o:Nat) (m:Pg.Mp):Prop:=
 w.cell? ⟨g,o,J⟩=C (P R m.p)/\w.cell? ⟨g,o+1,J⟩=C (P R m.s)/\w.cell? ⟨g,o+2,J⟩=C (P R m.f)/\w.cell? ⟨g,o+3,J⟩=C (P R m.r)
def xx (w:T) (ad:Option Addr) (L:List Pg.Mp):Prop:=∀j,j<L.length->∃g,ad=C ⟨g,0,J⟩/\g<w.heap.size/\yel w g (j*4) (L.getD j .zz)
theorem yel.below {w w':T} {g o:Nat} {m:Pg.Mp} (h:yel w g o m) {B:Nat} (hb:Below B w w') (hg:g<B):yel w' g o m:=
 ⟨(hb.cell (p:=⟨g,o,J⟩) hg).trans h.1,(hb.cell (p:=⟨g,o+1,J⟩) hg).trans h.2.1,(hb.cell (p:=⟨g,o+2,J⟩) hg).trans h.2.2.1,(hb.cell (p:=⟨g,o+3,J⟩) hg).trans h.2.2.2⟩
theorem xx.below {w w':T} {ad:Option Addr} {L:List Pg.Mp} (h:xx w ad L) (hb:Below w.heap.size w w'):xx w' ad L:=by
 intro j hj;obtain⟨g,e,hg,hm⟩:=h j hj;exact⟨g,e,Nat.lt_of_lt_of_le hg hb.size,hm.below hb hg⟩
theorem zF {w:T} {base:Nat} {e:TypeId} {size n:Nat} {v:V} {xs:List V} (h:w.ownsRow base e size v n xs):∃ad cap,v=z ad n cap:=by
 rcases h.2 with ⟨rfl,rfl⟩|⟨g,cap,cur,rfl,_⟩
 ·exact⟨J,0,rfl⟩
 ·exact⟨_,_,rfl⟩
theorem vD {w:T} {base:Nat} {ad:Option Addr} {n cap:Nat} {L:List Pg.Mp} (h:w.ownsRow base 39 4 (z ad n cap) L.length (zC L)):xx w ad L:=by
 intro j hj;obtain⟨g,cap',e,_,hg⟩:=h.form (by omega);cases e;have hc:=yat L j hj;refine⟨g,rfl,hg,?_,?_,?_,?_⟩
 ·rw[h.cellAt _ (by omega)];exact hc.1
 ·rw[h.cellAt _ (by omega)];exact hc.2.1
 ·rw[h.cellAt _ (by omega)];exact hc.2.2.1
 ·rw[h.cellAt _ (by omega)];exact hc.2.2.2
theorem zb {F:Nat->Prop} {w w':T} {base:Nat} {e:TypeId} {size n:Nat} {v:V} {xs:List V} (h:w.ownsRow base e size v n xs) (hb:But F w w') (hF:∀k,v.ownBlock=C k->¬F k):w'.ownsRow base e size v n xs:=
 za h fun k hk=>hb.block k (h.lt k hk).2 (hF k hk)
theorem zj {w w':T} {base:Nat} {e:TypeId} {size n:Nat} {v:V} {xs:List V} (h:w.ownsRow base e size v n xs) (hb:Below w.heap.size w w'):w'.ownsRow base e size v n xs:=
 za h fun k hk=>hb.block k (h.lt k hk).2
theorem yc5 {wx w w3:T} {e:TypeId} {n size:Nat} {v:V} {xs:List V} {o:Obj} (hb:Below wx.heap.size wx w) (hr:w.ownsRow wx.heap.size e size v n xs) (hg:(w.alloc o).grownBy w3 v.ownBlock):Below wx.heap.size wx w3:=by
 have hB:But (fun j=>v.ownBlock=C j) w w3:=((But.refl _ w).alloc o).grown hg fun j hj=> .inr hj;exact hb.trans (hB.below hb.size fun k hk=>(hr.lt k hk).1)
def bkF (b:Nat) (vb:V):Nat->Prop:=fun k=>k=b\/vb.ownBlock=C k
namespace BkAt
variable {w w':T} {b:Nat} {vb vb':V} {L L':List Pg.Mp}
end BkAt
theorem yb4:(Tryz.prog.info? 39).map (fun i=>(i.zero,i.size,i.bytes))=C (C (kZ #[P R 0,P R 0,P R 0,P R 0]),4,32):=by kernel_rfl
theorem ybp (L:List Pg.Mp):∀u,u ∈ zC L->u.oneCell'=kN:=by
 intro u hu;obtain⟨m,_,hm⟩:=List.mem_flatMap.1 hu;simp at hm
 rcases hm with rfl|rfl|rfl|rfl<;>rfl
theorem ycs {F:Nat->Prop} {w w1:T} (h:But F w w1) (r:Nat) (hr:w.heap.size<=r\/F r) (x0 x1 x2 x3:V):
 But F w ((((w1.setCell ⟨r,0,J⟩ x0).setCell ⟨r,1,J⟩ x1).setCell ⟨r,2,J⟩ x2).setCell ⟨r,3,J⟩ x3):=
 (((h.setCell (a:=⟨r,0,J⟩) hr x0).setCell (a:=⟨r,1,J⟩) hr x1).setCell (a:=⟨r,2,J⟩) hr x2).setCell (a:=⟨r,3,J⟩) hr x3
theorem zq {w w1:T} (h:Below w.heap.size w w1) (r:Nat) (hr:w.heap.size<=r) (x0 x1 x2 x3:V):
 Below w.heap.size w ((((w1.setCell ⟨r,0,J⟩ x0).setCell ⟨r,1,J⟩ x1).setCell ⟨r,2,J⟩ x2).setCell ⟨r,3,J⟩ x3):=
 (ycs (F:=fun _=>False) (But.ygr h) r (.inl hr) x0 x1 x2 x3).below (Nat.le_refl _) (fun _ h=>h.elim)
end Go.Proofs.YtdphiompijbelaaGreat
namespace Go.Proofs.YtdphiompijbelaaGreat
open Go.ChangeShapes Go.WideShapes Go.ChangeAt Go.RowKit Go.Joins
section
theorem own:ownKnob Tryz.prog.godebug=J:=by kernel_rfl
theorem yfd:laidOutB Y=kN:=by kernel_rfl
section
variable {H:Type} {enc:TypeId×V->H} {W:T} {r:Reach} {b0 base:Nat} {spare:Nat->Bool} {held:Bool} {v:V} {d:DataW H} {p:List MemPlace}
theorem ydS (hv:kQ Y W r b0 3 v) (h:DataW.Trod enc Y W base spare held 3 v d p):
 ∃x:Int,v=P R x/\Pg.fits x:=by
 obtain⟨a,rfl,_,_,w⟩:=open_int Tryz.underlying3 hv h;exact⟨a,rfl,Pg.yhe w⟩
theorem yfk {W':T} {t:TypeId} (hr:Tryz.prog.readableRec t=kN) (ht:t<Tryz.prog.types.size)
 (h:DataW.Trod enc Y W 0 (fun _=>kN) kN t v d p) (hb:Below W.heap.size W W'):
 DataW.Trod enc Y W' 0 (fun b=>decide (b<W.heap.size)) kN t v d p:=
 Below.trod yfd hr ht h hb (by obtain⟨m,hm⟩:=h;exact DataW.trod_lt m _ _ _ hm)
end
open Go.ChangeShapes Go.WideShapes Go.ChangeAt Go.RowKit Go.Joins Go.Deep
set_option linter.unusedVariables false
structure Bst where
 kind:Int
 core:Int
 m:Pg.Mp
 q:Int
 k:Int
 u:Bool
def Bst.zz:Bst:=⟨0,0,.zz,0,0,K⟩
def ycF (W:T) (b o:Nat) (x:Bst):Prop:=
 W.cell? ⟨b,o,J⟩=C (P R x.kind)/\W.cell? ⟨b,o+1,J⟩=C (P R x.core)/\W.cell? ⟨b,o+2,J⟩=C (P R x.m.p)/\W.cell? ⟨b,o+3,J⟩=C (P R x.m.s)/\W.cell? ⟨b,o+4,J⟩=C (P R x.m.f)/\W.cell? ⟨b,o+5,J⟩=C (P R x.m.r)/\W.cell? ⟨b,o+6,J⟩=C (P R x.q)/\W.cell? ⟨b,o+7,J⟩=C (P R x.k)/\W.cell? ⟨b,o+8,J⟩=C (E x.u)
def ybJ (x:Bst):Prop:=Pg.fits x.m.p/\Pg.fits x.m.s/\Pg.fits x.m.f/\Pg.fits x.m.r/\Pg.fits x.q/\Pg.fits x.k
section
variable {H:Type} {enc:TypeId×V->H} {W:T} {r:Reach} {b0 base:Nat} {spare:Nat->Bool} {held:Bool} {v:V} {d:DataW H} {p:List MemPlace}
theorem yeF (hv:kQ Y W r b0 22 v) (h:DataW.Trod enc Y W base spare held 22 v d p):
 ∃(ad:Option Addr) (len cap:Nat) (q:Nat->Bst),v=z ad len cap/\
  ∀j,j<len->(∃b o,ad=C ⟨b,o,J⟩/\b<W.heap.size/\ycF W b (o+j*9) (q j))/\ybJ (q j):=by
 obtain⟨a0,len,cap,rfl⟩:=okWide_slice Tryz.underlying22 hv;obtain⟨fuel,hf⟩:=h
 have k9:Tryz.prog.cellsOf 43=9:=by kernel_rfl
 have k1:Tryz.prog.cellsOf 3=1:=by kernel_rfl
 have kb:Tryz.prog.cellsOf 4=1:=by kernel_rfl
 have km:Tryz.prog.cellsOf 39=4:=by kernel_rfl
 have ka:Tryz.prog.cellsOf 41=3:=by kernel_rfl
 rcases open_slice Tryz.underlying22 hf with ⟨e,_⟩|⟨a,len',cap',m,n,D,Pl,e,_,hl,hm,hmm,_,hx⟩
 ·simp[kO]at e
  obtain⟨_,rfl,_⟩:=e;exact⟨a0,0,cap,fun _=> .zz,rfl,fun j hj=>absurd hj (by omega)⟩
 ·simp[kO]at e
  obtain⟨rfl,rfl,rfl⟩:=e
  have hlm:len<=m:=by rw[hmm];split<;>omega
  have each:∀i,i<len->∃x:Bst,(∃b o,C a=C ⟨b,o,J⟩/\b<W.heap.size/\ycF W b (o+i*9) x)/\ybJ x:=by
   intro i hi;obtain⟨cs0,g1,_⟩:=hx 0 (by omega);rw[k9]at g1;obtain⟨_,glen,gcell⟩:=kF g1
   obtain⟨u,c0⟩:∃u,W.cell? a=C u:=by
    have c0:=gcell 0 (by omega);rw[List.getElem?_eq_getElem (by omega)]at c0;exact⟨_,by simpa[Addr.add]using c0⟩
   obtain⟨cs',h1,h2⟩:=hx i (by omega);rw[k9]at h1;obtain⟨_,hlen,hcell⟩:=kF h1;obtain⟨xs,k,hk,hxy,_,hxl,hq⟩:=DataW.trod_struct Tryz.underlying43 h2
   match xs,hxl,cs',hlen with
   | [y0,y1,y2,y3],_,[v0,v1,v2,v3,v4,v5,v6,v7,v8],_=>
     have q0:=hq 0 _ rfl;have q1:=hq 1 _ rfl;have q2:=hq 2 _ rfl;have q3:=hq 3 _ rfl;simp[k1,km,ka]at q0 q1 q2 q3;obtain⟨xm,kM,_,_,_,hml,hmq⟩:=DataW.trod_struct Tryz.underlying39 q2;obtain⟨xa,kA,_,_,_,hal,haq⟩:=DataW.trod_struct Tryz.underlying41 q3
     match xm,hml,xa,hal with
     | [m0,m1,m2,m3],_,[n0,n1,n2],_=>
       have r0:=hmq 0 _ rfl;have r1:=hmq 1 _ rfl;have r2:=hmq 2 _ rfl;have r3:=hmq 3 _ rfl;have s0:=haq 0 _ rfl;have s1:=haq 1 _ rfl;have s2:=haq 2 _ rfl;simp[k1]at r0 r1 r2 r3;simp[k1,kb]at s0 s1 s2;obtain⟨a0,e0,_,_⟩:=DataW.trod_int Tryz.underlying3 q0;obtain⟨a1,e1,_,_⟩:=DataW.trod_int Tryz.underlying3 q1;obtain⟨a2,e2,_,w2⟩:=DataW.trod_int Tryz.underlying3 r0;obtain⟨a3,e3,_,w3⟩:=DataW.trod_int Tryz.underlying3 r1;obtain⟨a4,e4,_,w4⟩:=DataW.trod_int Tryz.underlying3 r2;obtain⟨a5,e5,_,w5⟩:=DataW.trod_int Tryz.underlying3 r3;obtain⟨a6,e6,_,w6⟩:=DataW.trod_int Tryz.underlying3 s0;obtain⟨a7,e7,_,w7⟩:=DataW.trod_int Tryz.underlying3 s1;obtain⟨a8,e8,_⟩:=DataW.trod_bool Tryz.underlying4 s2;simp at e0 e1 e2 e3 e4 e5 e6 e7 e8;subst e0 e1 e2 e3 e4 e5 e6 e7 e8;have d0:=hcell 0 (by omega);have d1:=hcell 1 (by omega);have d2:=hcell 2 (by omega);have d3:=hcell 3 (by omega);have d4:=hcell 4 (by omega);have d5:=hcell 5 (by omega);have d6:=hcell 6 (by omega);have d7:=hcell 7 (by omega);have d8:=hcell 8 (by omega)
       have hsp:a.spot=J:=by
        obtain⟨_,_,_,_,hs⟩:=World.shape?_of_cell? c0;exact hs
       obtain⟨b,o,sp⟩:=a;cases hsp;have hlt:b<W.heap.size:=kJ _ _ c0
       have ha:∀x y:Nat,((⟨b,o,J⟩:Addr).add x).add y=⟨b,o+x+y,J⟩:=by
        intro x y;unfold Addr.add
        split<;>split<;>simp_all<;>omega
       rw[ha]at d0 d1 d2 d3 d4 d5 d6 d7 d8;exact⟨⟨a0,a1,⟨a2,a3,a4,a5⟩,a6,a7,a8⟩,⟨b,o,rfl,hlt,by simpa using d0,by simpa using d1,by simpa using d2,by simpa using d3,by simpa using d4,by simpa using d5,by simpa using d6,by simpa using d7,by simpa using d8⟩,Pg.yhe w2,Pg.yhe w3,Pg.yhe w4,Pg.yhe w5,Pg.yhe w6,Pg.yhe w7⟩
  have _:Inhabited Bst:=⟨.zz⟩;obtain⟨q,hq⟩:=choose_lt each;exact⟨C a,len,cap,q,rfl,hq⟩
end
end
end Go.Proofs.YtdphiompijbelaaGreat
namespace Go.Proofs.YtdphiompijbelaaGreat
open Go.RowKit
theorem yfI {w:T} {r:Nat} {t:TypeId} {c0 c1 c2 c3:V} (h:w.heap[r]?=C (.cells #[c0,c1,c2,c3] t (0,0))) (x0 x1 x2 x3:V):
 ((((w.setCell ⟨r,0,J⟩ x0).setCell ⟨r,1,J⟩ x1).setCell ⟨r,2,J⟩ x2).setCell ⟨r,3,J⟩ x3).heap[r]?=C (.cells #[x0,x1,x2,x3] t (0,0)):=by
 have h1:=heap_setCell_same _ r 0 _ t x0 h;have h2:=heap_setCell_same _ r 1 _ t x1 h1;have h3:=heap_setCell_same _ r 2 _ t x2 h2;exact heap_setCell_same _ r 3 _ t x3 h3
theorem yfK {w:T} {r:Nat} {t:TypeId} {c0 c1 c2 c3 c4 c5:V} (h:w.heap[r]?=C (.cells #[c0,c1,c2,c3,c4,c5] t (0,0))) (x0 x1 x2 x3 x4 x5:V):
 ((((((w.setCell ⟨r,0,J⟩ x0).setCell ⟨r,1,J⟩ x1).setCell ⟨r,2,J⟩ x2).setCell ⟨r,3,J⟩ x3).setCell ⟨r,4,J⟩ x4).setCell ⟨r,5,J⟩ x5).heap[r]?=C (.cells #[x0,x1,x2,x3,x4,x5] t (0,0)):=by
 have h1:=heap_setCell_same _ r 0 _ t x0 h;have h2:=heap_setCell_same _ r 1 _ t x1 h1;have h3:=heap_setCell_same _ r 2 _ t x2 h2;have h4:=heap_setCell_same _ r 3 _ t x3 h3;have h5:=heap_setCell_same _ r 4 _ t x4 h4;exact heap_setCell_same _ r 5 _ t x5 h5
theorem yfJ {w:T} {r k:Nat} (h:k≠r) (x0 x1 x2 x3:V):
 ((((w.setCell ⟨r,0,J⟩ x0).setCell ⟨r,1,J⟩ x1).setCell ⟨r,2,J⟩ x2).setCell ⟨r,3,J⟩ x3).heap[k]?=w.heap[k]?:=by
 simp only[heap_setCell_other _ _ _ _ (show k≠(⟨r,_,J⟩:Addr).block from h)]
theorem yfL {w:T} {r k:Nat} (h:k≠r) (x0 x1 x2 x3 x4 x5:V):
 ((((((w.setCell ⟨r,0,J⟩ x0).setCell ⟨r,1,J⟩ x1).setCell ⟨r,2,J⟩ x2).setCell ⟨r,3,J⟩ x3).setCell ⟨r,4,J⟩ x4).setCell ⟨r,5,J⟩ x5).heap[k]?=w.heap[k]?:=by
 simp only[heap_setCell_other _ _ _ _ (show k≠(⟨r,_,J⟩:Addr).block from h)]
end Go.Proofs.YtdphiompijbelaaGreat
