import Derived.Test.YtdphiompijbelaaGreatPageB
import Derived.Deep.AppendLies
set_option linter.all false
open Go.RowKit.Below renaming heap_setCell->H
open Int renaming eq_ofNat_of_zero_le->X
open Go.Ending renaming returned->O
open Go.Proofs.Tryz renaming prog->Q
open Bool renaming false->V,true->d
open Go renaming World->T
open List renaming pairwise_cons->Y,findIdx?_eq_some_iff_getElem->W,getElem_mem->kJ,eraseIdx_cons_succ->kS,mem_cons->kT
open Go.IntKind renaming i64->C,u64->U
open Option renaming none->P,some->R
open Go.Value renaming int->J,pointer->Z,bool->E,slice->D,ownBlock->z,tuple->kR,agg->kN,slice->kF,bool->kV,int->kQ
open Go.World renaming cell?_of_block->I,cell?_setCell_other->N,frozen?_of_block->K,cell?_setCell_same->M,cell?_setCells_out->kI,block_lt_of_cell?->kP,frozen?_setCells->kC,frozen?->kY
namespace Go.Proofs.YtdphiompijbelaaGreat
open Go.RowKit Go.Sort
structure xn (w:T) (b g:Nat) (vb:Value) (S:Pg.Fs):Prop where
 c0:w.cell? ⟨b,0,P⟩=R (D (R ⟨g,0,P⟩) S.n S.n)
 c1:w.cell? ⟨b,1,P⟩=R vb
 c2:w.cell? ⟨b,2,P⟩=R (J C S.next)
 fb:∀o,w.frozen? ⟨b,o,P⟩=V
 f0:∀o,w.frozen? ⟨g,o,P⟩=V
 ci:∀k,k<S.n->w.cell? ⟨g,k*9,P⟩=R (E (S.inn k))
 cw:∀k i,k<S.n->i<8->w.cell? ⟨g,k*9+1+i,P⟩=R (J U (S.word k i))
 own:w.ownsRow 0 3 1 vb S.back.length (yaR S.back)
 l0:g<w.heap.size
 n0:g≠b
 vb0:vb.ownBlock≠R g
 vbb:vb.ownBlock≠R b
def frF (b g:Nat) (vb:Value):Nat->Prop:=fun k=>k=b\/k=g\/vb.ownBlock=R k
namespace xn
variable {w w':T} {b g:Nat} {vb:Value} {S:Pg.Fs}
theorem lb (h:xn w b g vb S):b<w.heap.size:=kP _ _ h.c0
theorem lt (h:xn w b g vb S) {k:Nat} (hk:frF b g vb k):k<w.heap.size:=by
 rcases hk with rfl|rfl|hk
 ·exact kP _ _ h.c0
 ·exact h.l0
 ·exact(h.own.lt k hk).2
theorem keep (h:xn w b g vb S) {F:Nat->Prop} (hb:But F w w') (hF:∀k,frF b g vb k->¬F k):xn w' b g vb S:=by
 have hk:∀k,frF b g vb k->w'.heap[k]?=w.heap[k]?:=fun k hk=>hb.block k (h.lt hk) (hF k hk);have kb:=hk b (.inl rfl);have k0:=hk g (.inr (.inl rfl))
 exact⟨(I kb).trans h.c0,(I kb).trans h.c1,(I kb).trans h.c2,
  fun o=>(K kb).trans (h.fb o),fun o=>(K k0).trans (h.f0 o),
  fun k a=>(I k0).trans (h.ci k a),fun k i a c=>(I k0).trans (h.cw k i a c),
  zb h.own fun k e=>hk k (.inr (.inr e)),Nat.lt_of_lt_of_le h.l0 hb.size,h.n0,h.vb0,h.vbb⟩
theorem drewN (h:xn w b g vb S) (n:Nat):xn (w.drewN n) b g vb S:=
 h.keep (F:=fun _=>False) (But.yhf (below_drewN (zR w) n)) (fun _ _=>id)
theorem ykq (h:xn w b g vb S) (m:Nat):xn (w.setCell ⟨b,2,P⟩ (J C (m:Int))) b g vb {S with next:=m}:=by
 have hh:∀k,k≠b->(w.setCell ⟨b,2,P⟩ (J C (m:Int))).heap[k]?=w.heap[k]?:=fun k hk=>H _ _ _ _ hk;have k0:=hh g h.n0
 have hs:(w.setCell ⟨b,2,P⟩ (J C (m:Int))).heap.size=w.heap.size:=by simp
 refine⟨?_,?_,M _ _ _ h.c2,fun o=>by simpa using h.fb o,fun o=>by simpa using h.f0 o,
  fun k a=>(I k0).trans (h.ci k a),fun k i a c=>(I k0).trans (h.cw k i a c),
  zb h.own fun k e=>hh k (fun e'=>h.vbb (e'▸e)),hs.symm▸h.l0,h.n0,h.vb0,h.vbb⟩
 ·exact(N _ _ _ _ (by simp)).trans h.c0
 ·exact(N _ _ _ _ (by simp)).trans h.c1
theorem grow (h:xn w b g vb S) (hs:w.heap.size<=w'.heap.size) (hk:∀k,k=b\/k=g->w'.heap[k]?=w.heap[k]?) {vb':Value} {l:List Nat} (ho:w'.ownsRow 0 3 1 vb' l.length (yaR l)) (v0:vb'.ownBlock≠R g) (v2:vb'.ownBlock≠R b):
 xn (w'.setCell ⟨b,1,P⟩ vb') b g vb' {S with back:=l}:=by
 have kb:=hk b (.inl rfl);have k0:=hk g (.inr rfl);have hh:∀k,k≠b->(w'.setCell ⟨b,1,P⟩ vb').heap[k]?=w'.heap[k]?:=fun k hk=>H _ _ _ _ hk;have j0:=(hh g h.n0).trans k0
 have hs':(w'.setCell ⟨b,1,P⟩ vb').heap.size=w'.heap.size:=by simp
 have l0:=h.l0
 refine⟨?_,M _ _ _ ((I kb).trans h.c1),?_,fun o=> ?_,fun o=>(K j0).trans (h.f0 o),
  fun k a=>(I j0).trans (h.ci k a),fun k i a c=>(I j0).trans (h.cw k i a c),
  zb ho fun k e=>hh k (fun e'=>v2 (e'▸e)),by rw[hs'];omega,h.n0,v0,v2⟩
 ·exact(N _ _ _ _ (by simp)).trans ((I kb).trans h.c0)
 ·exact(N _ _ _ _ (by simp)).trans ((I kb).trans h.c2)
 ·rw[World.frozen?_setCell]
  exact(K kb).trans (h.fb o)
theorem ykp (h:xn w b g vb S) {vb':Value} {l:List Nat} (ho:w.ownsRow 0 3 1 vb' l.length (yaR l)) (v0:vb'.ownBlock≠R g) (v2:vb'.ownBlock≠R b):
 xn (w.setCell ⟨b,1,P⟩ vb') b g vb' {S with back:=l}:=h.grow (Nat.le_refl _) (fun _ _=>rfl) ho v0 v2
theorem mark (h:xn w b g vb S) {k:Nat} (hk:k<S.n) (v:Bool) (l:List Nat) (hl:∀j,decide (j ∈ l)=if j=k then v else S.inn j):
 xn (w.setCell ⟨g,k*9,P⟩ (E v)) b g vb {S with used:=l}:=by
 have hh:∀j,j≠g->(w.setCell ⟨g,k*9,P⟩ (E v)).heap[j]?=w.heap[j]?:=fun j hj=>H _ _ _ _ hj;have kb:=hh b (Ne.symm h.n0)
 have hs:(w.setCell ⟨g,k*9,P⟩ (E v)).heap.size=w.heap.size:=by simp
 refine⟨(I kb).trans h.c0,(I kb).trans h.c1,(I kb).trans h.c2,
  fun o=>by simpa using h.fb o,fun o=>by simpa using h.f0 o,fun j a=> ?_,fun j i a c=> ?_,
  zb h.own fun j e=>hh j (fun e'=>h.vb0 (e'▸e)),hs.symm▸h.l0,h.n0,h.vb0,h.vbb⟩
 ·show _=R (kV (decide (j ∈ l)))
  rw[hl j]
  by_cases e:j=k
  ·rw[if_pos e,e]
   exact M _ _ _ (h.ci k hk)
  ·rw[if_neg e]
   exact(N _ _ _ _ (fun he=>e (by injection he with _ he;omega))).trans (h.ci j a)
 ·exact(N _ _ _ _ (fun he=>by injection he with _ he;omega)).trans (h.cw j i a c)
theorem fill (h:xn w b g vb S) {k:Nat} (hk:k<S.n) (zs:List Value) (hz:zs.length=9) (h0:zs[0]?=R (E d)) (hv:∀j:Nat,j<8->zs[j+1]?=R (J U 0)):
 xn (w.setCells g (k*9) zs) b g vb {S with used:=k::S.used,word:=Pg.Fs.clear S.word k}:=by
 have hh:∀j,j≠g->(w.setCells g (k*9) zs).heap[j]?=w.heap[j]?:=fun j hj=>qy _ _ _ _ _ hj;have kb:=hh b (Ne.symm h.n0);have hs:=qB g zs (k*9) w
 have hin:∀i,i<zs.length->(w.setCells g (k*9) zs).cell? ⟨g,k*9+i,P⟩=zs[i]?:=by
  intro i hi
  have:=World.cell?_setCells_in g zs (k*9) w (fun i hi=>by
   match i with
   | 0=>rw[show k*9+0=k*9 from rfl,h.ci k hk];rfl
   | i+1=>rw[show k*9+(i+1)=k*9+1+i by omega,h.cw k i hk (by omega)];rfl) i hi
  rw[this,List.getElem?_eq_getElem hi]
 refine⟨(I kb).trans h.c0,(I kb).trans h.c1,(I kb).trans h.c2,
  fun o=>(kC _ _ _ _ _).trans (h.fb o),fun o=>(kC _ _ _ _ _).trans (h.f0 o),
  fun j a=> ?_,fun j i a c=> ?_,
  zb h.own fun j e=>hh j (fun e'=>h.vb0 (e'▸e)),hs.symm▸h.l0,h.n0,h.vb0,h.vbb⟩
 ·show _=R (kV (decide (j ∈ k::S.used)))
  by_cases e:j=k
  ·subst e
   have:=hin 0 (by omega);simp only[Nat.add_zero]at this;rw[this,h0];simp
  ·have he:decide (j ∈ k::S.used)=S.inn j:=by simp[Pg.Fs.inn,e]
   rw[he];exact(kI _ _ _ _ _ (fun _ _=>by show j*9<k*9\/k*9+zs.length<=j*9;omega)).trans (h.ci j a)
 ·show _=R (kQ U (Pg.Fs.clear S.word k j i))
  unfold Pg.Fs.clear
  by_cases e:j=k
  ·rw[if_pos e,e,show k*9+1+i=k*9+(i+1) by omega,hin (i+1) (by omega),hv i c]
  ·rw[if_neg e]
   exact(kI _ _ _ _ _ (fun _ _=>by show j*9+1+i<k*9\/k*9+zs.length<=j*9+1+i;omega)).trans (h.cw j i a c)
theorem put (h:xn w b g vb S) {k i:Nat} (hk:k<S.n) (hi:i<8) (v:Int):
 xn (w.setCell ⟨g,k*9+1+i,P⟩ (J U v)) b g vb {S with word:=Pg.Fs.put S.word k i v}:=by
 have hh:∀j,j≠g->(w.setCell ⟨g,k*9+1+i,P⟩ (J U v)).heap[j]?=w.heap[j]?:=fun j hj=>H _ _ _ _ hj;have kb:=hh b (Ne.symm h.n0)
 have hs:(w.setCell ⟨g,k*9+1+i,P⟩ (J U v)).heap.size=w.heap.size:=by simp
 refine⟨(I kb).trans h.c0,(I kb).trans h.c1,(I kb).trans h.c2,
  fun o=>by simpa using h.fb o,fun o=>by simpa using h.f0 o,
  fun j a=>(N _ _ _ _ (fun he=>by injection he with _ he;omega)).trans (h.ci j a),fun j m a c=> ?_,
  zb h.own fun j e=>hh j (fun e'=>h.vb0 (e'▸e)),hs.symm▸h.l0,h.n0,h.vb0,h.vbb⟩
 show _=R (kQ U (Pg.Fs.put S.word k i v j m))
 unfold Pg.Fs.put
 by_cases e:j=k/\m=i
 ·rw[if_pos e,e.1,e.2]
  exact M _ _ _ (h.cw k i hk hi)
 ·rw[if_neg e]
  exact(N _ _ _ _ (fun he=>e (by injection he with _ he;omega))).trans (h.cw j m a c)
end xn
def vy:Array Value:=#[E V,J U 0,J U 0,J U 0,J U 0,J U 0,J U 0,J U 0,J U 0]
theorem yeu (k:Nat):vy[k*9%vy.size]! =E V:=by
 have:k*9%9=0:=by omega
 show vy[k*9%9]! =_
 rw[this];rfl
theorem yev (k i:Nat) (hi:i<8):vy[(k*9+1+i)%vy.size]! =J U 0:=by
 have:(k*9+1+i)%9=i+1:=by omega
 show vy[(k*9+1+i)%9]! =_
 rw[this]
 match i,hi with
 | 0,_|1,_|2,_|3,_|4,_|5,_|6,_|7,_=>rfl
theorem xn.made {w:T} {b g n:Nat} {t0 t2:TypeId} (hb:w.heap[b]?=R (.cells #[D (R ⟨g,0,P⟩) n n,D P 0 0,J C 0] t2 (0,0)))
 (h0:w.heap[g]?=R (.cells (madeCells vy (n*9)) t0 (0,0))) (n0:g≠b):xn w b g (D P 0 0) (Pg.Fs.new n):=by
 refine⟨?_,?_,?_,fun o=>by simp[kY,hb],fun o=>by simp[kY,h0],fun k hk=> ?_,fun k i hk hi=> ?_,World.ownsRow_nil _ _ _ _,(Array.getElem?_eq_some_iff.1 h0).1,n0,by simp[z],by simp[z]⟩
 ·rw[cell_of_row w b 0 _ _ _ hb];rfl
 ·rw[cell_of_row w b 1 _ _ _ hb];rfl
 ·rw[cell_of_row w b 2 _ _ _ hb];rfl
 ·have hk:k<n:=hk
  have hlt:k*9<n*9:=by omega
  rw[cell_of_row w g _ _ _ _ h0,madeCells];simp only[Array.getElem?_map,Array.getElem?_range,hlt,if_true,Option.map_some,yeu];rfl
 ·have hk:k<n:=hk
  have hlt:k*9+1+i<n*9:=by omega
  rw[cell_of_row w g _ _ _ _ h0,madeCells];simp only[Array.getElem?_map,Array.getElem?_range,hlt,if_true,Option.map_some,yev k i hi];rfl
def zh (w:T) (b:Nat) (S:Pg.Fs) (F:Nat->Prop):Prop:=∃g vb,xn w b g vb S/\S.Ok/\F=frF b g vb
theorem zh.lt {w:T} {b:Nat} {S:Pg.Fs} {F:Nat->Prop} (h:zh w b S F) {k:Nat} (hk:F k):k<w.heap.size:=by
 obtain⟨g,vb,h,_,rfl⟩:=h;exact h.lt hk
theorem zh.ok {w:T} {b:Nat} {S:Pg.Fs} {F:Nat->Prop} (h:zh w b S F):S.Ok:=by
 obtain⟨g,vb,_,h,_⟩:=h;exact h
theorem zh.keep {w w':T} {b:Nat} {S:Pg.Fs} {F G:Nat->Prop} (h:zh w b S F) (hb:But G w w') (hF:∀k,F k->¬G k):zh w' b S F:=by
 obtain⟨g,vb,h,ok,rfl⟩:=h;exact⟨g,vb,h.keep hb hF,ok,rfl⟩
theorem zh.next {w w':T} {b g:Nat} {vb vb':Value} {S':Pg.Fs} (h1:xn w' b g vb' S') (ok:S'.Ok) (hb:But (frF b g vb) w w') (hv:vb'.ownBlock=vb.ownBlock\/∃k,vb'.ownBlock=R k/\w.heap.size<=k):
 ∃F',zh w' b S' F'/\But (frF b g vb) w w'/\∀k,F' k->frF b g vb k\/w.heap.size<=k:=by
 refine⟨_,⟨g,vb',h1,ok,rfl⟩,hb,fun k hk=> ?_⟩;rcases hk with rfl|rfl|hk
 ·exact .inl (.inl rfl)
 ·exact .inl (.inr (.inl rfl))
 ·rcases hv with e|⟨j,e,hj⟩
  ·exact .inl (.inr (.inr (e▸hk)))
  ·rw[hk]at e
   cases e;exact .inr hj
theorem jF {b g:Nat} {vb:Value} {S:Pg.Fs} (k:Int) (w:T) (h:xn w b g vb S) (ok:S.Ok):
 Calls Q 203 #[Z (R ⟨b,0,P⟩),J C k] w fun e w'=>e=O (E (S.has k))/\w'=w:=by
 have hc0:=h.c0;have hn:=ok.small
 by_cases h0:0<=k
 ·obtain⟨m,rfl⟩:=X h0
  by_cases h1:m<S.n
  ·have hm:=h.ci m h1
   have HH:Hid (S.has (m:Int)=S.inn m):=by simp[Hid,Pg.Fs.has]
   have i0:(0:Int)<=(m:Int):=by omega
   have i1:(m:Int)<(S.n:Int):=by omega
   go_enter Tryz.func203,Tryz.ntmps203
   go_wp2_with fail
   go_ret
   exact⟨xx HH.out.symm,rfl⟩
  ·have HH:Hid (S.has (m:Int)=V):=by
    cases hh:S.has (m:Int)
    ·rfl
    ·have:=ok.yhz hh
     omega
   have i1:¬(m:Int)<(S.n:Int):=by omega
   go_enter Tryz.func203,Tryz.ntmps203
   go_wp2_with fail
   go_ret
   exact⟨xx HH.out.symm,rfl⟩
 ·have HH:Hid (S.has k=V):=by simp[Hid,Pg.Fs.has,h0]
  have d0:decide (0<=k)=V:=by simpa using h0
  go_enter Tryz.func203,Tryz.ntmps203
  go_wp2_with fail
  go_ret
  exact⟨xx HH.out.symm,rfl⟩
theorem yfn {b g:Nat} {vb:Value} {S:Pg.Fs} (w:T) (h:xn w b g vb S) (ok:S.Ok):
 Calls Q 67 #[Z (R ⟨b,0,P⟩)] w fun e w'=>e=O (J C S.free)/\Below w.heap.size w w':=by
 have hc0:=h.c0;have hc1:=h.c1;have hc2:=h.c2;have hl:=ok.len;have ht:=ok.top;have hs:=ok.small;have HF:Hid (S.free=S.back.length+S.n-S.next):=rfl
 have hb:S.back.length<=128:=by omega
 have hx:S.next<=128:=by omega
 rcases h.own.2 with ⟨rfl,hlen⟩|⟨g,cap,cur,rfl,hg⟩
 ·rw[hlen]at HF
  clear hl ht hlen hb
  go_enter Tryz.func67,Tryz.ntmps67
  go_wp2_with fail
  go_quiet (fail)
  go_wp2_with fail
  go_ret
  refine⟨?_,below_drewN (zR _) _⟩;rw[HF.out]
  first|rfl|simp
 ·clear hl ht hg
  generalize S.back.length=m at*
  go_enter Tryz.func67,Tryz.ntmps67
  go_wp2_with fail
  go_quiet (fail)
  go_wp2_with fail
  go_ret
  exact⟨zJ (by rw[HF.out]),below_drewN (zR _) _⟩
def Pg.Fs.picked (S:Pg.Fs):Pg.Fs:=match S.back.getLast? with
 | some k=>{S with back:=S.back.dropLast}
 | none=>if S.next<S.n then{S with next:=S.next+1}else S
theorem yft {b g:Nat} {vb:Value} {S:Pg.Fs} (w:T) (h:xn w b g vb S) (ok:S.Ok):
 Calls Q 85 #[Z (R ⟨b,0,P⟩)] w fun e w'=>e=O (J C S.takeN)/\∃vb',xn w' b g vb' S.picked/\But (frF b g vb) w w'/\vb'.ownBlock=vb.ownBlock:=by
 have hc0:=h.c0;have hc1:=h.c1;have hc2:=h.c2;have hfb:=h.fb;have hs:=ok.small;have ht:=ok.top
 by_cases hb:S.back=[]
 ·have ho:=h.own
  rw[hb]at ho
  by_cases hn:S.next<S.n
  ·have e1:S.takeN=(S.next:Int):=by simp[Pg.Fs.takeN,Pg.Fs.pick,hb,hn]
   have e2:S.picked={S with next:=S.next+1}:=by simp[Pg.Fs.picked,hb,hn]
   have fin:∀nq,Hid (∃vb',xn ((w.drewN nq).setCell ⟨b,2,P⟩ (J C (S.next+1))) b g vb' S.picked/\But (frF b g vb) w ((w.drewN nq).setCell ⟨b,2,P⟩ (J C (S.next+1)))/\vb'.ownBlock=vb.ownBlock):=by
    intro nq;rw[e2];exact⟨vb,(h.drewN nq).ykq (S.next+1),(But.yhf (below_drewN (zR w) nq)).setCell (.inr (.inl rfl)) _,rfl⟩
   rw[e1]
   have i1:((S.next:Int)==(S.n:Int))=V:=by simp;omega
   clear e1 e2;rcases ho.2 with ⟨rfl,hlen⟩|⟨g',cap,cur,rfl,hg⟩
   all_goals
    clear ho h
    go_enter Tryz.func85,Tryz.ntmps85
    go_wp2_with fail
    go_quiet (fail)
    go_wp2_with fail
    go_ret
    exact⟨rfl,(fin _).out⟩
  ·have hnn:S.next=S.n:=by omega
   have e1:S.takeN= -1:=by simp[Pg.Fs.takeN,Pg.Fs.pick,hb,hn]
   have e2:S.picked=S:=by simp[Pg.Fs.picked,hb,hn]
   have fin:∀nq,Hid (∃vb',xn (w.drewN nq) b g vb' S.picked/\But (frF b g vb) w (w.drewN nq)/\vb'.ownBlock=vb.ownBlock):=by
    intro nq;rw[e2];exact⟨vb,h.drewN nq,But.yhf (below_drewN (zR w) nq),rfl⟩
   rw[e1]
   have i1:((S.next:Int)==(S.n:Int))=d:=by simp;omega
   clear e1 e2;rcases ho.2 with ⟨rfl,hlen⟩|⟨g',cap,cur,rfl,hg⟩
   all_goals
    clear ho h
    go_enter Tryz.func85,Tryz.ntmps85
    go_wp2_with fail
    go_quiet (fail)
    go_wp2_with fail
    go_ret
    exact⟨rfl,(fin _).out⟩
 ·obtain⟨l,k,hl⟩:∃l k,S.back=l++[k]:=⟨_,_,(List.dropLast_concat_getLast hb).symm⟩
  have hk:k<S.n:=by
   have:=ok.yks (k:=k) (by rw[hl];simp);omega
  have ho:=h.own
  have hlen:S.back.length=l.length+1:=by rw[hl];simp
  rw[hlen]at ho;obtain⟨g',cap,rfl,_,hgl⟩:=ho.form (by omega)
  have hcap:l.length+1<=cap:=by
   rcases ho.2 with ⟨h',_⟩|⟨g',cap',cur,h',_,_,hle,_⟩
   ·cases h'
   ·cases h';exact hle
  have hbd:S.back.length<=128:=by have:=ok.len;omega
  have hl128:l.length<128:=by omega
  have hck:w.cell? ⟨g',l.length,P⟩=R (J C k):=by
   rw[ho.cellAt l.length (by omega),yaR,hl];simp
  have hpop:w.ownsRow 0 3 1 (D (R ⟨g',0,P⟩) l.length cap) l.length (yaR l):=by
   have e:yaR S.back=yaR l++[J C (k:Int)]:=by simp[yaR,hl]
   rw[e]at ho;exact ownsRow_pop (by simp[yaR]) ho
  have e1:S.takeN=(k:Int):=by simp[Pg.Fs.takeN,Pg.Fs.pick,hl]
  have e2:S.picked={S with back:=l}:=by simp[Pg.Fs.picked,hl]
  have fin:Hid (∃vb',xn (w.setCell ⟨b,1,P⟩ (D (R ⟨g',0,P⟩) l.length cap)) b g vb' S.picked/\But (frF b g (D (R ⟨g',0,P⟩) (l.length+1) cap)) w (w.setCell ⟨b,1,P⟩ (D (R ⟨g',0,P⟩) l.length cap))/\vb'.ownBlock=(kF (R ⟨g',0,P⟩) (l.length+1) cap).ownBlock):=by
   rw[e2];exact⟨_,h.ykp hpop h.vb0 h.vbb,(But.refl _ w).setCell (.inr (.inl rfl)) _,rfl⟩
  rw[e1]
  have j1:(l.length:Int)<=(cap:Int):=by omega
  have j0:(0:Int)<=(l.length:Int):=by omega
  clear ho h hpop hlen hl hb e1 e2;generalize l.length=m at*
  go_enter Tryz.func85,Tryz.ntmps85
  go_wp2_with fail
  go_ret
  exact⟨rfl,fin.out⟩
theorem ybn {b g:Nat} {vb:Value} {S:Pg.Fs} (k i:Int) (w:T) (h:xn w b g vb S) (ok:S.Ok):
 Calls Q 201 #[Z (R ⟨b,0,P⟩),J C k,J C i] w fun e w'=>e=O (.pointer (bif S.at' k i then R ⟨g,k.toNat*9+1+i.toNat,P⟩else P))/\w'=w:=by
 have HT:=jF k w h ok;have hc0:=h.c0;have hs:=ok.small;cases e1:S.has k
 ·have HA:Hid (S.at' k i=V):=by simp[Hid,Pg.Fs.at',e1]
  rw[HA.out];rw[e1]at HT;clear e1 h
  go_enter Tryz.func201,Tryz.ntmps201
  go_wp2_with (go_at_call 203;refine HT.mono ?_;rintro e w' ⟨rfl,hw⟩;subst w')
  go_ret
  exact⟨rfl,rfl⟩
 ·rw[e1]at HT
  by_cases h0:0<=i
  ·by_cases h8:i<8
   ·have HA:Hid (S.at' k i=d):=by simp[Hid,Pg.Fs.at',e1,h0,h8]
    rw[HA.out];obtain⟨k0,k1,_⟩:=ok.yhz e1;obtain⟨a,rfl⟩:=X k0;obtain⟨c,rfl⟩:=X h0
    have i0:(0:Int)<=(a:Int):=by omega
    have i1:(a:Int)<(S.n:Int):=by omega
    have hl:¬(c:Int)<0:=by omega
    have hl8:¬(8:Int)<=(c:Int):=by omega
    clear e1 h
    go_enter Tryz.func201,Tryz.ntmps201
    go_wp2_with (go_at_call 203;refine HT.mono ?_;rintro e w' ⟨rfl,hw⟩;subst w')
    go_ret
    exact⟨rfl,rfl⟩
   ·have HA:Hid (S.at' k i=V):=by simp[Hid,Pg.Fs.at',h8]
    rw[HA.out]
    have hl:¬i<0:=by omega
    have hl8:(8:Int)<=i:=by omega
    clear e1 h
    go_enter Tryz.func201,Tryz.ntmps201
    go_wp2_with (go_at_call 203;refine HT.mono ?_;rintro e w' ⟨rfl,hw⟩;subst w')
    go_ret
    exact⟨rfl,rfl⟩
  ·have HA:Hid (S.at' k i=V):=by simp[Hid,Pg.Fs.at',h0]
   rw[HA.out]
   have hl:i<0:=by omega
   clear e1 h
   go_enter Tryz.func201,Tryz.ntmps201
   go_wp2_with (go_at_call 203;refine HT.mono ?_;rintro e w' ⟨rfl,hw⟩;subst w')
   go_ret
   exact⟨rfl,rfl⟩
theorem vx {b:Nat} {S:Pg.Fs} {F:Nat->Prop} (k:Int) (w:T) (h:zh w b S F):
 Calls Q 203 #[Z (R ⟨b,0,P⟩),J C k] w fun e w'=>e=O (E (S.has k))/\Below w.heap.size w w':=by
 obtain⟨g,vb,h,ok,rfl⟩:=h;exact xt (jF k w h ok)
theorem yaK {b:Nat} {S:Pg.Fs} {F:Nat->Prop} (w:T) (h:zh w b S F):
 Calls Q 67 #[Z (R ⟨b,0,P⟩)] w fun e w'=>e=O (J C S.free)/\Below w.heap.size w w':=by
 obtain⟨g,vb,h,ok,rfl⟩:=h;exact yfn w h ok
def yfH:List Value:=[E d,J U 0,J U 0,J U 0,J U 0,J U 0,J U 0,J U 0,J U 0]
theorem yfI:∀j:Nat,j<8->yfH[j+1]?=R (J U 0)
 | 0,_|1,_|2,_|3,_|4,_|5,_|6,_|7,_=>rfl
 | j+8,hj=>absurd hj (by omega)
theorem yaM {b:Nat} {S:Pg.Fs} {F:Nat->Prop} (w:T) (h:zh w b S F):
 Calls Q 46 #[Z (R ⟨b,0,P⟩)] w fun e w'=>e=O (J C S.takeN)/\∃F',zh w' b S.take F'/\But F w w'/\∀k,F' k->F k\/w.heap.size<=k:=by
 obtain⟨g,vb,h,ok,rfl⟩:=h;have HN:=yft w h ok
 cases hp:S.pick with
 | none=>
   have e1:S.takeN= -1:=by simp[Pg.Fs.takeN,hp]
   have e2:S.picked=S/\S.take=S:=by
    unfold Pg.Fs.pick at hp
    cases hb:S.back.getLast? with
    | some k=>rw[hb]at hp;cases hp
    | none=>
      rw[hb]at hp
      by_cases hn:S.next<S.n
      ·simp[hn]at hp
      ·simp[Pg.Fs.picked,Pg.Fs.take,hb,hn]
   rw[e1]at HN ⊢;rw[e2.1]at HN;rw[e2.2];clear e1 e2 h
   go_enter Tryz.func46,Tryz.ntmps46
   go_wp2_with fail
   refine HN.mono ?_;rintro e w1 ⟨rfl,vb1,h1,hb1,hv1⟩;have fin:Hid _:=zh.next h1 ok hb1 (.inl hv1);clear h1 hb1 hv1
   go_wp2_with fail
   go_ret
   exact⟨rfl,fin.out⟩
 | some k=>
   have e1:S.takeN=(k:Int):=by simp[Pg.Fs.takeN,hp]
   have hk:=(ok.ylb hp).1
   have e2:S.take={S.picked with used:=k::S.picked.used,word:=Pg.Fs.clear S.picked.word k}/\S.picked.n=S.n:=by
    unfold Pg.Fs.pick at hp
    cases hb:S.back.getLast? with
    | some j=>
      rw[hb]at hp;cases hp;simp[Pg.Fs.picked,Pg.Fs.take,hb]
    | none=>
      rw[hb]at hp
      by_cases hn:S.next<S.n
      ·simp[hn]at hp
       subst hp;simp[Pg.Fs.picked,Pg.Fs.take,hb,hn]
      ·simp[hn]at hp
   have hs:=ok.small
   have i0:(0:Int)<=(k:Int):=by omega
   have i1:(k:Int)<(S.n:Int):=by omega
   have i2:((k:Int)== -1)=V:=by simp
   rw[e1]at HN ⊢;clear e1 h
   go_enter Tryz.func46,Tryz.ntmps46
   go_wp2_with fail
   refine HN.mono ?_;rintro e w1 ⟨rfl,vb1,h1,hb1,hv1⟩;have hc0:=h1.c0;rw[e2.2]at hc0;have hf0:=h1.f0
   have hkp:k<S.picked.n:=by rw[e2.2];exact hk
   have t0:=h1.ci k hkp;have t1:=h1.cw k 0 hkp (by omega);have t2:=h1.cw k 1 hkp (by omega);have t3:=h1.cw k 2 hkp (by omega);have t4:=h1.cw k 3 hkp (by omega);have t5:=h1.cw k 4 hkp (by omega);have t6:=h1.cw k 5 hkp (by omega);have t7:=h1.cw k 6 hkp (by omega);have t8:=h1.cw k 7 hkp (by omega)
   have fin:Hid (∃F',zh (w1.setCells g (k*9) yfH) b S.take F'/\But (frF b g vb) w (w1.setCells g (k*9) yfH)/\∀k,F' k->frF b g vb k\/w.heap.size<=k):=by
    refine zh.next (vb':=vb1) ?_ ok.take (But.setCells g (.inr (.inr (.inl rfl))) _ _ _ hb1) (.inl hv1);rw[e2.1];exact h1.fill hkp yfH rfl rfl yfI
   clear h1 hb1 hv1 HN e2
   go_wp2_with fail
   go_ret
   exact⟨rfl,fin.out⟩
theorem yfp:(Tryz.prog.info? 3).map (fun i=>(i.zero,i.size,i.bytes))=R (R (J C 0),1,8):=by kernel_rfl
theorem yfo {b g:Nat} {vb:Value} {S:Pg.Fs} (m:Nat) (w:T) (h:xn w b g vb S) (ok:S.Ok) (hh:S.has (m:Int)=d):
 Calls Q 184 #[Z (R ⟨b,0,P⟩),J C (m:Int)] w fun e w'=>e=O (E d)/\∃F',zh w' b (S.give (m:Int)) F'/\But (frF b g vb) w w'/\∀k,F' k->frF b g vb k\/w.heap.size<=k:=by
 have hc0:=h.c0;have hfb:=h.fb;have hf0:=h.f0;have hs:=ok.small;have n0:=h.n0
 have hn:m<S.n:=by have:=ok.yhz hh;omega
 have hi:=h.ci m hn
 have i0:(0:Int)<=(m:Int):=by omega
 have i1:(m:Int)<(S.n:Int):=by omega
 have hT:=jF (m:Int) w h ok;rw[hh]at hT
 have hl:∀j,decide (j ∈ S.used.erase m)=if j=m then V else S.inn j:=by
  intro j;have hnd:S.used.Nodup:=(List.nodup_append.1 ok.nodup).1
  by_cases e:j=m
  ·simp[e,hnd.mem_erase_iff]
  ·simp[e,hnd.mem_erase_iff,Pg.Fs.inn]
 have hM:=h.mark hn V (S.used.erase m) hl
 have hbd:S.back.length<=128:=by have:=ok.len;have:=ok.top;omega
 have hown:=hM.own;have hc1:=hM.c1;have hlb:=hM.lb;obtain⟨q0,hq,hz0,hz1,hz2⟩:=info_parts yfp;have HM:Hid _:=hM;have HX:Hid _:=hh;clear hM h hl hh
 go_enter Tryz.func184,Tryz.ntmps184
 go_wp2_with (first
  | (go_at_call 203;refine hT.mono ?_;rintro e w' ⟨rfl,hw⟩;subst w')
  | (at_builtin;refine wpList_append_lies _ rfl _ _ 45 rfl 0 3 q0 (J C 0) 1 8 Tryz.underlying45 hq hz0 hz1 hz2 rfl (by decide) _ _ _ rfl (hown.alloc _) ⟨w.heap.size,0,P⟩ 1 1 [J C (m:Int)] rfl rfl ?c1 ?c2 (by decide) ?c3 ?c4 (Nat.zero_le _) (w.heap.size+1) (by simp) ?_))
 case c1=>
  intro j u hj
  match j,hj with
  | 0,hj=>simp at hj;subst hj;simp[Addr.add,go_sem]
 case c2=>intro u hu;simp at hu;subst hu;rfl
 case c3=>unfold maxLen;omega
 case c4=>omega
 intro g' cap w3 hown3 hgrow hat hlt;have h1:=HM.out
 have hk:∀k,k=b\/k=g->w3.heap[k]?=(w.setCell ⟨g,m*9,P⟩ (E V)).heap[k]?:=by
  intro k hk
  have hkl:k<(w.setCell ⟨g,m*9,P⟩ (E V)).heap.size:=by
   rcases hk with rfl|rfl
   ·exact h1.lb
   ·exact h1.l0
  have hkv:R k≠vb.ownBlock:=by
   rcases hk with rfl|rfl
   ·exact fun e=>h1.vbb e.symm
   ·exact fun e=>h1.vb0 e.symm
  rw[hgrow.block k (by simp at hkl ⊢;omega) hkv];exact Below.heap_alloc _ _ _ hkl
 have hsz:(w.setCell ⟨g,m*9,P⟩ (E V)).heap.size=w.heap.size:=by simp
 have hne:∀k,k=b\/k=g->(kF (R ⟨g',0,P⟩) (S.back.length+1) cap).ownBlock≠R k:=by
  intro k hk e
  have e:g'=k:=by simpa[z]using e
  subst e;rcases hat with hat|hat
  ·rcases hk with rfl|rfl
   ·exact h1.vbb hat
   ·exact h1.vb0 hat
  ·have:=h1.lb;have:=h1.l0
   omega
 have hG:=h1.grow (w':=w3) (l:=S.back++[m]) (by have:=hgrow.size;simp at this ⊢;omega) hk (by simpa[yaR]using hown3) (hne g (.inr rfl)) (hne b (.inl rfl));have kc:w3.cell? ⟨b,1,P⟩=R vb:=(I (hk b (.inl rfl))).trans h1.c1;have kf:w3.frozen? ⟨b,1,P⟩=V:=(K (hk b (.inl rfl))).trans (h1.fb 1)
 have fin:Hid (∃F',zh (w3.setCell ⟨b,1,P⟩ (D (R ⟨g',0,P⟩) (S.back.length+1) cap)) b (S.give (m:Int)) F'/\But (frF b g vb) w (w3.setCell ⟨b,1,P⟩ (D (R ⟨g',0,P⟩) (S.back.length+1) cap))/\∀k,F' k->frF b g vb k\/w.heap.size<=k):=by
  have e:S.give (m:Int)={{S with used:=S.used.erase m}with back:=S.back++[m]}:=by
   simp[Pg.Fs.give,HX.out]
  refine zh.next (vb':=D (R ⟨g',0,P⟩) (S.back.length+1) cap) (by rw[e];exact hG) (ok.give _) ?_ ?_
  ·refine(((((But.refl _ w).setCell (.inr (.inr (.inl rfl))) _).alloc _).grown hgrow fun k hk=> .inr (.inr (.inr hk)))).setCell (.inr (.inl rfl)) _
  ·rcases hat with hat|hat
   ·exact .inl hat.symm
   ·exact .inr ⟨g',rfl,by omega⟩
 clear hk hne hG h1 hown3 hgrow hown hc1 hat hlt
 go_wp2_with fail
 go_ret
 exact⟨rfl,fin.out⟩
theorem ydD {b:Nat} {S:Pg.Fs} {F:Nat->Prop} (k:Int) (w:T) (h:zh w b S F):
 Calls Q 184 #[Z (R ⟨b,0,P⟩),J C k] w fun e w'=>e=O (E (S.has k))/\∃F',zh w' b (S.give k) F'/\But F w w'/\∀k,F' k->F k\/w.heap.size<=k:=by
 obtain⟨g,vb,h,ok,rfl⟩:=h;cases hh:S.has k
 ·have hT:=jF k w h ok
  rw[hh]at hT
  have e:S.give k=S:=by simp[Pg.Fs.give,hh]
  rw[e];have fin:Hid _:=zh.next h ok (But.refl (frF b g vb) w) (.inl rfl);clear h
  go_enter Tryz.func184,Tryz.ntmps184
  go_wp2_with (go_at_call 203;refine hT.mono ?_;rintro e w' ⟨rfl,hw⟩;subst w')
  go_ret
  exact⟨rfl,fin.out⟩
 ·obtain⟨m,rfl⟩:=X (ok.yhz hh).1
  exact yfo m w h ok hh
theorem jr {b:Nat} {S:Pg.Fs} {F:Nat->Prop} (k i:Int) (w:T) (h:zh w b S F):
 Calls Q 171 #[Z (R ⟨b,0,P⟩),J C k,J C i] w fun e w'=>e=O (kR #[J U (S.load k i),E (S.at' k i)])/\w'=w:=by
 obtain⟨g,vb,h,ok,rfl⟩:=h;have HW:=ybn k i w h ok;cases hh:S.at' k i
 ·have e:S.load k i=0:=by simp[Pg.Fs.load,hh]
  rw[e];rw[hh]at HW;simp only[cond]at HW;clear h
  go_enter Tryz.func171,Tryz.ntmps171
  go_wp2_with (go_at_call 201;refine HW.mono ?_;rintro e w' ⟨rfl,hw⟩;subst w')
  go_ret2
  exact⟨rfl,rfl⟩
 ·have e:S.load k i=S.word k.toNat i.toNat:=by simp[Pg.Fs.load,hh]
  rw[e];rw[hh]at HW;simp only[cond]at HW;obtain⟨k0,k1,i0,i8,_⟩:=ok.ylr hh;have hc:=h.cw k.toNat i.toNat (by omega) (by omega);clear h;generalize S.word k.toNat i.toNat=v at*;generalize k.toNat*9+1+i.toNat=o at*
  go_enter Tryz.func171,Tryz.ntmps171
  go_wp2_with (go_at_call 201;refine HW.mono ?_;rintro e w' ⟨rfl,hw⟩;subst w')
  go_ret2
  exact⟨rfl,rfl⟩
theorem yaL {b:Nat} {S:Pg.Fs} {F:Nat->Prop} (k i:Int) (w:T) (h:zh w b S F):
 Calls Q 171 #[Z (R ⟨b,0,P⟩),J C k,J C i] w fun e w'=>e=O (kR #[J U (S.load k i),E (S.at' k i)])/\Below w.heap.size w w':=xt (jr k i w h)
theorem ycF {b:Nat} {S:Pg.Fs} {F:Nat->Prop} (k i v:Int) (h0:0<=v) (h1:v<18446744073709551616) (w:T) (h:zh w b S F):
 Calls Q 169 #[Z (R ⟨b,0,P⟩),J C k,J C i,J U v] w fun e w'=>e=O (E (S.at' k i))/\∃F',zh w' b (S.store k i v) F'/\But F w w'/\∀k,F' k->F k\/w.heap.size<=k:=by
 obtain⟨g,vb,h,ok,rfl⟩:=h;have HW:=ybn k i w h ok;cases hh:S.at' k i
 ·have e:S.store k i v=S:=by simp[Pg.Fs.store,hh]
  rw[e];rw[hh]at HW;simp only[cond]at HW;have fin:Hid _:=zh.next h ok (But.refl (frF b g vb) w) (.inl rfl);clear h
  go_enter Tryz.func169,Tryz.ntmps169
  go_wp2_with (go_at_call 201;refine HW.mono ?_;rintro e w' ⟨rfl,hw⟩;subst w')
  go_ret
  exact⟨rfl,fin.out⟩
 ·have e:S.store k i v={S with word:=Pg.Fs.put S.word k.toNat i.toNat v}:=by simp[Pg.Fs.store,hh]
  have ok':=ok.store k i h0 h1;rw[e]at ok' ⊢;rw[hh]at HW;simp only[cond]at HW;obtain⟨k0,k1,i0,i8,_⟩:=ok.ylr hh;have hc:=h.cw k.toNat i.toNat (by omega) (by omega);have hf:=h.f0 (k.toNat*9+1+i.toNat)
  have fin:Hid (∃F',zh (w.setCell ⟨g,k.toNat*9+1+i.toNat,P⟩ (J U v)) b {S with word:=Pg.Fs.put S.word k.toNat i.toNat v} F'/\But (frF b g vb) w (w.setCell ⟨g,k.toNat*9+1+i.toNat,P⟩ (J U v))/\∀k,F' k->frF b g vb k\/w.heap.size<=k):=
   zh.next (h.put (by omega) (by omega) v) ok' ((But.refl _ w).setCell (.inr (.inr (.inl rfl))) _) (.inl rfl)
  clear h;generalize k.toNat*9+1+i.toNat=o at*
  go_enter Tryz.func169,Tryz.ntmps169
  go_wp2_with (go_at_call 201;refine HW.mono ?_;rintro e w' ⟨rfl,hw⟩;subst w')
  go_ret
  exact⟨rfl,fin.out⟩
theorem ydE {b:Nat} {S:Pg.Fs} {F:Nat->Prop} (k i old v:Int) (h0:0<=v) (h1:v<18446744073709551616) (w:T) (h:zh w b S F):
 Calls Q 206 #[Z (R ⟨b,0,P⟩),J C k,J C i,J U old,J U v] w fun e w'=>e=O (E (S.swaps k i old))/\∃F',zh w' b (S.swap k i old v) F'/\But F w w'/\∀k,F' k->F k\/w.heap.size<=k:=by
 obtain⟨g,vb,h,ok,rfl⟩:=h;have HW:=ybn k i w h ok;cases hh:S.at' k i
 ·have es:S.swaps k i old=V:=by simp[Pg.Fs.swaps,hh]
  have e:S.swap k i old v=S:=by simp[Pg.Fs.swap,es]
  rw[e,es];rw[hh]at HW;simp only[cond]at HW;have fin:Hid _:=zh.next h ok (But.refl (frF b g vb) w) (.inl rfl);clear h
  go_enter Tryz.func206,Tryz.ntmps206
  go_wp2_with (go_at_call 201;refine HW.mono ?_;rintro e w' ⟨rfl,hw⟩;subst w')
  go_ret
  exact⟨rfl,fin.out⟩
 ·rw[hh]at HW
  simp only[cond]at HW;obtain⟨k0,k1,i0,i8,_⟩:=ok.ylr hh;have hc:=h.cw k.toNat i.toNat (by omega) (by omega);have hf:=h.f0 (k.toNat*9+1+i.toNat)
  by_cases hw:S.word k.toNat i.toNat=old
  ·have es:S.swaps k i old=d:=by simp[Pg.Fs.swaps,hh,hw]
   have e:S.swap k i old v={S with word:=Pg.Fs.put S.word k.toNat i.toNat v}:=by simp[Pg.Fs.swap,es]
   have ok':=ok.swap k i old h0 h1;rw[e]at ok' ⊢;rw[es]
   have fin:Hid (∃F',zh (w.setCell ⟨g,k.toNat*9+1+i.toNat,P⟩ (J U v)) b {S with word:=Pg.Fs.put S.word k.toNat i.toNat v} F'/\But (frF b g vb) w (w.setCell ⟨g,k.toNat*9+1+i.toNat,P⟩ (J U v))/\∀k,F' k->frF b g vb k\/w.heap.size<=k):=
    zh.next (h.put (by omega) (by omega) v) ok' ((But.refl _ w).setCell (.inr (.inr (.inl rfl))) _) (.inl rfl)
   clear h;rw[hw]at hc;generalize k.toNat*9+1+i.toNat=o at*;clear hw
   go_enter Tryz.func206,Tryz.ntmps206
   go_wp2_with (go_at_call 201;refine HW.mono ?_;rintro e w' ⟨rfl,hw⟩;subst w')
   go_ret
   exact⟨rfl,fin.out⟩
  ·have es:S.swaps k i old=V:=by simp[Pg.Fs.swaps,hw]
   have e:S.swap k i old v=S:=by simp[Pg.Fs.swap,es]
   rw[e,es];have fin:Hid _:=zh.next h ok (But.refl (frF b g vb) w) (.inl rfl);clear h
   have hne:(S.word k.toNat i.toNat==old)=V:=by simpa using hw
   generalize S.word k.toNat i.toNat=x at*;generalize k.toNat*9+1+i.toNat=o at*;clear hw
   go_enter Tryz.func206,Tryz.ntmps206
   go_wp2_with (go_at_call 201;refine HW.mono ?_;rintro e w' ⟨rfl,hw⟩;subst w')
   go_ret
   exact⟨rfl,fin.out⟩
theorem yet (n:Int) (hn:n<0\/128<n) (w:T):
 Calls Q 45 #[J C n] w fun e w'=>e=O (kR #[Z P,kN #[J C 1,J C (-1)]])/\Below w.heap.size w w':=by
 by_cases h0:n<0
 ·go_enter Tryz.func45,Tryz.ntmps45
  go_wp2_with fail
  refine bodyPost_ret (v:=kR #[Z P,kN #[J C 1,J C (-1)]]) ?_ rfl ⟨rfl,?_⟩
  ·simp[results,Tryz.results45,go_sem]
  ·exact zA (zR w) _
 ·have h1:128<n:=by omega
  go_enter Tryz.func45,Tryz.ntmps45
  go_wp2_with fail
  refine bodyPost_ret (v:=kR #[Z P,kN #[J C 1,J C (-1)]]) ?_ rfl ⟨rfl,?_⟩
  ·simp[results,Tryz.results45,go_sem]
  ·exact zA (zR w) _
theorem yez:(Tryz.prog.info? 166).map (fun i=>(i.zero,i.size,i.bytes))=R (R (kN #[E V,J U 0,J U 0,J U 0,J U 0,J U 0,J U 0,J U 0,J U 0]),9,72):=by kernel_rfl
theorem yes (n:Nat) (hn:n<=128) (w:T):
 Calls Q 45 #[J C (n:Int)] w fun e w'=>∃b F,e=O (kR #[Z (R ⟨b,0,P⟩),kN #[J C 0,J C 0]])/\zh w' b (Pg.Fs.new n) F/\Below w.heap.size w w'/\∀k,F k->w.heap.size<=k:=by
 obtain⟨q0,hq,hz0,hz1,hz2⟩:=info_parts yez
 have m0:∀w:T,(Instr.makeSlice 161 (J C (n:Int)) (J C (n:Int))).run Q w=_:=fun w=>
  run_make w 161 166 q0 _ Tryz.underlying161 hq hz0 C C n n (by omega) (Int.le_refl _) (by rw[hz2];omega) (by omega)
 rw[hz1]at m0;simp only[Int.toNat_natCast]at m0
 have d0:¬(n:Int)<0:=by omega
 have d1:¬(128:Int)<(n:Int):=by omega
 go_enter Tryz.func45,Tryz.ntmps45
 go_wp2_with fail
 refine bodyPost_ret (v:=kR #[Z (R ⟨w.heap.size+1+1,0,P⟩),kN #[J C 0,J C 0]]) ?_ rfl ?_
 ·simp[results,Tryz.results45,go_sem]
 refine⟨w.heap.size+1+1,rfl,frF (w.heap.size+1+1) (w.heap.size+1) (D P 0 0),⟨w.heap.size+1,D P 0 0,?_,Pg.Fs.ykK n hn,rfl⟩,?_,?_⟩
 ·refine xn.made (t0:=166) (t2:=163) ?_ ?_ (by omega)
  ·exact(jj w _ _ _).2.2
  ·exact(jj w _ _ _).2.1
 ·exact zA (zA (zA (zR w) _) _) _
 ·intro k hk
  rcases hk with rfl|rfl|hk
  ·omega
  ·omega
  ·simp[z]at hk
end Go.Proofs.YtdphiompijbelaaGreat
namespace Go.Proofs.YtdphiompijbelaaGreat
open Go.RowKit
namespace Pg
structure Mp where
 p:Int
 s:Int
 f:Int
 r:Int
def Mp.zz:Mp:=⟨0,0,0,0⟩
namespace Mp
def code (m:Mp):Int:=check m.p m.s m.f m.r
def has (m:Mp) (q:Int):Bool:=over m.p m.s q
def meets (a b:Mp):Bool:=meet a.p a.s b.p b.s
def rts (m:Mp) (r:Int):Mp:=⟨m.p,m.s,m.f,r⟩
def val (m:Mp):Value:=kN #[J C m.p,J C m.s,J C m.f,J C m.r]
theorem yi2 (a b:Mp):a.meets b=b.meets a:=by simp[meets,meet,Bool.or_comm]
end Mp
structure Good (L:List Mp):Prop where
 ok:∀m,m ∈ L->m.code=0
 up:L.Pairwise fun a b=>a.p<b.p/\a.meets b=V
theorem yjT {m:Mp} (h:m.code=0):0<=m.p/\m.p<4096/\fits m.p/\fits m.s/\fits m.f/\fits m.r:=by
 obtain⟨h0,h1,h2,h3,h4,h5,h6,_,_⟩:=yhs h
 have hs:m.s=0\/m.s=1\/m.s=2:=by
  rcases yht m.s with ⟨e,_⟩|⟨e,_⟩|⟨e,_⟩|⟨_,_,_,e⟩
  ·exact .inl e
  ·exact .inr (.inl e)
  ·exact .inr (.inr e)
  ·exact absurd e h0
 refine⟨h1,h2,?_,?_,?_,?_⟩<;>unfold fits<;>omega
theorem ykP:∀(L:List Mp) (a:Int),(∀m,m ∈ L->a<=m.p)->(L.Pairwise fun x y=>x.p<y.p)->(∀m,m ∈ L->m.p<4096)->(L.length:Int)<=max 0 (4096-a)
 | [],_,_,_,_=>by simp;omega
 | x::r,a,h,hp,hl=>by
   rw[Y]at hp;have h1:=h x (by simp);have h2:=hl x (by simp);have:=ykP r (x.p+1) (fun m hm=>by have:=hp.1 m hm;omega) hp.2 (fun m hm=>hl m (by simp[hm]));simp only[List.length_cons];omega
theorem Good.len {L:List Mp} (h:Good L):L.length<=4096:=by
 have:=ykP L 0 (fun m hm=>(yjT (h.ok m hm)).1) (h.up.imp fun⟨h,_⟩=>h) (fun m hm=>(yjT (h.ok m hm)).2.1);omega
theorem Good.nil:Good []:=⟨fun _ h=>by simp at h,List.Pairwise.nil⟩
def fnd (L:List Mp) (q:Int):Option Nat:=L.findIdx? fun m=>m.has q
def fndN (L:List Mp) (q:Int):Int:=match fnd L q with
 | some k=>(k:Int)
 | none=> -1
def ins (m:Mp):List Mp->List Mp
 | []=>[m]
 | x::r=>if m.p<x.p then m::x::r else x::ins m r
def addC (L:List Mp) (m:Mp):Int:=if m.code≠0 then m.code else if (L.any fun x=>x.meets m)=d then 4 else 0
def addL (L:List Mp) (m:Mp):List Mp:=if addC L m=0 then ins m L else L
def yhM (L:List Mp) (q:Int):Int:=if below q 4096=d then(if fnd L q=P then 5 else 0)else 1
def at' (L:List Mp) (q:Int):Mp:=match fnd L q with
 | some k=>L.getD k .zz
 | none=> .zz
def yiQ (L:List Mp) (q:Int):Mp:=if yhM L q=0 then at' L q else .zz
def yif (L:List Mp) (q:Int):List Mp:=if yhM L q=0 then(match fnd L q with
 | some k=>L.eraseIdx k
 | none=>L)else L
def yin (L:List Mp) (q r:Int):Int:=if below r 8=d then yhM L q else 1
def yjU (L:List Mp) (q r:Int):Mp:=if yin L q r=0 then(at' L q).rts r else .zz
def yiO (L:List Mp) (q r:Int):List Mp:=if yin L q r=0 then(match fnd L q with
 | some k=>L.set k ((L.getD k .zz).rts r)
 | none=>L)else L
def ansE (L:List Mp) (q k:Int) (u:Bool):Int:=match fnd L q with
 | some j=>aEnd (L.getD j .zz).r k u
 | none=>1
def ansF (L:List Mp) (q k:Int) (u:Bool):Int:=match fnd L q with
 | some j=>yhN (L.getD j .zz).p (L.getD j .zz).f (L.getD j .zz).r q k u
 | none=>0
def ansR (L:List Mp) (q k:Int) (u:Bool):Int:=match fnd L q with
 | some j=>yhA (L.getD j .zz).r k u
 | none=>0
theorem yiN {L:List Mp} {j:Nat} (hj:j<L.length):L.getD j .zz=L[j]:=by simp[List.getD,hj]
theorem fnd_some {L:List Mp} {q:Int} {k:Nat} (h:fnd L q=R k):k<L.length/\(L.getD k .zz).has q=d/\∀j,j<k->(L.getD j .zz).has q=V:=by
 obtain⟨hk,h1,h2⟩:=W.1 h;refine⟨hk,by rw[yiN hk];exact h1,fun j hj=> ?_⟩;rw[yiN (by omega)]
 simpa using h2 j hj
theorem fnd_of {L:List Mp} {q:Int} {k:Nat} (hk:k<L.length) (h1:(L.getD k .zz).has q=d) (h2:∀j,j<k->(L.getD j .zz).has q=V):fnd L q=R k:=by
 refine W.2 ⟨hk,by rw[<-yiN hk];exact h1,fun j hj=> ?_⟩;have:=h2 j hj;rw[yiN (by omega)]at this
 simpa using this
theorem fnd_no {L:List Mp} {q:Int} (h:∀j,j<L.length->(L.getD j .zz).has q=V):fnd L q=P:=by
 refine List.findIdx?_eq_none_iff.2 fun m hm=> ?_;obtain⟨j,hj,rfl⟩:=List.mem_iff_getElem.1 hm;have:=h j hj;rw[yiN hj]at this
 simpa using this
theorem ykE (m:Mp):∀L:List Mp,(ins m L).Perm (m::L)
 | []=>List.Perm.refl _
 | x::r=>by
   unfold ins;split
   ·exact List.Perm.refl _
   ·exact((ykE m r).cons x).trans (List.Perm.swap m x r)
theorem yk3 {m x:Mp} {L:List Mp}:x ∈ ins m L ↔ x=m\/x ∈ L:=by
 rw[(ykE m L).mem_iff];simp
theorem ykJ {a b:Mp} (ha:a.code=0) (h:a.meets b=V):a.p≠b.p:=by
 intro e
 have hs:0<span a.s:=by
  have:=(yhs ha).1;have:=(yhx a.s).1;omega
 unfold Mp.meets at h;rw[yjS]at h;simp only[decide_eq_false_iff_not]at h;exact h (.inl ⟨by omega,by omega⟩)
theorem ylm {m:Mp} (hm:m.code=0):∀{L:List Mp},(∀x,x ∈ L->x.code=0)->(∀x,x ∈ L->x.meets m=V)->(L.Pairwise fun a b=>a.p<b.p/\a.meets b=V)->(ins m L).Pairwise fun a b=>a.p<b.p/\a.meets b=V
 | [],_,_,_=>by simp[ins]
 | x::r,hok,hme,hp=>by
   rw[Y]at hp;have hx:=hme x (by simp);have hne:=ykJ (hok x (by simp)) hx;unfold ins;split
   ·rename_i hlt
    refine Y.2 ⟨fun y hy=> ?_,Y.2 hp⟩;rcases kT.1 hy with rfl|hy
    ·exact⟨hlt,by rw[Mp.yi2];exact hx⟩
    ·exact⟨by have:=(hp.1 y hy).1;omega,by rw[Mp.yi2];exact hme y (by simp[hy])⟩
   ·refine Y.2 ⟨fun y hy=> ?_,ylm hm (fun y hy=>hok y (by simp[hy])) (fun y hy=>hme y (by simp[hy])) hp.2⟩
    rcases yk3.1 hy with rfl|hy
    ·exact⟨by omega,hx⟩
    ·exact hp.1 y hy
theorem addC_zero {L:List Mp} {m:Mp} (h:addC L m=0):m.code=0/\∀x,x ∈ L->x.meets m=V:=by
 unfold addC at h
 by_cases hc:m.code=0
 ·refine⟨hc,fun x hx=> ?_⟩
  cases hm:x.meets m
  ·rfl
  ·have:(L.any fun x=>x.meets m)=d:=List.any_eq_true.2 ⟨x,hx,hm⟩
   simp[hc,this]at h
 ·simp[hc]at h
theorem Good.add {L:List Mp} (h:Good L) (m:Mp):Good (addL L m):=by
 unfold addL;split
 ·rename_i hc
  obtain⟨h1,h2⟩:=addC_zero hc;exact⟨fun x hx=>(yk3.1 hx).elim (fun e=>e▸h1) (h.ok x),ylm h1 h.ok h2 h.up⟩
 ·exact h
theorem Good.erase {L:List Mp} (h:Good L) (k:Nat):Good (L.eraseIdx k):=
 ⟨fun m hm=>h.ok m (List.mem_of_mem_eraseIdx hm),h.up.sublist (List.eraseIdx_sublist _ _)⟩
def hlf (L:List Mp) (m:Mp) (j:Nat):List Mp:=if ((L.take j).any fun y=>decide (m.p<y.p))=d then ins m (L.take j)else L.take j
theorem yj4 {m:Mp}:∀{L:List Mp} {k:Nat} (_:k<L.length),m.p=(L.getD k .zz).p->(L.Pairwise fun a b=>a.p<b.p)->ins m (L.eraseIdx k)=L.set k m
 | [],_,h,_,_=>by simp at h
 | x::r,0,_,hp,hu=>by
   rw[Y]at hu;simp at hp
   match r,hu with
   | [],_=>rfl
   | y::t,hu=>
     have:=hu.1 y (by simp);simp[ins];intro h;omega
 | x::r,k+1,h,hp,hu=>by
   rw[Y]at hu
   have hk:k<r.length:=by simpa using h
   have hp':m.p=(r.getD k .zz).p:=by simpa using hp
   have hm:r.getD k .zz ∈ r:=by rw[yiN hk];exact kJ _
   have h1:=hu.1 _ hm
   have hx:¬m.p<x.p:=by omega
   simp only[kS,ins,hx,if_false,List.set_cons_succ];rw[yj4 hk hp' hu.2]
theorem yjg:∀{L:List Mp} {k:Nat} (_:k<L.length),(L.Pairwise fun a b=>a.p<b.p/\a.meets b=V)->∀x,x ∈ L.eraseIdx k->x.meets (L.getD k .zz)=V
 | [],_,h,_,_,_=>by simp at h
 | y::r,0,_,hu,x,hx=>by
   rw[Y]at hu;simp at hx ⊢;rw[Mp.yi2];exact(hu.1 x hx).2
 | y::r,k+1,h,hu,x,hx=>by
   rw[Y]at hu
   have hk:k<r.length:=by simpa using h
   have hm:r.getD k .zz ∈ r:=by rw[yiN hk];exact kJ _
   have e:(y::r).getD (k+1) .zz=r.getD k .zz:=by simp
   rw[e];simp only[kS,kT]at hx;rcases hx with rfl|hx
   ·exact(hu.1 _ hm).2
   ·exact yjg hk hu.2 x hx
theorem prot_add {L:List Mp} (h:Good L) {k:Nat} (hk:k<L.length) {r:Int} (hr:below r 8=d):
 addC (L.eraseIdx k) ((L.getD k .zz).rts r)=0/\addL (L.eraseIdx k) ((L.getD k .zz).rts r)=L.set k ((L.getD k .zz).rts r):=by
 have hm:L.getD k .zz ∈ L:=by rw[yiN hk];exact kJ _
 have hok:=h.ok _ hm;have ha:=yjg hk h.up;have hi:=yj4 (m:=(L.getD k .zz).rts r) hk rfl (h.up.imp fun⟨h,_⟩=>h);clear hm;generalize L.getD k .zz=y at*;obtain⟨p,s,f,r0⟩:=y
 have hc:(Mp.mk p s f r).code=0:=by
  obtain⟨h0,h1,h2,h3,h4,_,_,h7,h8⟩:=yhs hok
  show check p s f r=0
  rw[yhQ h0 (zB.2 ⟨h1,h2⟩) (zB.2 ⟨h3,h4⟩) hr];exact if_pos ⟨h7,h8⟩
 have ha':((L.eraseIdx k).any fun x=>x.meets (Mp.mk p s f r))=V:=by
  rw[List.any_eq_false];intro x hx;have:x.meets (Mp.mk p s f r)=V:=ha x hx;simp[this]
 have e:addC (L.eraseIdx k) (Mp.mk p s f r)=0:=by simp[addC,hc,ha']
 exact⟨e,by show addL (L.eraseIdx k) (Mp.mk p s f r)=_;rw[addL,if_pos e];exact hi⟩
end Pg
end Go.Proofs.YtdphiompijbelaaGreat
namespace Go.Proofs.YtdphiompijbelaaGreat
open Go.RowKit Go.Sort
def zC (L:List Pg.Mp):List Value:=L.flatMap fun m=>[J C m.p,J C m.s,J C m.f,J C m.r]
theorem xW:∀L:List Pg.Mp,(zC L).length=L.length*4
 | []=>rfl
 | x::r=>by
   have:=xW r;simp[zC]at this ⊢;omega
theorem zZ (A B:List Pg.Mp):zC (A++B)=zC A++zC B:=by simp[zC]
theorem vK (m:Pg.Mp):zC [m]=[J C m.p,J C m.s,J C m.f,J C m.r]:=by simp[zC]
theorem ybX (A:List Pg.Mp) (m:Pg.Mp):zC (A++[m])=zC A++[J C m.p,J C m.s,J C m.f,J C m.r]:=by rw[zZ,vK]
theorem yaQ:∀(L:List Pg.Mp) (j:Nat),j<L.length->
 (zC L)[j*4]?=R (J C (L.getD j .zz).p)/\(zC L)[j*4+1]?=R (J C (L.getD j .zz).s)/\(zC L)[j*4+2]?=R (J C (L.getD j .zz).f)/\(zC L)[j*4+3]?=R (J C (L.getD j .zz).r)
 | [],j,h=>by simp at h
 | x::r,0,_=>by simp[zC]
 | x::r,j+1,h=>by
   have:=yaQ r j (by simpa using h)
   have e:∀i,(zC (x::r))[(j+1)*4+i]?=(zC r)[j*4+i]?:=by
    intro i
    have e1:zC (x::r)=[J C x.p,J C x.s,J C x.f,J C x.r]++zC r:=by simp[zC]
    rw[e1,List.getElem?_append_right (by simp;omega)]
    congr 1
    simp;omega
   have e0:=e 0;simp only[Nat.add_zero]at e0;rw[e0,e 1,e 2,e 3]
   simpa using this
def ybv (w:T) (g o:Nat) (m:Pg.Mp):Prop:=
 w.cell? ⟨g,o,P⟩=R (J C m.p)/\w.cell? ⟨g,o+1,P⟩=R (J C m.s)/\w.cell? ⟨g,o+2,P⟩=R (J C m.f)/\w.cell? ⟨g,o+3,P⟩=R (J C m.r)
def xN (w:T) (ad:Option Addr) (L:List Pg.Mp):Prop:=∀j,j<L.length->∃g,ad=R ⟨g,0,P⟩/\g<w.heap.size/\ybv w g (j*4) (L.getD j .zz)
theorem ybv.below {w w':T} {g o:Nat} {m:Pg.Mp} (h:ybv w g o m) {B:Nat} (hb:Below B w w') (hg:g<B):ybv w' g o m:=
 ⟨(hb.cell (p:=⟨g,o,P⟩) hg).trans h.1,(hb.cell (p:=⟨g,o+1,P⟩) hg).trans h.2.1,(hb.cell (p:=⟨g,o+2,P⟩) hg).trans h.2.2.1,(hb.cell (p:=⟨g,o+3,P⟩) hg).trans h.2.2.2⟩
theorem xN.below {w w':T} {ad:Option Addr} {L:List Pg.Mp} (h:xN w ad L) (hb:Below w.heap.size w w'):xN w' ad L:=by
 intro j hj;obtain⟨g,e,hg,hm⟩:=h j hj;exact⟨g,e,Nat.lt_of_lt_of_le hg hb.size,hm.below hb hg⟩
theorem zF {w:T} {base:Nat} {e:TypeId} {size n:Nat} {v:Value} {xs:List Value} (h:w.ownsRow base e size v n xs):∃ad cap,v=D ad n cap:=by
 rcases h.2 with ⟨rfl,rfl⟩|⟨g,cap,cur,rfl,_⟩
 ·exact⟨P,0,rfl⟩
 ·exact⟨_,_,rfl⟩
theorem jv {w:T} {base:Nat} {ad:Option Addr} {n cap:Nat} {L:List Pg.Mp} (h:w.ownsRow base 39 4 (D ad n cap) L.length (zC L)):xN w ad L:=by
 intro j hj;obtain⟨g,cap',e,_,hg⟩:=h.form (by omega);cases e;have hc:=yaQ L j hj;refine⟨g,rfl,hg,?_,?_,?_,?_⟩
 ·rw[h.cellAt _ (by omega)];exact hc.1
 ·rw[h.cellAt _ (by omega)];exact hc.2.1
 ·rw[h.cellAt _ (by omega)];exact hc.2.2.1
 ·rw[h.cellAt _ (by omega)];exact hc.2.2.2
theorem zc {F:Nat->Prop} {w w':T} {base:Nat} {e:TypeId} {size n:Nat} {v:Value} {xs:List Value} (h:w.ownsRow base e size v n xs) (hb:But F w w') (hF:∀k,v.ownBlock=R k->¬F k):w'.ownsRow base e size v n xs:=
 zb h fun k hk=>hb.block k (h.lt k hk).2 (hF k hk)
theorem zm {w w':T} {base:Nat} {e:TypeId} {size n:Nat} {v:Value} {xs:List Value} (h:w.ownsRow base e size v n xs) (hb:Below w.heap.size w w'):w'.ownsRow base e size v n xs:=
 zb h fun k hk=>hb.block k (h.lt k hk).2
theorem ybi {w:T} {base:Nat} {e:TypeId} {size n:Nat} {v:Value} {xs:List Value} (h:w.ownsRow base e size v n xs):w.ownsRow 0 e size v n xs:=
 ⟨h.1,h.2.imp id fun⟨g,cap,cur,a,_,r⟩=>⟨g,cap,cur,a,Nat.zero_le _,r⟩⟩
theorem ydO {wx w w3:T} {e:TypeId} {n size:Nat} {v:Value} {xs:List Value} {o:Obj} (hb:Below wx.heap.size wx w) (hr:w.ownsRow wx.heap.size e size v n xs) (hg:(w.alloc o).grownBy w3 v.ownBlock):Below wx.heap.size wx w3:=by
 have hB:But (fun j=>v.ownBlock=R j) w w3:=((But.refl _ w).alloc o).grown hg fun j hj=> .inr hj;exact hb.trans (hB.below hb.size fun k hk=>(hr.lt k hk).1)
def bkF (b:Nat) (vb:Value):Nat->Prop:=fun k=>k=b\/vb.ownBlock=R k
namespace BkAt
variable {w w':T} {b:Nat} {vb vb':Value} {L L':List Pg.Mp}
end BkAt
theorem js:(Tryz.prog.info? 39).map (fun i=>(i.zero,i.size,i.bytes))=R (R (kN #[J C 0,J C 0,J C 0,J C 0]),4,32):=by kernel_rfl
theorem qO (L:List Pg.Mp):∀u,u ∈ zC L->u.oneCell'=d:=by
 intro u hu;obtain⟨m,_,hm⟩:=List.mem_flatMap.1 hu;simp at hm
 rcases hm with rfl|rfl|rfl|rfl<;>rfl
theorem vl {F:Nat->Prop} {w w1:T} (h:But F w w1) (r:Nat) (hr:w.heap.size<=r\/F r) (x0 x1 x2 x3:Value):
 But F w ((((w1.setCell ⟨r,0,P⟩ x0).setCell ⟨r,1,P⟩ x1).setCell ⟨r,2,P⟩ x2).setCell ⟨r,3,P⟩ x3):=
 (((h.setCell (a:=⟨r,0,P⟩) hr x0).setCell (a:=⟨r,1,P⟩) hr x1).setCell (a:=⟨r,2,P⟩) hr x2).setCell (a:=⟨r,3,P⟩) hr x3
theorem zq {w w1:T} (h:Below w.heap.size w w1) (r:Nat) (hr:w.heap.size<=r) (x0 x1 x2 x3:Value):
 Below w.heap.size w ((((w1.setCell ⟨r,0,P⟩ x0).setCell ⟨r,1,P⟩ x1).setCell ⟨r,2,P⟩ x2).setCell ⟨r,3,P⟩ x3):=
 (vl (F:=fun _=>False) (But.yhf h) r (.inl hr) x0 x1 x2 x3).below (Nat.le_refl _) (fun _ h=>h.elim)
end Go.Proofs.YtdphiompijbelaaGreat
