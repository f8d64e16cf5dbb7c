import Derived.Test.YtkhnelgommaioaaGreatHeap
namespace Go.Proofs.YtkhnelgommaioaaGreat
open Go.RowKit
namespace Pg
structure Mp where
 p:Int
 s:Int
 f:Int
 r:Int
def Mp.zz:Mp:=⟨0,0,0,0⟩
namespace Mp
def code (m:Mp):Int:=check m.p m.s m.f m.r
def has (m:Mp) (q:Int):Bool:=over m.p m.s q
def meets (a b:Mp):Bool:=meet a.p a.s b.p b.s
def rts (m:Mp) (r:Int):Mp:=⟨m.p,m.s,m.f,r⟩
def val (m:Mp):Value:= .agg #[.int .i64 m.p,.int .i64 m.s,.int .i64 m.f,.int .i64 m.r]
theorem meets_comm (a b:Mp):a.meets b=b.meets a:=by simp[meets,meet,Bool.or_comm]
end Mp
structure Good (L:List Mp):Prop where
 ok:∀m,m ∈ L->m.code=0
 up:L.Pairwise fun a b=>a.p<b.p/\a.meets b=false
theorem ok_fits {m:Mp} (h:m.code=0):0<=m.p/\m.p<4096/\fits m.p/\fits m.s/\fits m.f/\fits m.r:=by
 obtain⟨h0,h1,h2,h3,h4,h5,h6,_,_⟩:=check_zero h
 have hs:m.s=0\/m.s=1\/m.s=2:=by
  rcases span_cases m.s with ⟨e,_⟩|⟨e,_⟩|⟨e,_⟩|⟨_,_,_,e⟩
  ·exact .inl e
  ·exact .inr (.inl e)
  ·exact .inr (.inr e)
  ·exact absurd e h0
 refine⟨h1,h2,?_,?_,?_,?_⟩<;>unfold fits<;>omega
theorem rise_len:∀(L:List Mp) (a:Int),(∀m,m ∈ L->a<=m.p)->(L.Pairwise fun x y=>x.p<y.p)->(∀m,m ∈ L->m.p<4096)->(L.length:Int)<=max 0 (4096-a)
 | [],_,_,_,_=>by simp;omega
 | x::r,a,h,hp,hl=>by
   rw[List.pairwise_cons]at hp
   have h1:=h x (by simp)
   have h2:=hl x (by simp)
   have:=rise_len r (x.p+1) (fun m hm=>by have:=hp.1 m hm;omega) hp.2 (fun m hm=>hl m (by simp[hm]))
   simp only[List.length_cons]
   omega
theorem Good.len {L:List Mp} (h:Good L):L.length<=4096:=by
 have:=rise_len L 0 (fun m hm=>(ok_fits (h.ok m hm)).1) (h.up.imp fun⟨h,_⟩=>h) (fun m hm=>(ok_fits (h.ok m hm)).2.1)
 omega
theorem Good.nil:Good []:=⟨fun _ h=>by simp at h,List.Pairwise.nil⟩
def fnd (L:List Mp) (q:Int):Option Nat:=L.findIdx? fun m=>m.has q
def fndN (L:List Mp) (q:Int):Int:=match fnd L q with
 | some k=>(k:Int)
 | none=> -1
def ins (m:Mp):List Mp->List Mp
 | []=>[m]
 | x::r=>if m.p<x.p then m::x::r else x::ins m r
def addC (L:List Mp) (m:Mp):Int:=if m.code≠0 then m.code else if (L.any fun x=>x.meets m)=true then 4 else 0
def addL (L:List Mp) (m:Mp):List Mp:=if addC L m=0 then ins m L else L
def dropC (L:List Mp) (q:Int):Int:=if below q 4096=true then(if fnd L q=none then 5 else 0)else 1
def at' (L:List Mp) (q:Int):Mp:=match fnd L q with
 | some k=>L.getD k .zz
 | none=> .zz
def dropM (L:List Mp) (q:Int):Mp:=if dropC L q=0 then at' L q else .zz
def dropL (L:List Mp) (q:Int):List Mp:=if dropC L q=0 then(match fnd L q with
 | some k=>L.eraseIdx k
 | none=>L)else L
def protC (L:List Mp) (q r:Int):Int:=if below r 8=true then dropC L q else 1
def protM (L:List Mp) (q r:Int):Mp:=if protC L q r=0 then(at' L q).rts r else .zz
def protL (L:List Mp) (q r:Int):List Mp:=if protC L q r=0 then(match fnd L q with
 | some k=>L.set k ((L.getD k .zz).rts r)
 | none=>L)else L
def ansE (L:List Mp) (q k:Int) (u:Bool):Int:=match fnd L q with
 | some j=>aEnd (L.getD j .zz).r k u
 | none=>1
def ansF (L:List Mp) (q k:Int) (u:Bool):Int:=match fnd L q with
 | some j=>aFrame (L.getD j .zz).p (L.getD j .zz).f (L.getD j .zz).r q k u
 | none=>0
def ansR (L:List Mp) (q k:Int) (u:Bool):Int:=match fnd L q with
 | some j=>aRights (L.getD j .zz).r k u
 | none=>0
theorem mp_at {L:List Mp} {j:Nat} (hj:j<L.length):L.getD j .zz=L[j]:=by simp[List.getD,hj]
theorem fnd_some {L:List Mp} {q:Int} {k:Nat} (h:fnd L q=some k):k<L.length/\(L.getD k .zz).has q=true/\∀j,j<k->(L.getD j .zz).has q=false:=by
 obtain⟨hk,h1,h2⟩:=List.findIdx?_eq_some_iff_getElem.1 h
 refine⟨hk,by rw[mp_at hk];exact h1,fun j hj=> ?_⟩
 rw[mp_at (by omega)]
 simpa using h2 j hj
theorem fnd_of {L:List Mp} {q:Int} {k:Nat} (hk:k<L.length) (h1:(L.getD k .zz).has q=true) (h2:∀j,j<k->(L.getD j .zz).has q=false):fnd L q=some k:=by
 refine List.findIdx?_eq_some_iff_getElem.2 ⟨hk,by rw[<-mp_at hk];exact h1,fun j hj=> ?_⟩
 have:=h2 j hj
 rw[mp_at (by omega)]at this
 simpa using this
theorem fnd_no {L:List Mp} {q:Int} (h:∀j,j<L.length->(L.getD j .zz).has q=false):fnd L q=none:=by
 refine List.findIdx?_eq_none_iff.2 fun m hm=> ?_
 obtain⟨j,hj,rfl⟩:=List.mem_iff_getElem.1 hm
 have:=h j hj
 rw[mp_at hj]at this
 simpa using this
theorem ins_perm (m:Mp):∀L:List Mp,(ins m L).Perm (m::L)
 | []=>List.Perm.refl _
 | x::r=>by
   unfold ins
   split
   ·exact List.Perm.refl _
   ·exact((ins_perm m r).cons x).trans (List.Perm.swap m x r)
theorem ins_mem {m x:Mp} {L:List Mp}:x ∈ ins m L ↔ x=m\/x ∈ L:=by
 rw[(ins_perm m L).mem_iff]
 simp
theorem meets_ne {a b:Mp} (ha:a.code=0) (h:a.meets b=false):a.p≠b.p:=by
 intro e
 have hs:0<span a.s:=by
  have:=(check_zero ha).1
  have:=(span_bd a.s).1
  omega
 unfold Mp.meets at h
 rw[meet_eq]at h
 simp only[decide_eq_false_iff_not]at h
 exact h (.inl ⟨by omega,by omega⟩)
theorem ins_up {m:Mp} (hm:m.code=0):∀{L:List Mp},(∀x,x ∈ L->x.code=0)->(∀x,x ∈ L->x.meets m=false)->(L.Pairwise fun a b=>a.p<b.p/\a.meets b=false)->(ins m L).Pairwise fun a b=>a.p<b.p/\a.meets b=false
 | [],_,_,_=>by simp[ins]
 | x::r,hok,hme,hp=>by
   rw[List.pairwise_cons]at hp
   have hx:=hme x (by simp)
   have hne:=meets_ne (hok x (by simp)) hx
   unfold ins
   split
   ·rename_i hlt
    refine List.pairwise_cons.2 ⟨fun y hy=> ?_,List.pairwise_cons.2 hp⟩
    rcases List.mem_cons.1 hy with rfl|hy
    ·exact⟨hlt,by rw[Mp.meets_comm];exact hx⟩
    ·exact⟨by have:=(hp.1 y hy).1;omega,by rw[Mp.meets_comm];exact hme y (by simp[hy])⟩
   ·refine List.pairwise_cons.2 ⟨fun y hy=> ?_,ins_up hm (fun y hy=>hok y (by simp[hy])) (fun y hy=>hme y (by simp[hy])) hp.2⟩
    rcases ins_mem.1 hy with rfl|hy
    ·exact⟨by omega,hx⟩
    ·exact hp.1 y hy
theorem addC_zero {L:List Mp} {m:Mp} (h:addC L m=0):m.code=0/\∀x,x ∈ L->x.meets m=false:=by
 unfold addC at h
 by_cases hc:m.code=0
 ·refine⟨hc,fun x hx=> ?_⟩
  cases hm:x.meets m
  ·rfl
  ·have:(L.any fun x=>x.meets m)=true:=List.any_eq_true.2 ⟨x,hx,hm⟩
   simp[hc,this]at h
 ·simp[hc]at h
theorem Good.add {L:List Mp} (h:Good L) (m:Mp):Good (addL L m):=by
 unfold addL
 split
 ·rename_i hc
  obtain⟨h1,h2⟩:=addC_zero hc
  exact⟨fun x hx=>(ins_mem.1 hx).elim (fun e=>e▸h1) (h.ok x),ins_up h1 h.ok h2 h.up⟩
 ·exact h
theorem Good.erase {L:List Mp} (h:Good L) (k:Nat):Good (L.eraseIdx k):=
 ⟨fun m hm=>h.ok m (List.mem_of_mem_eraseIdx hm),h.up.sublist (List.eraseIdx_sublist _ _)⟩
def hlf (L:List Mp) (m:Mp) (j:Nat):List Mp:=if ((L.take j).any fun y=>decide (m.p<y.p))=true then ins m (L.take j)else L.take j
theorem ins_erase {m:Mp}:∀{L:List Mp} {k:Nat} (_:k<L.length),m.p=(L.getD k .zz).p->(L.Pairwise fun a b=>a.p<b.p)->ins m (L.eraseIdx k)=L.set k m
 | [],_,h,_,_=>by simp at h
 | x::r,0,_,hp,hu=>by
   rw[List.pairwise_cons]at hu
   simp at hp
   match r,hu with
   | [],_=>rfl
   | y::t,hu=>
     have:=hu.1 y (by simp)
     simp[ins]
     intro h
     omega
 | x::r,k+1,h,hp,hu=>by
   rw[List.pairwise_cons]at hu
   have hk:k<r.length:=by simpa using h
   have hp':m.p=(r.getD k .zz).p:=by simpa using hp
   have hm:r.getD k .zz ∈ r:=by rw[mp_at hk];exact List.getElem_mem _
   have h1:=hu.1 _ hm
   have hx:¬m.p<x.p:=by omega
   simp only[List.eraseIdx_cons_succ,ins,hx,if_false,List.set_cons_succ]
   rw[ins_erase hk hp' hu.2]
theorem erase_apart:∀{L:List Mp} {k:Nat} (_:k<L.length),(L.Pairwise fun a b=>a.p<b.p/\a.meets b=false)->∀x,x ∈ L.eraseIdx k->x.meets (L.getD k .zz)=false
 | [],_,h,_,_,_=>by simp at h
 | y::r,0,_,hu,x,hx=>by
   rw[List.pairwise_cons]at hu
   simp at hx ⊢
   rw[Mp.meets_comm]
   exact(hu.1 x hx).2
 | y::r,k+1,h,hu,x,hx=>by
   rw[List.pairwise_cons]at hu
   have hk:k<r.length:=by simpa using h
   have hm:r.getD k .zz ∈ r:=by rw[mp_at hk];exact List.getElem_mem _
   have e:(y::r).getD (k+1) .zz=r.getD k .zz:=by simp
   rw[e]
   simp only[List.eraseIdx_cons_succ,List.mem_cons]at hx
   rcases hx with rfl|hx
   ·exact(hu.1 _ hm).2
   ·exact erase_apart hk hu.2 x hx
theorem prot_add {L:List Mp} (h:Good L) {k:Nat} (hk:k<L.length) {r:Int} (hr:below r 8=true):
 addC (L.eraseIdx k) ((L.getD k .zz).rts r)=0/\addL (L.eraseIdx k) ((L.getD k .zz).rts r)=L.set k ((L.getD k .zz).rts r):=by
 have hm:L.getD k .zz ∈ L:=by rw[mp_at hk];exact List.getElem_mem _
 have hok:=h.ok _ hm
 have ha:=erase_apart hk h.up
 have hi:=ins_erase (m:=(L.getD k .zz).rts r) hk rfl (h.up.imp fun⟨h,_⟩=>h)
 clear hm
 generalize L.getD k .zz=y at*
 obtain⟨p,s,f,r0⟩:=y
 have hc:(Mp.mk p s f r).code=0:=by
  obtain⟨h0,h1,h2,h3,h4,_,_,h7,h8⟩:=check_zero hok
  show check p s f r=0
  rw[check_align h0 (zB.2 ⟨h1,h2⟩) (zB.2 ⟨h3,h4⟩) hr]
  exact if_pos ⟨h7,h8⟩
 have ha':((L.eraseIdx k).any fun x=>x.meets (Mp.mk p s f r))=false:=by
  rw[List.any_eq_false]
  intro x hx
  have:x.meets (Mp.mk p s f r)=false:=ha x hx
  simp[this]
 have e:addC (L.eraseIdx k) (Mp.mk p s f r)=0:=by simp[addC,hc,ha']
 exact⟨e,by show addL (L.eraseIdx k) (Mp.mk p s f r)=_;rw[addL,if_pos e];exact hi⟩
end Pg
end Go.Proofs.YtkhnelgommaioaaGreat
