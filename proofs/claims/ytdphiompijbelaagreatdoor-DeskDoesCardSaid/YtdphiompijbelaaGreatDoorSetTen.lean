import Derived.Test.YtdphiompijbelaaGreatDoorFrameB
set_option linter.all false
open Go renaming World->M,Calls->A,Value->kO,bodyPost_ret->kA
open Go.Proofs.Tryz renaming prog->Z
open Option renaming none->Q,some->kW
open Go.Ending renaming returned->V
open List renaming findIdx?_eq_some_iff_getElem->Y,filter_append->H
open Bool renaming false->B,true->N
open Go.Value renaming int->J,agg->U,bool->O
open Go.IntKind renaming i64->I
open Go.World renaming setCell->φ
open List renaming length->ρ
set_option maxHeartbeats 4000000
namespace Go.Proofs.YtdphiompijbelaaGreatDoor
open Go.Proofs.Tryz Pg
open Go.RowKit
variable {b g k:Int} {u w:Nat} {n:Fs} {a c d i j l:kO} {m:M}
namespace Pg
structure Wk where
 on:Bool
 q:Int
 k:Int
 u:Bool
 t:Int
 lv:Nat
 x:Int
namespace Wk
def off:Wk:=⟨B,0,0,B,0,0,0⟩
def start(h q k:Int)(u:Bool):Wk:=⟨N,q,k,u,h,3,0⟩
def again(root:Int)(K:Wk):Wk:=if K.on=N then{K with t:=root,lv:=3,x:=0}else K
def mark(K:Wk)(e:En):En:={e with u:=N,d:=e.d||K.k==1}
def ready(K:Wk)(e:En):Bool:=e.u&&(e.d||K.k !=1)
structure Ok (K:Wk):Prop where
 page:K.on=N->below K.q 4096=N
 lv:K.lv<4
 leaf:K.x≠0->0<=K.x/\K.x<18446744073709551616/\ykv K.x K.lv=0/\(En.of K.x K.lv).l=N/\may (En.of K.x K.lv).r K.k K.u=N/\ready K (En.of K.x K.lv)=B
 idle:K.on=B->K=Wk.off
def word(S:Fs)(K:Wk):Int:=S.word K.t.toNat (ix K.q K.lv)
end Wk
abbrev Wo:Type:=Int ⊕ Wk ⊕ Int ⊕ (En×Bool)
abbrev Wo.code (c:Int):Wo:= .inl c
abbrev Wo.go (K:Wk):Wo:= .inr (.inl K)
abbrev Wo.stop (r:Int):Wo:= .inr (.inr (.inl r))
abbrev Wo.done (e:En) (m:Bool):Wo:= .inr (.inr (.inr (e,m)))
def kOut(S:Fs)(h:Int)(K:Wk):Wo:=if K.on=B then .code 9 else if S.has K.t=B then .code 12 else if K.x≠0 then(if K.word S=K.x then .done (K.mark (En.of K.x K.lv)) N else .go (K.again h))else if ykv (K.word S) K.lv≠0 then .code (ykv (K.word S) K.lv)else if (En.of (K.word S) K.lv).t=B then .stop 1 else if (En.of (K.word S) K.lv).l=B then .go {K with t:=(En.of (K.word S) K.lv).f,lv:=K.lv-1}else if may (En.of (K.word S) K.lv).r K.k K.u=B then .stop 2 else if K.ready (En.of (K.word S) K.lv)=B then .go {K with x:=K.word S}else .done (En.of (K.word S) K.lv) B
structure Rs where
 ended:Bool
 a:Int
 f:Int
 r:Int
 m:Mp
 d:Bool
def Rs.zero:Rs:=⟨B,0,0,0,⟨0,0,0,0⟩,B⟩
def Rs.val(h:Rs):kO:=U #[O h.ended,J I h.a,J I h.f,J I h.r,J I h.m.p,J I h.m.s,J I h.m.f,J I h.m.r,O h.d]
namespace Wo
def cd:Wo->Int| .inl c=>c|_=>0
def ended:Wo->Bool| .inr (.inr _)=>N|_=>B
def res(K:Wk):Wo->Rs| .inl _=>Rs.zero| .inr (.inl _)=>Rs.zero| .inr (.inr (.inl r))=>⟨N,r,0,0,⟨0,0,0,0⟩,B⟩| .inr (.inr (.inr (e,_)))=>⟨N,aEnd (e.map K.lv K.q).r K.k K.u,yk4 (e.map K.lv K.q).p (e.map K.lv K.q).f (e.map K.lv K.q).r K.q K.k K.u,ykK (e.map K.lv K.q).r K.k K.u,e.map K.lv K.q,e.d⟩
def next(K:Wk):Wo->Wk| .inl _=>K| .inr (.inl K')=>K'|_=>Wk.off
def fs(S:Fs)(K:Wk):Wo->Fs| .inr (.inr (.inr (e,N)))=>S.store K.t (index K.q K.lv) (enc e.t e.l e.r e.u e.d e.f K.lv)|_=>S
end Wo
theorem ynJ(t l:Bool)(r:Int)(u d:Bool)(f k:Int):0<=enc t l r u d f k/\enc t l r u d f k<18446744073709551616:=by unfold enc;split;{rename_i h;obtain⟨_,w⟩:=ykF h;unfold ymd b01;omega};omega
theorem Wk.yms:Wk.off.Ok:=⟨λh=>(by cases h),δ,λh=>absurd rfl h,λ_=>rfl⟩
theorem Wk.ynV{root q k:Int}{u:Bool}(h:below q 4096=N):(Wk.start root q k u).Ok:=⟨λ_=>h,by show 3<4;omega,λh=>absurd rfl h,λh=>by cases h⟩
theorem Wk.Ok.again{K:Wk}(h:K.Ok)(root:Int):(K.again root).Ok:=by unfold Wk.again;split;{rename_i k;exact⟨λ_=>h.page k,by show 3<4;omega,λh=>absurd rfl h,λh=>ξ⟩};exact h
theorem yot(f:n.Ok){K:Wk}(h:K.Ok)(w:Int):((kOut n w K).next K).Ok:=by unfold kOut;split;{exact h};rename_i a;have a:K.on=N:=by{simpa using a};split;{exact h};split;{split;{exact Wk.yms};exact h.again w};rename_i e;have e:K.x=0:=by{simpa using e};split;{exact h};rename_i b;have b:ykv (K.word n) K.lv=0:=by{simpa using b};split;{exact Wk.yms};rename_i i;split;{exact⟨λ_=>h.page a,by show K.lv-1<4;have:=h.lv;omega,λh=>absurd e h,λh=>by rw[a]at h;cases h⟩};rename_i c;have c:(En.of (K.word n) K.lv).l=N:=by{simpa using c};split;{exact Wk.yms};rename_i d;have d:may (En.of (K.word n) K.lv).r K.k K.u=N:=by{simpa using d};split;{rename_i g;exact⟨λ_=>h.page a,h.lv,λ_=>⟨f.low _ _,f.high _ _,b,c,d,g⟩,λh=>by rw[a]at h;cases h⟩};exact Wk.yms
theorem kOut_fs(k:n.Ok){K:Wk}(h:Int):((kOut n h K).fs n K).Ok:=by rcases kOut n h K with c|a|r|⟨e,m⟩;{exact k};{exact k};{exact k};cases m;{exact k};have w:=ynJ e.t e.l e.r e.u e.d e.f K.lv;exact k.store _ _ w.1 w.2
end Pg
namespace Pg
structure Ln where
 m:Mp
 d:Bool
def Ln.zz:Ln:=⟨.zz,B⟩
namespace Ln
def val(l:Ln):kO:=U #[J I l.m.p,J I l.m.s,J I l.m.f,J I l.m.r,O l.d]
def has(l:Ln)(q:Int):Bool:=l.m.has q
def meets(l:Ln)(m:Mp):Bool:=l.m.meets m
end Ln
structure Kept (L:List Ln):Prop where
 ok:∀l,l ∈ L->l.m.code=0
 ap:L.Pairwise λa b=>a.m.meets b.m=B
 le:ρ L<=6
theorem Kept.nil:Kept []:=⟨λ_ h=>by simp at h,List.Pairwise.nil,ς⟩
def kFnd(L:List Ln)(q:Int):Option Nat:=L.findIdx? λl=>l.has q
def ymX(L:List Ln)(q:Int):Int:=match kFnd L q with|some k=>(k:Int)|none=> -1
def kAt(L:List Ln)(q:Int):Ln:=match kFnd L q with|some k=>L.getD k .zz|none=> .zz
def ylO(L:List Ln)(m:Mp):List Ln:=L.filter λl=> !l.meets m
def ymM(L:List Ln):List Ln:=if L.length=6 then L.drop 1 else L
def kPut(L:List Ln)(l:Ln):List Ln:=if l.m.code=0 then ymM (ylO L l.m)++[l]else L
theorem yp2{L:List Ln}(h:w<ρ L):L.getD w .zz=L[w]:=by simp[List.getD,h]
theorem ln_mem{L:List Ln}(h:w<ρ L):L.getD w .zz ∈ L:=by grind
theorem ymY{L:List Ln}(h:kFnd L b=kW w):w<ρ L/\(L.getD w .zz).has b=N/\∀j,j<w->(L.getD j .zz).has b=B:=by obtain⟨k,a,c⟩:=Y.1 h;refine⟨k,ξ,λj d=> ?_⟩;grind
theorem yoV{L:List Ln}{P:Ln->Bool}(a:w<ρ L)(h:P (L.getD w .zz)=N)(k:∀j,j<w->P (L.getD j .zz)=B):L.findIdx? P=kW w:=by grind [Y,yp2]
theorem yoU{L:List Ln}{P:Ln->Bool}(h:∀j,j<ρ L->P (L.getD j .zz)=B):L.findIdx? P=Q:=by refine List.findIdx?_eq_none_iff.2 λm k=> ?_;obtain⟨j,w,rfl⟩:=List.mem_iff_getElem.1 k;simp_all
theorem idx_of_some{L:List Ln}{P:Ln->Bool}(h:L.findIdx? P=kW w):w<ρ L/\P (L.getD w .zz)=N/\∀j,j<w->P (L.getD j .zz)=B:=by grind [Y,yp2]
theorem idx_of_none{L:List Ln}{P:Ln->Bool}(h:L.findIdx? P=Q):∀l,l ∈ L->P l=B:=by grind
def idxN(L:List Ln)(P:Ln->Bool):Int:=match L.findIdx? P with|some k=>(k:Int)|none=> -1
theorem yok{L:List Ln}(h:w<ρ L):L.take (w+1)=L.take w++[L.getD w .zz]:=by simp_all
theorem ylQ{L:List Ln}{P:Ln->Bool}(k:w<ρ L)(h:P (L.getD w .zz)=N):(L.take (w+1)).filter P=(L.take w).filter P++[L.getD w .zz]:=by rw[yok k,H];simp_all
theorem ylC{L:List Ln}{P:Ln->Bool}(k:w<ρ L)(h:P (L.getD w .zz)=B):(L.take (w+1)).filter P=(L.take w).filter P:=by rw[yok k,H];simp_all
theorem Kept.fits{L:List Ln}(h:Kept L)(k:w<ρ L):Pg.fits (L.getD w .zz).m.p:=(ymD (h.ok _ (ln_mem k))).2.2.1
theorem Kept.sub{L w:List Ln}(h:Kept L)(k:w.Sublist L):Kept w:=⟨λl a=>h.ok l (k.subset a),h.ap.sublist k,Nat.le_trans k.length_le h.le⟩
theorem Kept.drop{L:List Ln}(h:Kept L)(m:Mp):Kept (ylO L m):=h.sub List.filter_sublist
theorem Kept.tail{L:List Ln}(h:Kept L):Kept (L.drop 1):=h.sub (List.drop_sublist _ _)
theorem ym3(L:List Ln):(ymM L).Sublist L:=by grind [ymM]
theorem ymZ{L:List Ln}(h:ρ L<=6):ρ (ymM L)<=5:=by grind [ymM]
theorem yob{L:List Ln}{m:Mp}{l:Ln}(h:l ∈ ylO L m):l.m.meets m=B:=by have:=(List.mem_filter.1 h).2;simpa[Ln.meets]using this
theorem Kept.put{L:List Ln}(h:Kept L)(l:Ln):Kept (kPut L l):=by unfold kPut;split;{have w:=(h.drop l.m).sub (ym3 _);refine⟨λx k=> ?_,?_,?_⟩;{rcases List.mem_append.1 k with k|k;{exact w.ok x k};simp_all};{refine List.pairwise_append.2 ⟨w.ap,ς,λa c b d=> ?_⟩;rw[List.mem_singleton.1 d];exact yob ((ym3 _).subset c)};have:=ymZ (h.drop l.m).le;simp_all};exact h
theorem ypC{L:List Ln}{l:Ln}(h:l.m.code≠0):kPut L l=L:=by simp[kPut,h]
theorem yoY{L:List Ln}{l:Ln}(h:l.m.code=0):kPut L l=ymM (ylO L l.m)++[l]:=by simp[kPut,h]
end Pg
namespace Pg
structure Tl where
 a:Int
 f:Int
 r:Int
 ended:Bool
 c:Int
def Tl.val(T:Tl):kO:= .tuple #[U #[J I T.a,J I T.f,J I T.r],O T.ended,J I T.c]
def Tl.code(c:Int):Tl:=⟨0,0,0,B,c⟩
def Ln.ans(l:Ln)(q k:Int)(u:Bool):Tl:=⟨aEnd l.m.r k u,yk4 l.m.p l.m.f l.m.r q k u,ykK l.m.r k u,N,0⟩
def Ln.wants(l:Ln)(k:Int)(u:Bool):Bool:=k==1&&(!l.d&&may l.m.r k u)
structure Cr where
 L:List Ln
 K:Wk
namespace Cr
def new:Cr:=⟨[],Wk.off⟩
structure Ok (C:Cr):Prop where
 kept:Kept C.L
 walk:C.K.Ok
def hit(h:Cr)(q k:Int)(u:Bool):Bool:=(kFnd h.L q).isSome&& !(kAt h.L q).wants k u
def bgT(h:Cr)(q k:Int)(u:Bool):Tl:=if zK q k≠0 then .code (zK q k)else if h.K.on=N then .code 8 else if h.hit q k u=N then(kAt h.L q).ans q k u else .code 0
def bgN(h:Int)(w:Cr)(q k:Int)(u:Bool):Cr:=if zK q k=0/\w.K.on=B/\w.hit q k u=B then⟨w.L,Wk.start h q k u⟩else w
end Cr
def Wo.tl(K:Wk)(o:Wo):Tl:=⟨(o.res K).a,(o.res K).f,(o.res K).r,(o.res K).ended,o.cd⟩
def rPut(L:List Ln)(h:Rs):List Ln:=if (h.ended&&h.a==0)=N then kPut L ⟨h.m,h.d⟩else L
namespace Cr
def stT(S:Fs)(h:Int)(k:Cr):Tl:=Wo.tl k.K (kOut S h k.K)
def stN(S:Fs)(h:Int)(k:Cr):Cr:=⟨rPut k.L ((kOut S h k.K).res k.K),(kOut S h k.K).next k.K⟩
def stS(S:Fs)(h:Int)(k:Cr):Fs:=(kOut S h k.K).fs S k.K
def told(h:Int)(k:Cr)(m:Mp):Cr:=⟨ylO k.L m,k.K.again h⟩
def ylk(h:Cr):Cr:=⟨h.L.drop 1,h.K⟩
end Cr
theorem ylq(h:zK b g=0):below b 4096=N:=by grind [zK]
theorem ymT(h:zK b g=0):fits b:=by have:=zB.1 (ylq h);unfold fits;omega
theorem yo2(e:En)(h q:Int):fits (e.map h q).p:=by show fits (ynL e.t e.l e.r e.u e.d e.f h q);unfold ynL;split;{grind [below,lOk,span,fits]};unfold fits;omega
theorem yo9(K:Wk)(o:Wo):fits (o.res K).m.p:=by rcases o with c|h|r|⟨e,m⟩;{show fits 0;unfold fits;omega};{show fits 0;unfold fits;omega};{show fits 0;unfold fits;omega};exact yo2 e K.lv K.q
namespace Cr.Ok
variable {C:Cr} {S:Fs}
theorem new:Cr.new.Ok:=⟨Kept.nil,Wk.yms⟩
theorem begin(h:C.Ok)(w q k:Int)(u:Bool):(C.bgN w q k u).Ok:=by unfold Cr.bgN;split;{rename_i a;exact⟨h.kept,Wk.ynV (ylq a.1)⟩};exact h
theorem step(h:C.Ok)(w:S.Ok)(k:Int):(C.stN S k).Ok:=by refine⟨?_,yot w h.walk k⟩;show Kept (rPut _ _);unfold rPut;split;{exact h.kept.put _};exact h.kept
theorem told(h:C.Ok)(k:Int)(m:Mp):(C.told k m).Ok:=⟨h.kept.drop m,h.walk.again k⟩
theorem ylk(h:C.Ok):C.ylk.Ok:=⟨h.kept.tail,h.walk⟩
end Cr.Ok
end Pg
namespace Pg
def Wk.at'(q k:Int)(u:Bool)(t:Int)(h:Nat)(x:Int):Wk:=⟨N,q,k,u,t,h,x⟩
theorem yk5{i lv:Nat}(h:n.has b=N):yko n b i lv=ykv (n.word b.toNat i) lv/\rEn n b i lv=En.of (n.word b.toNat i) lv:=by grind [yko,rEn]
theorem yph(S:Fs)(a q k:Int)(u:Bool)(t:Int)(w:Nat):kOut S a (Wk.at' q k u t w 0)=if yko S t (ix q w) w≠0 then .code (yko S t (ix q w) w)else if (rEn S t (ix q w) w).t=B then .stop 1 else if (rEn S t (ix q w) w).l=B then .go (Wk.at' q k u (rEn S t (ix q w) w).f (w-1) 0)else if may (rEn S t (ix q w) w).r k u=B then .stop 2 else if (Wk.at' q k u t w 0).ready (rEn S t (ix q w) w)=B then .go (Wk.at' q k u t w (S.word t.toNat (ix q w)))else .done (rEn S t (ix q w) w) B:=by unfold kOut;cases h:S.has t;{simp_all[yko,ix,Wk.at']};obtain⟨b,c⟩:=yk5 (i:=ix q w) (lv:=w) h;rw[iN (show ¬S.has (Wk.at' q k u t w 0).t=B by rw[show(Wk.at' q k u t w 0).t=t from rfl,h];decide),iN (show ¬(Wk.at' q k u t w 0).x≠0 from λh=>h rfl),b,c];rfl
theorem ypB{root q k:Int}{u:Bool}(c:g≠0)(h:n.has b=N)(a:n.word b.toNat (ix q w)=g):kOut n root (Wk.at' q k u b w g)= .done ((Wk.at' q k u b w g).mark (En.of g w)) N:=by unfold kOut;rw[iN (by simp[Wk.at']),iN (show ¬n.has (Wk.at' q k u b w g).t=B by rw[show(Wk.at' q k u b w g).t=b from rfl,h];decide),iP (show(Wk.at' q k u b w g).x≠0 from c),iP (show(Wk.at' q k u b w g).word n=(Wk.at' q k u b w g).x from a)];rfl
theorem ym8{K:Wk}{e:En}(c:e.l=N)(w:e.fault b=0):(K.mark e).fault b=0/\∀q,(K.mark e).map b q=e.map b q:=by obtain⟨t,l,r,u,d,f⟩:=e;subst c;have h:=(marks N (d||K.k==1) w).2.1;refine⟨h,λq=> ?_⟩;unfold En.map ynL you ym4 ylL lOk;have a:ykk t N r u d f b=0:=w;simp only[Wk.mark,h,a]
theorem mark_same{K:Wk}{e:En}(h:K.ready e=N):K.mark e=e:=by obtain⟨t,l,r,u,d,f⟩:=e;unfold Wk.ready at h;unfold Wk.mark;grind
structure Fin where
 R:Rs
 n:Int
 c:Int
 S:Fs
 K:Wk
def fin(h:Int):Nat->Int->Fs->Wk->Fin|0,_,S,K=>⟨Rs.zero,20,-1,S,K⟩|f+1,i,S,K=>if (kOut S h K).cd≠0\/(kOut S h K).ended=N then⟨(kOut S h K).res K,i,(kOut S h K).cd,(kOut S h K).fs S K,(kOut S h K).next K⟩else fin h f (i+1) ((kOut S h K).fs S K) ((kOut S h K).next K)
theorem kst_word(x j:Nat)(h:x≠b.toNat):(n.store b g k).word x j=n.word x j:=by unfold Fs.store;split;{simp_all[Fs.put]};rfl
end Pg
theorem zE(s:Int)(w:M):A Z 98 #[J I s] w λr l=>r=V (J I (Pg.span s))/\l=w:=by by_cases a:0<=s/\s<=2;{obtain⟨y,z⟩:=a;go_enter func98,ntmps98;go_wp2;go_loop [3,4] (λn i=>∃(k m:Int),0<=k/\k<=s/\i=J I k/\n=J I m/\0<=m/\m<=64/\Hh (m=Pg.span k)) (λ_ i=>(s-intOf i).toNat);(case atStart=>exact⟨0,1,ω,ω,rfl,rfl,ω,ω,rfl⟩);case round=>obtain⟨k,m,t,u,rfl,rfl,v,x,d⟩:=hrel;by_cases p:k<s;{have c:Hh (m*8=Pg.span (k+1)):=by{have:k=0\/k=1:=ω;have e:=d.o;rcases this with rfl|rfl<;>simp[Hh,Pg.span]at* <;>omega};go_wp2;go_round;(case rel=>exact⟨k+1,m*8,ω,ω,rfl,rfl,ω,by have:=yk3 (k+1);have:=c.o;omega,c⟩);case measure=>simp[intOf];omega};go_wp2;go_ret;have:k=s:=ω;exact⟨by rw[<-this,<-d.o];rfl,rfl⟩};have b:Hh (Pg.span s=0):=by{rcases ykx s with h|h|h|h<;>simp only[Hh]<;>omega};by_cases f:s<0;{have j:decide (s<0)=N:=by{simpa using f};clear a;go_enter func98,ntmps98;go_wp2;go_ret;exact⟨by rw[b.o];rfl,rfl⟩};have j:decide (s<0)=B:=by{simpa using f};have g:2<s:=ω;have q:decide (2<s)=N:=by{simpa using g};clear a;go_enter func98,ntmps98;go_wp2;go_ret;exact⟨by rw[b.o];rfl,rfl⟩
theorem vY(p s f r:Int)(w:M):A Z 94 #[U #[J I p,J I s,J I f,J I r]] w λe j=>e=V (J I (Pg.check p s f r))/\Lw w j:=by have K:=yk3 s;by_cases q:Pg.span s=0;{have S:(Pg.span s==0)=N:=by{simpa using q};have m:=η q;go_enter func94,ntmps94;go_wp2_with (go_at_call 98;refine(zE _ _).mono ?_;rintro e j ⟨rfl,rfl⟩);go_ret;exact⟨by rw[ynq m.o];rfl,zA (zR _) _⟩};have S:(Pg.span s==0)=B:=by{simpa using q};have m:=η q;have L:1<=Pg.span s:=ω;by_cases z:(!Pg.below p 4096|| !Pg.below f 1048576|| !Pg.below r 8)=N;{have X:Hh _:=ylr m.o z;have D:(p<0)\/(0<=p/\4096<=p)\/(0<=p/\p<4096/\f<0)\/(0<=p/\p<4096/\0<=f/\1048576<=f)\/(0<=p/\p<4096/\0<=f/\f<1048576/\r<0)\/(0<=p/\p<4096/\0<=f/\f<1048576/\0<=r/\8<=r):=by{simp[Pg.below]at z;omega};rcases D with a|⟨a,b⟩|⟨a,b,c⟩|⟨a,b,c,d⟩|⟨a,b,c,d,e⟩|⟨a,b,c,d,e,g⟩;all_goals go_enter func94,ntmps94;go_wp2_with (go_at_call 98;refine(zE _ _).mono ?_;rintro e j ⟨rfl,rfl⟩);go_ret;exact⟨by rw[X.o];rfl,zA (zR _) _⟩};have v:Pg.below p 4096=N:=by{cases h:Pg.below p 4096<;>simp_all};have x:Pg.below f 1048576=N:=by{cases h:Pg.below f 1048576<;>simp_all};have y:Pg.below r 8=N:=by{cases h:Pg.below r 8<;>simp_all};have k:Hh _:=yk7 m.o v x y;obtain⟨T,p1⟩:=zB.1 v;obtain⟨F,W⟩:=zB.1 x;obtain⟨r0,r1⟩:=zB.1 y;rcases ykx s with ⟨rfl,i⟩|⟨rfl,i⟩|⟨rfl,i⟩|⟨_,_,_,i⟩;{have k:Hh (Pg.check p 0 f r=0):=by{have:=k.o;simp only[i,Int.emod_one,and_self,if_true]at this;exact this};go_enter func94,ntmps94;go_wp2_with (go_at_call 98;refine(zE _ _).mono ?_;rintro e j ⟨rfl,rfl⟩);go_quiet (fail);go_wp2;go_ret;exact⟨by rw[k.o];rfl,below_drewN (zA (zR _) _) _⟩};{by_cases l:p%8=0;{have t:(p/8*8 !=p)=B:=by{rw[bne_eq_false_iff_eq];omega};by_cases n:f%8=0;{have k:Hh (Pg.check p 1 f r=0):=by{have:=k.o;simp only[i,l,n,and_self,if_true]at this;exact this};have u:(f/8*8 !=f)=B:=by{rw[bne_eq_false_iff_eq];omega};go_enter func94,ntmps94;go_wp2_with (go_at_call 98;refine(zE _ _).mono ?_;rintro e j ⟨rfl,rfl⟩);go_quiet (fail);go_wp2;go_ret;exact⟨by rw[k.o];rfl,below_drewN (zA (zR _) _) _⟩};have k:Hh (Pg.check p 1 f r=3):=by{have:=k.o;simp only[i,l,n,and_false,if_false]at this;exact this};have u:(f/8*8 !=f)=N:=by{rw[bne_iff_ne];omega};go_enter func94,ntmps94;go_wp2_with (go_at_call 98;refine(zE _ _).mono ?_;rintro e j ⟨rfl,rfl⟩);go_quiet (fail);go_wp2;go_ret;exact⟨by rw[k.o];rfl,below_drewN (zA (zR _) _) _⟩};have k:Hh (Pg.check p 1 f r=3):=by{have:=k.o;simp only[i,l,false_and,if_false]at this;exact this};have t:(p/8*8 !=p)=N:=by{rw[bne_iff_ne];omega};go_enter func94,ntmps94;go_wp2_with (go_at_call 98;refine(zE _ _).mono ?_;rintro e j ⟨rfl,rfl⟩);go_quiet (fail);go_wp2;go_ret;exact⟨by rw[k.o];rfl,below_drewN (zA (zR _) _) _⟩};{by_cases l:p%64=0;{have t:(p/64*64 !=p)=B:=by{rw[bne_eq_false_iff_eq];omega};by_cases n:f%64=0;{have k:Hh (Pg.check p 2 f r=0):=by{have:=k.o;simp only[i,l,n,and_self,if_true]at this;exact this};have u:(f/64*64 !=f)=B:=by{rw[bne_eq_false_iff_eq];omega};go_enter func94,ntmps94;go_wp2_with (go_at_call 98;refine(zE _ _).mono ?_;rintro e j ⟨rfl,rfl⟩);go_quiet (fail);go_wp2;go_ret;exact⟨by rw[k.o];rfl,below_drewN (zA (zR _) _) _⟩};have k:Hh (Pg.check p 2 f r=3):=by{have:=k.o;simp only[i,l,n,and_false,if_false]at this;exact this};have u:(f/64*64 !=f)=N:=by{rw[bne_iff_ne];omega};go_enter func94,ntmps94;go_wp2_with (go_at_call 98;refine(zE _ _).mono ?_;rintro e j ⟨rfl,rfl⟩);go_quiet (fail);go_wp2;go_ret;exact⟨by rw[k.o];rfl,below_drewN (zA (zR _) _) _⟩};have k:Hh (Pg.check p 2 f r=3):=by{have:=k.o;simp only[i,l,false_and,if_false]at this;exact this};have t:(p/64*64 !=p)=N:=by{rw[bne_iff_ne];omega};go_enter func94,ntmps94;go_wp2_with (go_at_call 98;refine(zE _ _).mono ?_;rintro e j ⟨rfl,rfl⟩);go_quiet (fail);go_wp2;go_ret;exact⟨by rw[k.o];rfl,below_drewN (zA (zR _) _) _⟩};exact absurd i m.o
theorem jv(p s f r q:Int)(j:Pg.fits p)(l:Pg.fits q)(w:M):A Z 123 #[U #[J I p,J I s,J I f,J I r],J I q] w λe c=>e=V (O (Pg.over p s q))/\Lw w c:=by have t:=yk3 s;unfold Pg.fits at j l;by_cases h:q<p;{have b:Hh (Pg.over p s q=B):=by{simp[Hh,Pg.over];omega};go_enter func123,ntmps123;go_wp2_with (go_at_call 98;refine(zE _ _).mono ?_;rintro e c ⟨rfl,rfl⟩);go_ret;exact⟨by rw[b.o];rfl,zA (zR _) _⟩};go_enter func123,ntmps123;go_wp2_with (go_at_call 98;refine(zE _ _).mono ?_;rintro e c ⟨rfl,rfl⟩);go_loop [1,6] (λa i=>∃k:Int,0<=k/\k<=Pg.span s/\k<=q-p/\i=J I k/\a=J I (q-k)) (λ_ i=>(Pg.span s-intOf i).toNat);(case atStart=>exact⟨0,ω,ω,ω,rfl,ς⟩);case round=>obtain⟨k,u,v,x,rfl,rfl⟩:=hrel;by_cases m:k<Pg.span s;{by_cases d:q-k=p;{have g:(q-k==p)=N:=by{simpa using d};have b:Hh (Pg.over p s q=N):=by{simp[Hh,Pg.over];omega};go_wp2;go_ret;exact⟨by rw[b.o];rfl,zA (zR _) _⟩};have g:(q-k==p)=B:=by{simpa using d};have n:(q-k== -9223372036854775808)=B:=χ;go_wp2;go_round;(case rel=>exact⟨k+1,ω,ω,ω,rfl,by congr 1;omega⟩);case measure=>simp[intOf];omega};have b:Hh (Pg.over p s q=B):=by{simp[Hh,Pg.over];omega};go_wp2;go_ret;exact⟨by rw[b.o];rfl,zA (zR _) _⟩
theorem yg7(p s f r k a j l:Int)(d:Pg.fits p)(g:Pg.fits k)(w:M):A Z 125 #[U #[J I p,J I s,J I f,J I r],U #[J I k,J I a,J I j,J I l]] w λe m=>e=V (O (Pg.meet p s k a))/\Lw w m:=by cases h:Pg.over p s k;{have c:Hh (Pg.meet p s k a=Pg.over k a p):=by{simp[Hh,Pg.meet,h]};go_enter func125,ntmps125;go_wp2_with fail;refine(jv _ _ _ _ _ d g _).mono ?_;rintro e n ⟨rfl,b⟩;obtain⟨t,q⟩:=qi b;go_wp2_with fail;refine(jv _ _ _ _ _ g d _).mono ?_;rintro e u ⟨rfl,i⟩;go_wp2;go_ret;exact⟨by rw[c.o];rfl,zT (zT (zA (zA (zR _) _) _) b) i⟩};have c:Hh (Pg.meet p s k a=N):=by{simp[Hh,Pg.meet,h]};go_enter func125,ntmps125;go_wp2_with fail;refine(jv _ _ _ _ _ d g _).mono ?_;rintro e n ⟨rfl,b⟩;go_wp2;go_ret;exact⟨by rw[c.o];rfl,zT (zA (zA (zR _) _) _) b⟩
theorem yal(r p k:Int)(u:Bool)(w:M):A Z 92 #[J I r,U #[J I p,J I k,O u]] w λe j=>e=V (O (Pg.may r k u))/\Lw w j:=by have m:bits .and I r 1=((r8 r&&&1:Nat):Int):=yl3 r 1 δ;have n:bits .and I r 2=((r8 r&&&2:Nat):Int):=yl3 r 2 δ;have q:bits .and I r 4=((r8 r&&&4:Nat):Int):=yl3 r 4 δ;have l:=r8_lt r;have f:Pg.may r k u=((r8 r&&&Pg.asks k u)==Pg.asks k u):=rfl;generalize r8 r=x at*;have d:=η f;clear f;by_cases h:k=1;{have i:(k==1)=N:=by{simpa using h};have g:(k==2)=B:=χ;have b:Hh (Pg.asks k u=if u=N then 3 else 1):=by{subst h;cases u<;>rfl};clear h;have c:x=0\/x=1\/x=2\/x=3\/x=4\/x=5\/x=6\/x=7:=ω;rcases c with rfl|rfl|rfl|rfl|rfl|rfl|rfl|rfl<;>cases u;all_goals go_enter func92,ntmps92;go_wp2;go_ret;exact⟨by rw[d.o,b.o];rfl,zA (zR _) _⟩};have i:(k==1)=B:=by{simpa using h};have c:x=0\/x=1\/x=2\/x=3\/x=4\/x=5\/x=6\/x=7:=ω;by_cases a:k=2;{have g:(k==2)=N:=by{simpa using a};have b:Hh (Pg.asks k u=if u=N then 6 else 4):=by{subst a;cases u<;>rfl};clear h a;rcases c with rfl|rfl|rfl|rfl|rfl|rfl|rfl|rfl<;>cases u;all_goals go_enter func92,ntmps92;go_wp2;go_ret;exact⟨by rw[d.o,b.o];rfl,zA (zR _) _⟩};have g:(k==2)=B:=by{simpa using a};have b:Hh (Pg.asks k u=if u=N then 2 else 0):=by{cases u<;>simp[Hh,Pg.asks,h,a]};clear h a;rcases c with rfl|rfl|rfl|rfl|rfl|rfl|rfl|rfl<;>cases u;all_goals go_enter func92,ntmps92;go_wp2;go_ret;exact⟨by rw[d.o,b.o];rfl,zA (zR _) _⟩
theorem yar(p k:Int)(u:Bool)(w:M):A Z 84 #[U #[J I p,J I k,O u]] w λe m=>e=V (J I (zK p k))/\Lw w m:=by by_cases f:0<=p/\p<4096;{have c:Hh _:=zB.2 f;obtain⟨n,q⟩:=f;by_cases d:k=0\/k=1\/k=2;{have h:Hh (Pg.isKind k=N):=by{simp[Hh,Pg.isKind];omega};rcases d with rfl|rfl|rfl;all_goals go_enter func84,ntmps84;go_wp2;go_ret;exact⟨by simp[zK,h.o,c.o],zA (zR _) _⟩};have h:Hh (Pg.isKind k=B):=by{simp[Hh,Pg.isKind];omega};have g:(k !=0)=N:=by{rw[bne_iff_ne];omega};have i:(k !=1)=N:=by{rw[bne_iff_ne];omega};have j:(k !=2)=N:=by{rw[bne_iff_ne];omega};go_enter func84,ntmps84;go_wp2;go_ret;exact⟨by simp[zK,h.o],zA (zR _) _⟩};have c:Hh (Pg.below p 4096=B):=by{simp[Hh,Pg.below];omega};by_cases d:k=0\/k=1\/k=2;{have h:Hh (Pg.isKind k=N):=by{simp[Hh,Pg.isKind];omega};have l:p<0\/(0<=p/\4096<=p):=ω;rcases d with rfl|rfl|rfl<;>rcases l with a|⟨a,b⟩;all_goals go_enter func84,ntmps84;go_wp2;go_ret;exact⟨by simp[zK,h.o,c.o],zA (zR _) _⟩};have h:Hh (Pg.isKind k=B):=by{simp[Hh,Pg.isKind];omega};have g:(k !=0)=N:=by{rw[bne_iff_ne];omega};have i:(k !=1)=N:=by{rw[bne_iff_ne];omega};have j:(k !=2)=N:=by{rw[bne_iff_ne];omega};go_enter func84,ntmps84;go_wp2;go_ret;exact⟨by simp[zK,h.o],zA (zR _) _⟩
theorem ybV(p s f r q k:Int)(u:Bool)(w:M):A Z 86 #[U #[J I p,J I s,J I f,J I r],U #[J I q,J I k,O u]] w λe d=>e=V (if Pg.may r k u=N then U #[J I 0,J I (wrap64 (f+wrap64 (q-p))),J I r]else U #[J I 2,J I 0,J I 0])/\Lw w d:=by cases h:Pg.may r k u;{go_enter func86,ntmps86;go_wp2_with fail;refine(yal _ _ _ _ _).mono ?_;rintro e g ⟨rfl,a⟩;obtain⟨b,c⟩:=qi a;go_wp2;refine kA (v:=U #[J I 2,J I 0,J I 0]) ?_ rfl ⟨ς,?_⟩;{simp[results,results86,go_sem,b]};exact(((zT (zA (zA (zA (zR _) _) _) _) a).setCell χ _).setCell χ _).setCell χ _};go_enter func86,ntmps86;go_wp2_with fail;refine(yal _ _ _ _ _).mono ?_;rintro e g ⟨rfl,a⟩;obtain⟨b,c⟩:=qi a;go_wp2;refine kA (v:=U #[J I 0,J I (wrap64 (f+wrap64 (q-p))),J I r]) ?_ rfl ⟨ς,?_⟩;{simp[results,results86,go_sem,b]};exact(((zT (zA (zA (zA (zR _) _) _) _) a).setCell χ _).setCell χ _).setCell χ _
theorem vS(p s f r q k:Int)(u:Bool)(w:M):A Z 86 #[U #[J I p,J I s,J I f,J I r],U #[J I q,J I k,O u]] w λe h=>e=V (U #[J I (aEnd r k u),J I (yk4 p f r q k u),J I (ykK r k u)])/\Lw w h:=by refine(ybV p s f r q k u w).mono ?_;rintro e h ⟨rfl,a⟩;refine⟨?_,a⟩;unfold aEnd yk4 ykK;split<;>rfl
theorem xh(p l:Int)(w:M):A Z 89 #[J I p,J I l] w λe x=>e=V (J I (Pg.index p l))/\Lw w x:=by by_cases h:(0<=p/\p<4096)/\0<=l/\l<4;{obtain⟨⟨u,v⟩,y,z⟩:=h;have n:l=0\/l=1\/l=2\/l=3:=ω;obtain⟨q,r,s,t⟩:=index_at u v;have f:=η q;have g:=η r;have i:=η s;have j:=η t;rcases n with rfl|rfl|rfl|rfl;{go_enter func89,ntmps89;go_wp2;go_ret;exact⟨by rw[f.o];rfl,zA (zR _) _⟩};{go_enter func89,ntmps89;go_wp2;go_ret;exact⟨by rw[g.o];rfl,zA (zR _) _⟩};{go_enter func89,ntmps89;go_wp2;go_ret;exact⟨by rw[i.o];rfl,zA (zR _) _⟩};go_enter func89,ntmps89;go_wp2;go_ret;exact⟨by rw[j.o];rfl,zA (zR _) _⟩};have k:Hh (Pg.index p l= -1):=by{have:(Pg.below p 4096&&Pg.below l 4)=B:=by{cases h1:Pg.below p 4096;{rfl};cases h2:Pg.below l 4;{rfl};exact absurd ⟨zB.1 h1,zB.1 h2⟩ h};simp[Hh,Pg.index,this]};have m:p<0\/(0<=p/\4096<=p)\/(0<=p/\p<4096/\l<0)\/(0<=p/\p<4096/\0<=l/\4<=l):=ω;rcases m with a|⟨a,b⟩|⟨a,b,c⟩|⟨a,b,c,d⟩;all_goals go_enter func89,ntmps89;go_wp2;go_ret;exact⟨by rw[k.o];rfl,zR _⟩
theorem yje{t:TypeId}(h:m.heap[w]?=kW (.cells #[l,i,j,a] t (0,0)))(k b c d:kO):(φ (φ (φ (φ m ⟨w,0,Q⟩ k) ⟨w,1,Q⟩ b) ⟨w,2,Q⟩ c) ⟨w,3,Q⟩ d).heap[w]?=kW (.cells #[k,b,c,d] t (0,0)):=by have e:=heap_setCell_same _ w 0 _ t k h;have f:=heap_setCell_same _ w 1 _ t b e;have g:=heap_setCell_same _ w 2 _ t c f;exact heap_setCell_same _ w 3 _ t d g
theorem yhE{t:TypeId}(h:m.heap[w]?=kW (.cells #[l,i,j,a,c,d] t (0,0)))(k b e f g n:kO):(φ (φ (φ (φ (φ (φ m ⟨w,0,Q⟩ k) ⟨w,1,Q⟩ b) ⟨w,2,Q⟩ e) ⟨w,3,Q⟩ f) ⟨w,4,Q⟩ g) ⟨w,5,Q⟩ n).heap[w]?=kW (.cells #[k,b,e,f,g,n] t (0,0)):=by have o:=heap_setCell_same _ w 0 _ t k h;have p:=heap_setCell_same _ w 1 _ t b o;have q:=heap_setCell_same _ w 2 _ t e p;have r:=heap_setCell_same _ w 3 _ t f q;have s:=heap_setCell_same _ w 4 _ t g r;exact heap_setCell_same _ w 5 _ t n s
theorem yjf(h:u≠w)(k a b c:kO):(φ (φ (φ (φ m ⟨w,0,Q⟩ k) ⟨w,1,Q⟩ a) ⟨w,2,Q⟩ b) ⟨w,3,Q⟩ c).heap[u]?=m.heap[u]?:=by simp only[heap_setCell_other _ _ _ _ (show u≠(⟨w,_,Q⟩:Addr).block from h)]
theorem yir(h:u≠w)(k a b c d e:kO):(φ (φ (φ (φ (φ (φ m ⟨w,0,Q⟩ k) ⟨w,1,Q⟩ a) ⟨w,2,Q⟩ b) ⟨w,3,Q⟩ c) ⟨w,4,Q⟩ d) ⟨w,5,Q⟩ e).heap[u]?=m.heap[u]?:=by simp only[heap_setCell_other _ _ _ _ (show u≠(⟨w,_,Q⟩:Addr).block from h)]
end Go.Proofs.YtdphiompijbelaaGreatDoor
