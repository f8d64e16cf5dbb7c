import Derived.Test.YtdphiompijbelaaGreatDoorDkT
import Derived.Test.YtdphiompijbelaaGreatDoorRkC
import Derived.Deep.Strs
import Derived.Stop.LaidErr
import Derived.Lib.LaidTab
import Derived.MakeChecks
import Derived.SizedLaws
set_option linter.all false
set_option maxRecDepth 100000
open Go.World renaming heap->M
open Nat renaming lt_of_lt_of_le->uv,le_refl->us,le_trans->yB,le_of_eq->yT,zero_le->yV
open List renaming length_cons->ki,length_append->ks,take_zero->kh,getD_cons_zero->uD,getD_cons_succ->un,getElem?_eq_getElem->ud,mem_cons_of_mem->ua,mem_append_left->ue,take_succ_cons->yI,drop_succ_cons->yJ,take_length->yS,drop_zero->yC,mem_range->yN,mem_map->yF
open Go.Ending renaming returned->kO
open Bool renaming true->O,false->kW
open Go renaming heap_alloc_new->U,World->kp,bodyPost_ret->km,Calls->uK,cell_regrown->yY
open Go.Proofs.Tryz renaming prog->Q
open Go.Obj renaming cells->V
open Go.IntKind renaming i64->Y
open Go.Value renaming int->N,pointer->Z,slice->kA,bool->ur,tuple->uc,slice->yP,ownBlock->yR,cells->yQ
open Array renaming getElem?_eq_some_iff->P,size->A
open Option renaming some->I,none->J
open Go.World renaming cell?->ψ,setCell->φ,frozen?->υ
open List renaming length->ρ
set_option maxHeartbeats 4000000
namespace Go.Proofs.YtdphiompijbelaaGreatDoor
open Go.Proofs.Tryz Pg
open Go.RowKit Go.Sort
variable {a i j l:Int} {w:List (List UInt8)} {m n:List UInt8} {c d:Nat} {b g k:kp}
namespace Pg
def ymq(o:Option Dk)(l:List UInt8):Option Dk×List UInt8:=match ykq [] l with| []=>(o,[])|wd::ws=>match ykw ws with|none=>(o,yln)|some h=>if cntR wd=ρ h/\(wd=[110,101,119]\/o.isSome=O)then((askD o wd h).1,(askD o wd h).2.1)else(o,yln)
theorem ok_list(o:Option Dk)(h:List Int):if cntR [108,105,115,116]=ρ h/\(([108,105,115,116]:List UInt8)=[110,101,119]\/o.isSome=O)then(askD o [108,105,115,116] h).2.2=O else askD o [108,105,115,116] h=(o,[],kW):=by cases o<;>rcases h with _|⟨a,_|⟨b,_|⟨c,_|⟨d,_|⟨e,r⟩⟩⟩⟩⟩<;>simp[askD,Dk.stp,ykz,cntR,ykt,cntL,cntN]<;>omega
theorem ok_calm(o:Option Dk)(h:List Int):if cntR [99,97,108,109]=ρ h/\(([99,97,108,109]:List UInt8)=[110,101,119]\/o.isSome=O)then(askD o [99,97,108,109] h).2.2=O else askD o [99,97,108,109] h=(o,[],kW):=by cases o<;>rcases h with _|⟨a,_|⟨b,_|⟨c,_|⟨d,_|⟨e,r⟩⟩⟩⟩⟩<;>simp[askD,Dk.stp,ykz,cntR,ykt,cntL,cntN]<;>omega
theorem ok_none(o:Option Dk)(h:List Int):if cntR []=ρ h/\(([]:List UInt8)=[110,101,119]\/o.isSome=O)then(askD o [] h).2.2=O else askD o [] h=(o,[],kW):=by cases o<;>rcases h with _|⟨a,_|⟨b,_|⟨c,_|⟨d,_|⟨e,r⟩⟩⟩⟩⟩<;>simp[askD,Dk.stp,ykz,cntR,ykt,cntL,cntN]<;>omega
theorem ok_unmap(o:Option Dk)(h:List Int):if cntR [117,110,109,97,112]=ρ h/\(([117,110,109,97,112]:List UInt8)=[110,101,119]\/o.isSome=O)then(askD o [117,110,109,97,112] h).2.2=O else askD o [117,110,109,97,112] h=(o,[],kW):=by cases o<;>rcases h with _|⟨a,_|⟨b,_|⟨c,_|⟨d,_|⟨e,r⟩⟩⟩⟩⟩<;>simp[askD,Dk.stp,ykz,cntR,ykt,cntL,cntN]<;>omega
theorem ok_walk(o:Option Dk)(h:List Int):if cntR [119,97,108,107]=ρ h/\(([119,97,108,107]:List UInt8)=[110,101,119]\/o.isSome=O)then(askD o [119,97,108,107] h).2.2=O else askD o [119,97,108,107] h=(o,[],kW):=by cases o<;>rcases h with _|⟨a,_|⟨b,_|⟨c,_|⟨d,_|⟨e,r⟩⟩⟩⟩⟩<;>simp[askD,Dk.stp,ykz,cntR,ykt,cntL,cntN]<;>omega
theorem ok_ack(o:Option Dk)(h:List Int):if cntR [97,99,107]=ρ h/\(([97,99,107]:List UInt8)=[110,101,119]\/o.isSome=O)then(askD o [97,99,107] h).2.2=O else askD o [97,99,107] h=(o,[],kW):=by cases o<;>rcases h with _|⟨a,_|⟨b,_|⟨c,_|⟨d,_|⟨e,r⟩⟩⟩⟩⟩<;>simp[askD,Dk.stp,ykz,cntR,ykt,cntL,cntN]<;>omega
theorem ok_evict(o:Option Dk)(h:List Int):if cntR [101,118,105,99,116]=ρ h/\(([101,118,105,99,116]:List UInt8)=[110,101,119]\/o.isSome=O)then(askD o [101,118,105,99,116] h).2.2=O else askD o [101,118,105,99,116] h=(o,[],kW):=by cases o<;>rcases h with _|⟨a,_|⟨b,_|⟨c,_|⟨d,_|⟨e,r⟩⟩⟩⟩⟩<;>simp[askD,Dk.stp,ykz,cntR,ykt,cntL,cntN]<;>omega
theorem ok_find(o:Option Dk)(h:List Int):if cntR [102,105,110,100]=ρ h/\(([102,105,110,100]:List UInt8)=[110,101,119]\/o.isSome=O)then(askD o [102,105,110,100] h).2.2=O else askD o [102,105,110,100] h=(o,[],kW):=by cases o<;>rcases h with _|⟨a,_|⟨b,_|⟨c,_|⟨d,_|⟨e,r⟩⟩⟩⟩⟩<;>simp[askD,Dk.stp,ykz,cntR,ykt,cntL,cntN]<;>omega
theorem ok_kept(o:Option Dk)(h:List Int):if cntR [107,101,112,116]=ρ h/\(([107,101,112,116]:List UInt8)=[110,101,119]\/o.isSome=O)then(askD o [107,101,112,116] h).2.2=O else askD o [107,101,112,116] h=(o,[],kW):=by cases o<;>rcases h with _|⟨a,_|⟨b,_|⟨c,_|⟨d,_|⟨e,r⟩⟩⟩⟩⟩<;>simp[askD,Dk.stp,ykz,cntR,ykt,cntL,cntN]<;>omega
theorem ok_new(o:Option Dk)(h:List Int):if cntR [110,101,119]=ρ h/\(([110,101,119]:List UInt8)=[110,101,119]\/o.isSome=O)then(askD o [110,101,119] h).2.2=O else askD o [110,101,119] h=(o,[],kW):=by cases o<;>rcases h with _|⟨a,_|⟨b,_|⟨c,_|⟨d,_|⟨e,r⟩⟩⟩⟩⟩<;>simp[askD,Dk.stp,ykz,cntR,ykt,cntL,cntN]<;>omega
theorem ok_protect(o:Option Dk)(h:List Int):if cntR [112,114,111,116,101,99,116]=ρ h/\(([112,114,111,116,101,99,116]:List UInt8)=[110,101,119]\/o.isSome=O)then(askD o [112,114,111,116,101,99,116] h).2.2=O else askD o [112,114,111,116,101,99,116] h=(o,[],kW):=by cases o<;>rcases h with _|⟨a,_|⟨b,_|⟨c,_|⟨d,_|⟨e,r⟩⟩⟩⟩⟩<;>simp[askD,Dk.stp,ykz,cntR,ykt,cntL,cntN]<;>omega
theorem ok_map(o:Option Dk)(h:List Int):if cntR [109,97,112]=ρ h/\(([109,97,112]:List UInt8)=[110,101,119]\/o.isSome=O)then(askD o [109,97,112] h).2.2=O else askD o [109,97,112] h=(o,[],kW):=by cases o<;>rcases h with _|⟨a,_|⟨b,_|⟨c,_|⟨d,_|⟨e,r⟩⟩⟩⟩⟩<;>simp[askD,Dk.stp,ykz,cntR,ykt,cntL,cntN]<;>omega
theorem ok_access(o:Option Dk)(h:List Int):if cntR [97,99,99,101,115,115]=ρ h/\(([97,99,99,101,115,115]:List UInt8)=[110,101,119]\/o.isSome=O)then(askD o [97,99,99,101,115,115] h).2.2=O else askD o [97,99,99,101,115,115] h=(o,[],kW):=by cases o<;>rcases h with _|⟨a,_|⟨b,_|⟨c,_|⟨d,_|⟨e,r⟩⟩⟩⟩⟩<;>simp[askD,Dk.stp,ykz,cntR,ykt,cntL,cntN]<;>omega
theorem ypo(o:Option Dk)(k:List UInt8)(w:List Int):if cntR k=ρ w/\(k=[110,101,119]\/o.isSome=O)then(askD o k w).2.2=O else askD o k w=(o,[],kW):=by by_cases p:k=[108,105,115,116];{subst p;exact ok_list o w};by_cases q:k=[99,97,108,109];{subst q;exact ok_calm o w};by_cases m:k=[];{subst m;exact ok_none o w};by_cases s:k=[117,110,109,97,112];{subst s;exact ok_unmap o w};by_cases t:k=[119,97,108,107];{subst t;exact ok_walk o w};by_cases u:k=[97,99,107];{subst u;exact ok_ack o w};by_cases v:k=[101,118,105,99,116];{subst v;exact ok_evict o w};by_cases x:k=[102,105,110,100];{subst x;exact ok_find o w};by_cases y:k=[107,101,112,116];{subst y;exact ok_kept o w};by_cases n:k=[110,101,119];{subst n;exact ok_new o w};by_cases g:k=[112,114,111,116,101,99,116];{subst g;exact ok_protect o w};by_cases i:k=[109,97,112];{subst i;exact ok_map o w};by_cases j:k=[97,99,99,101,115,115];{subst j;exact ok_access o w};have X:cntR k= -1:=by{have e:∀l:List UInt8,k≠l->¬(l=k/\k≠[]):=λl z h=>z h.1.symm;unfold cntR cntL cntN;rw[ykt,iN (e _ p)];rw[ykt,iN (e _ q)];rw[ykt,iN (e _ m)];rw[ykt,iN (e _ s)];rw[ykt,iN (e _ t)];rw[ykt,iN (e _ u)];rw[ykt,iN (e _ v)];rw[ykt,iN (e _ x)];rw[ykt,iN (e _ y)];rw[ykt,iN (e _ m)];rw[ykt,iN (e _ n)];rw[ykt,iN (e _ g)];rw[ykt,iN (e _ m)];rw[ykt,iN (e _ m)];rw[ykt,iN (e _ i)];rw[ykt,iN (e _ j)];rfl};rw[iN ω];unfold askD;rw[iN (λe=>n e.1)];cases o with|none=>rfl|some d=>rcases w with _|⟨a,_|⟨b,_|⟨c,_|⟨f,_|⟨e,r⟩⟩⟩⟩⟩<;>simp[Dk.stp,ykz,p,q,m,s,t,u,v,x,y,n,g,i,j]
theorem ypp(k:List UInt8)(h:cntR k=5\/5<cntR k):False:=by by_cases b:k=[];{subst b;revert h;decide};have a:∀(L:List (List UInt8))(w:List Int),(∀n ∈ w,n<=4)->ykt k L w<=4:=by{intro L;induction L with|nil=>intro w _;show(-1:Int)<=4;decide|cons l r d=>intro w c;cases w with|nil=>show(-1:Int)<=4;decide|cons n m=>show(if l=k/\k≠[]then n else ykt k r m)<=4;split;{simp_all};simp_all};have:=a cntL cntN δ;unfold cntR at h;omega
theorem lineR_eq(o:Option Dk)(l:List UInt8):ymq o l=ykE o l:=by unfold ymq ykE;rw[words_same l];cases ykq [] l with|nil=>rfl|cons k w=>show _=(match ykw (w.take 5)with|none=>(o,yln)|some h=>((askD o k h).1,(askD o k h).2.1++if (askD o k h).2.2=O then []else yln));by_cases c:ρ w<=4;{rw[List.take_of_length_le ω];show(match ykw w with|none=>(o,yln)|some h=>_)=_;cases hn:ykw w with|none=>rfl|some h=>have:=ypo o k h;grind};have b:(match ykw w with|none=>(o,yln)|some h=>if cntR k=ρ h/\(k=[110,101,119]\/o.isSome=O)then((askD o k h).1,(askD o k h).2.1)else(o,yln))=(o,yln):=by{cases hn:ykw w with|none=>rfl|some h=>have a:=(ymr hn).1;show(if cntR k=ρ h/\(k=[110,101,119]\/o.isSome=O)then _ else _)=_;rw[iN];intro e;exact ypp k ω};show(match ykw w with|none=>(o,yln)|some h=>if cntR k=ρ h/\(k=[110,101,119]\/o.isSome=O)then((askD o k h).1,(askD o k h).2.1)else(o,yln))=_;rw[b];cases hn:ykw (w.take 5)with|none=>rfl|some h=>have a:=(ymr hn).1;rw[List.length_take]at a;have:=ypo o k h;rw[iN (λe=>ypp k ω)]at this;simp_all
end Pg
namespace Pg
theorem yny:∀(a:List (List UInt8))(k:Nat){ns:List Int},k<ρ a->ykw (a.take k)=I ns->ykw (a.take (k+1))=(match numD (a.getD k [])with|none=>J|some v=>I (ns++[v]))| [],k,ns,hk,h=>by simp at hk|x::r,0,ns,hk,h=>by injection h with h;subst h;show(match numD x with|none=>J|some v=>match ykw []with|none=>J|some w=>I (v::w))=(match numD x with|none=>J|some v=>I ([]++[v]));cases numD x<;>rfl|x::r,k+1,ns,hk,h=>by have h:(match numD x with|none=>J|some v=>match ykw (r.take k)with|none=>J|some w=>I (v::w))=I ns:=h;show(match numD x with|none=>J|some v=>match ykw (r.take (k+1))with|none=>J|some w=>I (v::w))=(match numD (r.getD k [])with|none=>J|some v=>I (ns++[v]));cases hx:numD x with|none=>rw[hx]at h;cases h|some v=>rw[hx]at h;have h:(match ykw (r.take k)with|none=>J|some w=>I (v::w))=I ns:=h;cases hr:ykw (r.take k)with|none=>rw[hr]at h;cases h|some w=>rw[hr]at h;injection h with h;subst h;have b:=yny r k (by simpa using hk) hr;show(match ykw (r.take (k+1))with|none=>J|some w=>I (v::w))=_;rw[b];cases numD (r.getD k [])<;>rfl
theorem ynz:∀(a:List (List UInt8))(k:Nat),k<ρ a->ykw (a.take (k+1))=J->ykw a=J
 | [],k,hk,h=>by simp at hk
 | x::r,0,hk,h=>by
   have h:(match numD x with|none=>J|some v=>match ykw []with|none=>J|some w=>I (v::w))=J:=h
   show(match numD x with|none=>J|some v=>match ykw r with|none=>J|some w=>I (v::w))=J
   cases hx:numD x with
   | none=>rfl
   | some v=>rw[hx]at h;cases h
 | x::r,k+1,hk,h=>by
   have h:(match numD x with|none=>J|some v=>match ykw (r.take (k+1))with|none=>J|some w=>I (v::w))=J:=h
   show(match numD x with|none=>J|some v=>match ykw r with|none=>J|some w=>I (v::w))=J
   cases hx:numD x with
   | none=>rfl
   | some v=>
     rw[hx]at h;have h:(match ykw (r.take (k+1))with|none=>J|some w=>I (v::w))=J:=h
     cases hr:ykw (r.take (k+1))with
     | none=>
       rw[ynz r k (by simpa using hk) hr]
     | some w=>rw[hr]at h;cases h
theorem cnt_cases{w:List Int}(h:cntR n=ρ w):((n=[108,105,115,116]\/n=[99,97,108,109])/\w=[])\/(∃a,w=[a]/\(n=[117,110,109,97,112]\/n=[119,97,108,107]\/n=[97,99,107]\/n=[101,118,105,99,116]\/n=[102,105,110,100]\/n=[107,101,112,116]))\/(∃a b,w=[a,b]/\(n=[110,101,119]\/n=[112,114,111,116,101,99,116]))\/∃a b c d,w=[a,b,c,d]/\(n=[109,97,112]\/n=[97,99,99,101,115,115]):=by have e:∀{l:List UInt8},n≠l->¬(l=n/\n≠[]):=λK h=>K h.1.symm;have o:∀k:Int,cntR n=k->(k=0->(n=[108,105,115,116]\/n=[99,97,108,109]))/\(k=1->(n=[117,110,109,97,112]\/n=[119,97,108,107]\/n=[97,99,107]\/n=[101,118,105,99,116]\/n=[102,105,110,100]\/n=[107,101,112,116]))/\(k=2->(n=[110,101,119]\/n=[112,114,111,116,101,99,116]))/\(k=4->(n=[109,97,112]\/n=[97,99,99,101,115,115]))/\(k= -1\/k=0\/k=1\/k=2\/k=4):=by{intro k T;subst T;by_cases q:n=[108,105,115,116];{subst q;decide};by_cases s:n=[99,97,108,109];{subst s;decide};by_cases m:n=[];{subst m;decide};by_cases t:n=[117,110,109,97,112];{subst t;decide};by_cases u:n=[119,97,108,107];{subst u;decide};by_cases v:n=[97,99,107];{subst v;decide};by_cases x:n=[101,118,105,99,116];{subst x;decide};by_cases y:n=[102,105,110,100];{subst y;decide};by_cases z:n=[107,101,112,116];{subst z;decide};by_cases X:n=[110,101,119];{subst X;decide};by_cases g:n=[112,114,111,116,101,99,116];{subst g;decide};by_cases i:n=[109,97,112];{subst i;decide};by_cases j:n=[97,99,99,101,115,115];{subst j;decide};have L:cntR n= -1:=by{unfold cntR cntL cntN;rw[ykt,iN (e q),ykt,iN (e s),ykt,iN (e m),ykt,iN (e t),ykt,iN (e u),ykt,iN (e v),ykt,iN (e x),ykt,iN (e y),ykt,iN (e z),ykt,iN (e m),ykt,iN (e X),ykt,iN (e g),ykt,iN (e m),ykt,iN (e m),ykt,iN (e i),ykt,iN (e j)];rfl};rw[L];exact⟨λe=>ω,λe=>ω,λe=>ω,λe=>ω,.inl rfl⟩};obtain⟨S,D,F,W,p⟩:=o _ h;rcases w with _|⟨a,_|⟨b,_|⟨c,_|⟨d,_|⟨f,r⟩⟩⟩⟩⟩;{exact .inl ⟨S rfl,rfl⟩};{exact .inr (.inl ⟨a,rfl,D rfl⟩)};{exact .inr (.inr (.inl ⟨a,b,rfl,F rfl⟩))};{simp at p};{exact .inr (.inr (.inr ⟨a,b,c,d,rfl,W rfl⟩))};simp only[ki]at p;omega
end Pg
theorem yhK(X:Spc)(p:Int):ymN X p=if tFC X.S 0 p≠0 then Pg.tell [110,111] [tFC X.S 0 p]else [109,97,112,32]++mapT (tFM X.S 0 p)++[32,if (tFE X.S 0 p).u=O then 49 else 48]++[32,if (tFE X.S 0 p).d=O then 49 else 48]++[10]:=by have h:∀x:Bool,Lib.itoa (tbit x)=[if x=O then 49 else 48]:=λx=>by{cases x<;>simp[tbit,Lib.itoa,Lib.decDigits]};unfold ymN;split;{rfl};simp[Pg.tell,ykN,mapT,h]
theorem ycd(k:Pg.fits l)(b:Pg.fits i)(h:Pg.fits j)(w:Pg.fits a):ρ (mapT ⟨l,i,j,a⟩)<=100:=by have c:=zw k;have d:=zw b;have e:=zw h;have f:=zw w;unfold mapT;simp only[ks,ki,List.length_nil];omega
section
attribute [local go_sem] Loose.gent
section
variable {W:Bs} {w w':kp} {b v:Nat} {d:Dk} {bs cs:List UInt8} {F Fw:Nat->Prop}
theorem ydj(k:List UInt8)(e:Pg.fits l)(a:Pg.fits i):∀x,ykz k [l,i]=I x->xZ x:=by intro x h;have c:Pg.fits 0:=by{unfold Pg.fits;omega};simp only[ykz]at h;(repeat' (split at h));all_goals first|(cases h;done)|(injection h with h;subst h;exact⟨by assumption,by assumption,by assumption,by assumption,by assumption,by assumption⟩)
theorem yi1(f:ByteArray)(a c:Int)(ad:Option Addr)(s:Nat)(hn:zn w ad [a,c])(ha:Pg.fits a)(Pp:Pg.fits c)(D:d.Ok)(hG:qk W)(h:Tw W w b v d bs F Fw)(hl:ρ bs<=50000000000000):
 uK Q 19 #[Z (I ⟨b,0,J⟩),.string f,kA ad 2 s] w λe w'=>e=kO (ur (askD (I d) f.toList [a,c]).2.2)/\Tn W w' b (askD (I d) f.toList [a,c]).1 (bs++(askD (I d) f.toList [a,c]).2.1):=by
 obtain⟨q,n⟩:=eY (w.alloc (V #[.string f,N Y 2] 110))
 have T:Below (A (M w)) w q:=by rw[n];exact zA (zR w) _
 obtain⟨⟨f0,f1⟩,_⟩:=zP (show q.heap[A (M w)]?=I (V #[.string f,N Y 2] 110 (0,0)) by rw[n];exact U _ _);have y:Hh (Tw W q b v d bs F Fw):=h.grow T;have c0:=y.o.c0;have z:=hn.below T;obtain⟨g,rfl,hg,k0⟩:=z 0 ς;obtain⟨_,e,_,k1⟩:=z 1 ς;cases e;simp only[uD,un]at k0 k1;have HO:Hh (∀u,Lw q u->uK Q 40 #[Z (I ⟨b,0,J⟩),N Y a,N Y c] u λe w'=>e=kO (uc #[])/\Tn W w' b (ymk a c) (bs++ymH a c)):=λu hb=>yae a c hG (y.o.grow hb).tl hl;have r0:=yY k0;have r1:=yY k1;have m:=yhH f a c _ s q z;have HG:=η hG;have RB:Hh (0<=d.ti/\d.ti<4611686018427387904):=⟨D.ti.1,by have:=D.ti.2;omega⟩;have SI:Hh (∀x,xZ x->(d.X.goE x).Fits):=D.ev;have iY:=η hl;have av:Hh (∀x,ykz f.toList [a,c]=I x->xZ x):=ydj f.toList ha Pp;clear T h hG D hn z hl ha Pp
 cases bJ:ykz f.toList [a,c]with
 | none=>
   rw[bJ]at m;simp only[Option.getD_none,Option.isSome_none,sx0,Sx.val]at m
   go_enter func19,ntmps19
   go_upto_region 2 with fail
   rw[<-n];clear n;generalize (A (M w))=gx at*
   go_wp2_with fail
   all_goals first
   | (refine Loose.ykh 7 κ κ ?_
      simp only[yI,kh,yJ,yC];have l:Hh (askD (I d) f.toList [a,c]=(ymk a c,ymH a c,O)):=(by simp[Hh,askD, *])
      repeat (
       refine Loose.zS (λk t=> ?_)
       go_simp
       (refine t _ ?_;clear t k))
      refine Loose.yki ?_;intro u i;have bW:=HO.o _ i;clear i
      go_wp2_with fail
      refine bW.mono ?_;rintro e w4 ⟨rfl,(r:Hh _)⟩
      go_wp2
      go_ret
      rw[l.o]
      exact⟨rfl,r.o⟩)
   | (go_at_call 45
      have l:Hh (askD (I d) f.toList [a,c]=(I d,[],kW)):=(by simp[Hh,askD,Dk.stp,bJ, *]);refine m.mono ?_;rintro e L ⟨rfl,p⟩;have T2:Hh _:=y.o.grow p;clear p
      go_wp2
      go_ret
      rw[l.o]
      exact⟨rfl,v,F,Fw,by simpa using T2.o.grow (zA (zR _) _)⟩)
 | some x=>
   have Sr:=av.o x bJ;rw[bJ]at m;simp only[Option.getD_some,Option.isSome_some]at m
   go_enter func19,ntmps19
   go_upto_region 2 with fail
   rw[<-n];clear n;generalize (A (M w))=gx at*
   go_wp2_with fail
   all_goals first
   | (refine Loose.ykh 7 κ κ ?_
      simp only[yI,kh,yJ,yC];have l:Hh (askD (I d) f.toList [a,c]=(ymk a c,ymH a c,O)):=(by simp[Hh,askD, *])
      repeat (
       refine Loose.zS (λk t=> ?_)
       go_simp
       (refine t _ ?_;clear t k))
      refine Loose.yki ?_;intro u i;have bW:=HO.o _ i;clear i
      go_wp2_with fail
      refine bW.mono ?_;rintro e w4 ⟨rfl,(r:Hh _)⟩
      go_wp2
      go_ret
      rw[l.o]
      exact⟨rfl,r.o⟩)
   | (go_at_call 45
      have l:Hh (askD (I d) f.toList [a,c]=(I (d.next x),tEv (d.X.goE x),O)):=(by simp[Hh,askD,Dk.stp,bJ, *]);refine m.mono ?_;rintro e L ⟨rfl,p⟩;obtain⟨xk,xc,⟨mp,ms,mf,mr⟩,xq,xa,xu⟩:=x;obtain⟨W3,S⟩:=eY (L.alloc (V #[N Y xk,N Y xc,N Y mp,N Y ms,N Y mf,N Y mr,N Y xq,N Y xa,ur xu] 80));have i:Lw L W3:=(by rw[S];exact zA (zR _) _);have fw:W3.heap[A (M L)]?=I (V #[N Y xk,N Y xc,N Y mp,N Y ms,N Y mf,N Y mr,N Y xq,N Y xa,ur xu] 80 (0,0)):=(by rw[S];exact U _ _);obtain⟨z0,z1,z2,z3,z4,z5,z6,z7,z8⟩:=yin fw;have T3:Hh _:=y.o.grow (zT p i);have K:=jk ⟨xk,xc,⟨mp,ms,mf,mr⟩,xq,xa,xu⟩ Sr HG.o T3.o RB.o (SI.o _ Sr) iY.o;simp only[Sx.val]at K ⊢;clear p i fw
      go_upto_region 9 with fail
      rw[<-S];clear S
      go_wp2_with fail
      refine K.mono ?_;rintro e w4 ⟨rfl,(r:Hh _)⟩;clear K
      go_wp2
      go_ret
      rw[l.o];obtain⟨F5,Sw,t5⟩:=r.o
      exact⟨rfl,v,F5,Sw,t5⟩)
end
section
variable {W:Bs} {w w':kp} {b v:Nat} {d:Dk} {bs cs:List UInt8} {F Fw:Nat->Prop}
theorem ydk(k:List UInt8)(m:Pg.fits l)(f:Pg.fits i)(c:Pg.fits j)(e:Pg.fits a):∀x,ykz k [l,i,j,a]=I x->xZ x:=by intro x h;have g:Pg.fits 0:=by{unfold Pg.fits;omega};simp only[ykz]at h;(repeat' (split at h));all_goals first|(cases h;done)|(injection h with h;subst h;exact⟨by assumption,by assumption,by assumption,by assumption,by assumption,by assumption⟩)
theorem yi3(k:ByteArray)(a c f i:Int)(ad:Option Addr)(p:Nat)(hn:zn w ad [a,c,f,i])(ha:Pg.fits a)(Pp:Pg.fits c)(Ez:Pg.fits f)(GD:Pg.fits i)(s:d.Ok)(hG:qk W)(h:Tw W w b v d bs F Fw)(hl:ρ bs<=50000000000000):
 uK Q 19 #[Z (I ⟨b,0,J⟩),.string k,kA ad 4 p] w λe w'=>e=kO (ur (askD (I d) k.toList [a,c,f,i]).2.2)/\Tn W w' b (askD (I d) k.toList [a,c,f,i]).1 (bs++(askD (I d) k.toList [a,c,f,i]).2.1):=by
 obtain⟨q,l⟩:=eY (w.alloc (V #[.string k,N Y 4] 110))
 have z:Below (A (M w)) w q:=by rw[l];exact zA (zR w) _
 obtain⟨⟨f0,f1⟩,_⟩:=zP (show q.heap[A (M w)]?=I (V #[.string k,N Y 4] 110 (0,0)) by rw[l];exact U _ _);have S:Hh (Tw W q b v d bs F Fw):=h.grow z;have c0:=S.o.c0;have m:=hn.below z;obtain⟨g,rfl,hg,k0⟩:=m 0 ς;obtain⟨_,e,_,k1⟩:=m 1 ς;cases e;obtain⟨_,e,_,k2⟩:=m 2 ς;cases e;obtain⟨_,e,_,k3⟩:=m 3 ς;cases e;simp only[uD,un]at k0 k1 k2 k3;have j:=yhI k a c f i _ p q m;have HG:=η hG;have RB:Hh (0<=d.ti/\d.ti<4611686018427387904):=⟨s.ti.1,by have:=s.ti.2;omega⟩;have SI:Hh (∀x,xZ x->(d.X.goE x).Fits):=s.ev;have iY:=η hl;have av:Hh (∀x,ykz k.toList [a,c,f,i]=I x->xZ x):=ydk k.toList ha Pp Ez GD;clear z h hG s hn m hl ha Pp Ez GD
 cases bJ:ykz k.toList [a,c,f,i]with
 | none=>
   rw[bJ]at j;simp only[Option.getD_none,Option.isSome_none,sx0,Sx.val]at j
   go_enter func19,ntmps19
   go_upto_region 2 with fail
   rw[<-l];clear l;generalize (A (M w))=gx at*
   go_wp2_with fail
   all_goals first
   | (go_at_call 45
      have u:Hh (askD (I d) k.toList [a,c,f,i]=(I d,[],kW)):=(by simp[Hh,askD,Dk.stp,bJ, *]);refine j.mono ?_;rintro e t ⟨rfl,n⟩;have T2:Hh _:=S.o.grow n;clear n
      go_wp2
      go_ret
      rw[u.o]
      exact⟨rfl,v,F,Fw,by simpa using T2.o.grow (zA (zR _) _)⟩)
 | some x=>
   have Sr:=av.o x bJ;rw[bJ]at j;simp only[Option.getD_some,Option.isSome_some]at j
   go_enter func19,ntmps19
   go_upto_region 2 with fail
   rw[<-l];clear l;generalize (A (M w))=gx at*
   go_wp2_with fail
   all_goals first
   | (go_at_call 45
      have u:Hh (askD (I d) k.toList [a,c,f,i]=(I (d.next x),tEv (d.X.goE x),O)):=(by simp[Hh,askD,Dk.stp,bJ, *]);refine j.mono ?_;rintro e t ⟨rfl,n⟩;obtain⟨xk,xc,⟨L,T,D,K⟩,xq,xa,xu⟩:=x;obtain⟨W3,r⟩:=eY (t.alloc (V #[N Y xk,N Y xc,N Y L,N Y T,N Y D,N Y K,N Y xq,N Y xa,ur xu] 80));have He:Lw t W3:=(by rw[r];exact zA (zR _) _);have fw:W3.heap[A (M t)]?=I (V #[N Y xk,N Y xc,N Y L,N Y T,N Y D,N Y K,N Y xq,N Y xa,ur xu] 80 (0,0)):=(by rw[r];exact U _ _);obtain⟨z0,z1,z2,z3,z4,z5,z6,z7,z8⟩:=yin fw;have T3:Hh _:=S.o.grow (zT n He);have y:=jk ⟨xk,xc,⟨L,T,D,K⟩,xq,xa,xu⟩ Sr HG.o T3.o RB.o (SI.o _ Sr) iY.o;simp only[Sx.val]at y ⊢;clear n He fw
      go_upto_region 9 with fail
      rw[<-r];clear r
      go_wp2_with fail
      refine y.mono ?_;rintro e w4 ⟨rfl,(bX:Hh _)⟩;clear y
      go_wp2
      go_ret
      rw[u.o];obtain⟨F5,Sw,t5⟩:=bX.o
      exact⟨rfl,v,F5,Sw,t5⟩)
end
section
variable {W:Bs} {w w':kp} {b v:Nat} {p0:Value} {d:Dk} {bs cs:List UInt8} {F Fw:Nat->Prop}
theorem yi2(k:ByteArray)(a i j:Int)(q:Option Addr)(c:Nat)(t:qk W)(h:Tw W w b v d bs F Fw)(X:ρ bs<=50000000000000):uK Q 19 #[Z (I ⟨b,0,J⟩),.string k,kA q 3 c] w λe w'=>e=kO (ur (askD (I d) k.toList [a,i,j]).2.2)/\Tn W w' b (askD (I d) k.toList [a,i,j]).1 (bs++(askD (I d) k.toList [a,i,j]).2.1):=by have r:Hh (askD (I d) k.toList [a,i,j]=(I d,[],kW)):=(by simp[Hh,askD,Dk.stp,ykz]);obtain⟨g,f⟩:=eY (w.alloc (V #[.string k,N Y 3] 110));have m:Below (A (M w)) w g:=by{rw[f];exact zA (zR w) _};obtain⟨⟨x,y⟩,_⟩:=zP (show g.heap[A (M w)]?=I (V #[.string k,N Y 3] 110 (0,0)) by rw[f];exact U _ _);have p:Hh (Tw W g b v d bs F Fw):=h.grow m;have u:=p.o.c0;have l:=yaT k 3 q c g δ δ δ;simp only[sx0,Sx.val]at l;clear m h t;go_enter func19,ntmps19;go_upto_region 2 with fail;rw[<-f];clear f;generalize (A (M w))=z at*;go_wp2_with fail;all_goals first|(go_at_call 45;refine l.mono ?_;rintro e S ⟨rfl,n⟩;have s:Hh _:=p.o.grow n;clear n;go_wp2;go_ret;rw[r.o];exact⟨rfl,v,F,Fw,by simpa using s.o.grow (zA (zR _) _)⟩)
theorem yi4(k:ByteArray)(a i j l m:Int)(s:Option Addr)(c:Nat)(x:qk W)(h:Tw W w b v d bs F Fw)(D:ρ bs<=50000000000000):uK Q 19 #[Z (I ⟨b,0,J⟩),.string k,kA s 5 c] w λe w'=>e=kO (ur (askD (I d) k.toList [a,i,j,l,m]).2.2)/\Tn W w' b (askD (I d) k.toList [a,i,j,l,m]).1 (bs++(askD (I d) k.toList [a,i,j,l,m]).2.1):=by have t:Hh (askD (I d) k.toList [a,i,j,l,m]=(I d,[],kW)):=(by simp[Hh,askD,Dk.stp,ykz]);obtain⟨g,f⟩:=eY (w.alloc (V #[.string k,N Y 5] 110));have p:Below (A (M w)) w g:=by{rw[f];exact zA (zR w) _};obtain⟨⟨z,X⟩,_⟩:=zP (show g.heap[A (M w)]?=I (V #[.string k,N Y 5] 110 (0,0)) by rw[f];exact U _ _);have r:Hh (Tw W g b v d bs F Fw):=h.grow p;have y:=r.o.c0;have n:=yaT k 5 s c g δ δ δ;simp only[sx0,Sx.val]at n;clear p h x;go_enter func19,ntmps19;go_upto_region 2 with fail;rw[<-f];clear f;generalize (A (M w))=S at*;go_wp2_with fail;all_goals first|(go_at_call 45;refine n.mono ?_;rintro e L ⟨rfl,q⟩;have u:Hh _:=r.o.grow q;clear q;go_wp2;go_ret;rw[t.o];exact⟨rfl,v,F,Fw,by simpa using u.o.grow (zA (zR _) _)⟩)
end
end
section
variable {W:Bs} {w w':kp} {b:Nat} {o:Option Dk} {bs cs:List UInt8}
theorem Tn.dinv(h:Tn W w b o bs):DInv o:=by intro d e;subst e;obtain⟨v,F,c,t⟩:=h;obtain⟨D,f,g,a,_,k,_⟩:=t.wt;exact⟨k.inv,k.le⟩
theorem Tn.ok(h:Tn W w b o bs)(k:TiLe o 100000):∀d,o=I d->d.Ok:=λd e=>yp4 (h.dinv d e).1 (h.dinv d e).2 (k d e)
theorem Tn.grow(h:Tn W w b o bs)(k:Lw w w'):Tn W w' b o bs:=by cases o with|none=>obtain⟨F,t⟩:=h;exact⟨F,t.grow k⟩|some d=>obtain⟨v,F,a,t⟩:=h;exact⟨v,F,a,t.grow k⟩
theorem Tn.told(h:Tn W w b o bs):∃g F,Tl0 W w b g bs F/\∀k cs w',Lw w k->zg k b g F cs w'->Tn W w' b o cs:=by cases o with|none=>obtain⟨F,t⟩:=h;refine⟨_,F,t,λk cs w' c e=> ?_⟩;obtain⟨a,f,_⟩:=(t.grow c).done e;exact⟨a,f⟩|some d=>obtain⟨v,F,i,t⟩:=h;refine⟨_,F,t.tl,λk cs w' c e=> ?_⟩;obtain⟨a,f⟩:=(t.grow c).told e;exact⟨v,a,i,f⟩
theorem yh4(c:ByteArray)(g:List Int)(l:ρ g<=5)(f:Option Addr)(k:Nat)(p:zn w f g)(r:∀n ∈ g,Pg.fits n)(q:TiLe o 100000)(i:qk W)(h:Tn W w b o bs)(j:ρ bs<=50000000000000):uK Q 19 #[Z (I ⟨b,0,J⟩),.string c,kA f g.length k] w λe w'=>e=kO (ur (askD o c.toList g).2.2)/\Tn W w' b (askD o c.toList g).1 (bs++(askD o c.toList g).2.1):=by have m:=h.ok q;cases o with|none=>{obtain⟨F,t⟩:=h;match g,l with| [],_=>exact yiH c f k t| [a],_=>exact yiI c a f k t| [a,a2],_=>exact yiJ c a a2 f k p i t j| [a,a2,a3],_=>exact yiK c a a2 a3 f k t| [a,a2,a3,a4],_=>exact yiL c a a2 a3 a4 f k t| [a,a2,a3,a4,a5],_=>exact yiM c a a2 a3 a4 a5 f k t|_::_::_::_::_::_::_,l=>simp_all}|some d=>obtain⟨v,F,s,t⟩:=h;have m:=m d rfl;match g,l with| [],_=>exact yiZ c f k m i t j| [a],_=>exact yi0 c a f k p (r a ς) m i t j| [a,a2],_=>grind [yi1]| [a,a2,a3],_=>exact yi2 c a a2 a3 f k i t j| [a,a2,a3,a4],_=>grind [yi3]| [a,a2,a3,a4,a5],_=>exact yi4 c a a2 a3 a4 a5 f k i t j|_::_::_::_::_::_::_,l=>simp_all
end
namespace Pg
theorem lineD_nil(o:Option Dk)(h:ylw n=[]):ykE o n=(o,[]):=by unfold ykE;rw[h]
theorem lineD_bad(o:Option Dk)(h:ylw n=m::w)(k:ykw w=J):ykE o n=(o,yln):=by simp_all[ykE]
theorem lineD_ask(o:Option Dk){k:List Int}(h:ylw n=m::w)(a:ykw w=I k):ykE o n=((askD o m k).1,(askD o m k).2.1++if (askD o m k).2.2=O then []else yln):=by simp_all[ykE]
end Pg
section
variable {W:Bs} {w w':kp} {b:Nat} {o:Option Dk} {bs cs:List UInt8}
theorem Tn.bel(h:Tn W w b o bs):But W.G W.w w:=by obtain⟨k,F,t,_⟩:=h.told;exact t.bel
theorem yey(c:qk W)(h:Tn W w b o bs)(g:ρ bs<=60000000000000)(k:kp)(a:Lw w k):uK Q 20 #[Z (I ⟨b,1,J⟩),.string ⟨#[119,104,97,116]⟩,kA J 0 0] k λe w'=>e=kO (uc #[])/\Tn W w' b o (bs++yln):=by obtain⟨i,F,t,d⟩:=h.told;refine(xG ⟨#[119,104,97,116]⟩ J 0 [] c (t.grow a) (qG k) (λ_ e=>by cases e) (λ_ e=>by cases e) (by show _+4+_+1<=_;grind)).mono ?_;rintro e w' ⟨rfl,f⟩;exact⟨rfl,d k _ w' a f⟩
theorem yhL(k:ByteArray)(hs:k.size<=1000000)(dA:TiLe o 100000)(hG:qk W)(h:Tn W w b o bs)(hl:ρ bs<=40000000000000):uK Q 12 #[Z (I ⟨b,0,J⟩),.string k] w λe w'=>e=kO (uc #[])/\Tn W w' b (ykE o k.data.toList).1 (bs++(ykE o k.data.toList).2):=by have u:=yec k hs w;have HD:Hh (DInv o):=h.dinv;have bD:Hh (∀d,o=I d->d.Ok):=h.ok dA;have T0:Hh (Tn W w b o bs):=h;have RB:Hh (TiLe o 100000):=dA;have K:Hh (qk W):=hG;have TR:Hh (ρ bs<=40000000000000):=hl;have Ho:=wordsD_len k.data.toList;have d9:∀x ∈ ylw k.data.toList,ρ x<=1000000:=λx hx=>yB (wordsD_mem _ x hx) hs;clear h dA hG hl;cases hA:ylw k.data.toList with|nil=>rw[lineD_nil o hA];rw[hA]at u;clear hA d9 Ho;go_enter func12,ntmps12;go_wp2_with fail;refine u.mono ?_;rintro e c ⟨ad,cap,rfl,_,_,_,X⟩;have T1:Hh (Tn W c b o bs):=T0.o.grow X;clear X u;go_wp2_with fail;(try simp only[Exit.inBlock,Exit.then]);refine km (results_none rfl _ _ _) rfl ?_;exact⟨rfl,by simpa using T1.o⟩|cons a s=>rw[hA]at u Ho d9;simp only[ki]at u Ho;have Da:Hh (ylw k.data.toList=a::s):=hA;obtain⟨LR,Ei⟩:=eY (ykE o k.data.toList);rw[<-Ei];have oF:Hh (LR=ykE o k.data.toList):=Ei;clear hA Ei;go_enter func12,ntmps12;go_wp2_with fail;refine u.mono ?_;rintro e c ⟨ad,cap,rfl,lY,tL,hz,X⟩;obtain⟨g,of,rfl,hg,c0⟩:=tL 0 ς;obtain rfl:=hz g of rfl;simp only[uD,Nat.add_zero]at c0;have T1:Hh (Tn W c b o bs):=T0.o.grow X;have BX:Hh (qv c):=K.o.later T1.o.bel;have rO:zV c (I ⟨g,1,J⟩) s:=λj hj=>by{obtain⟨g',o',e,h1,h2⟩:=tL (j+1) (by simpa using hj);injection e with e;injection e with e1 e2;subst e1 e2;refine⟨g,1,rfl,h1,?_⟩;rw[Nat.zero_add,un]at h2;rw[Nat.add_comm 1 j];exact h2};have HNU:Hh (∀t f,zV c t s->uK Q 18 #[kA t s.length f] c λe w'=>xQ s e w'/\Lw c w'):=λt f hs=>ycg t f s ω (λl hl=>d9 l (ua _ hl)) c hs BX.o;have Gn:Hh (∀t,(t=I ⟨g,1,J⟩\/s.length=0)->zV c t s):=λt h=>by{rcases h with rfl|h;{exact rO};intro j hj;omega};have Pd:Hh (ρ s<=5):=by{unfold Hh;omega};have HGS:Hh (g<A (M c)):=hg;have iQ:Hh (ψ c ⟨g,0,J⟩=I (.string (zl a))):=c0;clear tL hz X u d9 rO T0 Ho c0 hg;go_wp2_with fail;all_goals refine(HNU.o _ _ (Gn.o _ (by first|exact .inl rfl|exact .inr ω))).mono ?_;rintro e w2 ⟨D,T⟩;have T2:Hh (Tn W w2 b o bs):=T1.o.grow T;have c0:ψ w2 ⟨g,0,J⟩=I (.string (zl a)):=(T.cell (p:=⟨g,0,J⟩) HGS.o).trans iQ.o;unfold xQ at D;cases hn:ykw s with|none=>rw[hn]at D;obtain rfl:=D;have L:Hh (LR=(o,yln)):=oF.o.trans (lineD_bad o Da.o hn);have y:=yey K.o T2.o (by have:=TR.o;omega) w2 (zR w2);clear hn T;go_wp2_with fail;refine y.mono ?_;rintro e m ⟨rfl,i⟩;have T3:Hh (Tn W m b o (bs++yln)):=i;clear i y;go_wp2;go_end0;rw[L.o];exact⟨rfl,T3.o⟩|some q=>rw[hn]at D;obtain⟨tZ,S,rfl,F⟩:=D;obtain⟨oZ,uB⟩:=ymr hn;have L:Hh (LR=((askD o a q).1,(askD o a q).2.1++if (askD o a q).2.2=O then []else yln)):=oF.o.trans (lineD_ask o Da.o hn);have v:=yh4 (zl a) q (by have:=Pd.o;omega) tZ S F (λn h=>by have:=uB n h;unfold Pg.fits;omega) RB.o K.o T2.o (by have:=TR.o;omega);rw[show(zl a).toList=a from by rw[Lib.toList_data,qI]]at v;have oL:=yoI HD.o bD.o a q;have z:Hh (∀m,Tn W m b (askD o a q).1 (bs++(askD o a q).2.1)->uK Q 20 #[Z (I ⟨b,1,J⟩),.string ⟨#[119,104,97,116]⟩,kA J 0 0] m λe w'=>e=kO (uc #[])/\Tn W w' b (askD o a q).1 (bs++(askD o a q).2.1++yln)):=λm h3=>yey K.o h3 (by have:=TR.o;simp only[ks];omega) m (zR m);clear hn T oZ uB F oL;generalize askD o a q=r at*;obtain⟨r1,r2,r3⟩:=r;simp only at v z;cases r3 with|true=>go_wp2_with fail;refine v.mono ?_;rintro e m ⟨rfl,i⟩;have T3:Hh (Tn W m b r1 (bs++r2)):=i;clear i v;go_wp2;go_end0;rw[L.o];exact⟨rfl,by simpa using T3.o⟩|false=>go_wp2_with fail;refine v.mono ?_;rintro e m ⟨rfl,i⟩;have y:=z.o m i;clear i v;go_wp2_with fail;refine y.mono ?_;rintro e w4 ⟨rfl,i⟩;have T4:Hh (Tn W w4 b r1 (bs++r2++yln)):=i;clear i y;go_wp2;go_end0;rw[L.o];exact⟨rfl,by simpa[List.append_assoc]using T4.o⟩
end
def vw(w:kp)(o:Option Dk)(k:Option Addr)(h:Nat->Prop):Prop:=match o with|none=>k=J/\h=λ_=>False|some d=>∃v,k=I ⟨v,0,J⟩/\qY w v d.X d.L d.L0 d.ti h
structure ybm (w:kp) (D:Nat) (o:Option Dk) (F:Nat->Prop):Prop where
 ex:∃pa Fw,w.heap[D]?=I (V #[.pointer pa] 43 (0,0))/\vw w o pa Fw/\¬Fw D/\F=λk=>k=D\/Fw k
section
variable {w w':kp} {D b:Nat} {o:Option Dk} {pa:Option Addr} {F Fw G:Nat->Prop} {bs:List UInt8}
theorem vw.lt(h:vw w o pa Fw){k:Nat}(a:Fw k):k<A (M w):=by cases o with|none=>obtain⟨_,rfl⟩:=h;exact a.elim|some d=>obtain⟨v,_,h⟩:=h;exact h.lt a
theorem vw.keep(h:vw w o pa Fw)(a:But G w w')(hF:∀k,Fw k->¬G k):vw w' o pa Fw:=by cases o with|none=>exact h|some d=>obtain⟨v,e,h⟩:=h;exact⟨v,e,h.keep a hF⟩
theorem vw.grow(h:vw w o pa Fw)(k:Lw w w'):vw w' o pa Fw:=h.keep (G:=λ_=>False) (But.ykg k) λ_ _ e=>e
theorem ybm.lt(h:ybm w D o F){k:Nat}(a:F k):k<A (M w):=by obtain⟨pa,Fw,d,c,_,rfl⟩:=h;rcases a with rfl|a;{grind};exact c.lt a
theorem ybm.keep(h:ybm w D o F)(c:But G w w')(hF:∀k,F k->¬G k):ybm w' D o F:=by obtain⟨pa,Fw,a,f,e,rfl⟩:=h;exact⟨pa,Fw,(c.block D (P.1 a).1 (hF D (.inl rfl))).trans a,f.keep c λk d=>hF k (.inr d),e,rfl⟩
theorem ybm.grow(h:ybm w D o F)(k:Lw w w'):ybm w' D o F:=h.keep (G:=λ_=>False) (But.ykg k) λ_ _ e=>e
theorem ybm.new(w:kp):ybm (w.alloc (V #[Z J] 43)) (A (M w)) J (λk=>k=A (M w)):=⟨J,λ_=>False,U _ _,⟨rfl,rfl⟩,id,ς⟩
theorem yhM(h:vw g o pa Fw):Tn ⟨g,Fw⟩ (g.alloc (V #[.pointer pa,Z J,kA J 0 0] 52)) (A (M g)) o []:=by have c:=zA (zR g) (V #[.pointer pa,Z J,kA J 0 0] 52);have j:yaq (g.alloc (V #[.pointer pa,Z J,kA J 0 0] 52)) (A (M g)) (.pointer pa) [] (λk=>k=A (M g)\/(yP J 0 0).ownBlock=I k):=⟨Z J,kA J 0 0,U _ _,.inl rfl,World.ownsRow_nil _ _ _ _,by simp[yR],rfl⟩;have hF:∀k,(k=A (M g)\/(yP J 0 0).ownBlock=I k)->k=A (M g):=λk a=>a.elim id λe=>by{simp[yR]at e};have f:Tl0 ⟨g,Fw⟩ (g.alloc (V #[.pointer pa,Z J,kA J 0 0] 52)) (A (M g)) (.pointer pa) [] (λk=>k=A (M g)\/(yP J 0 0).ownBlock=I k):=⟨j,(But.ykg c).mono (F:=λ_=>False) λi _ e=>False.elim e,λk a=> .inr (yT (hF k a).symm)⟩;cases o with|none=>obtain⟨rfl,rfl⟩:=h;exact⟨_,f⟩|some d=>obtain⟨v,rfl,h⟩:=h;exact⟨v,_,Fw,f,h.grow c,λk a l=>by have:=h.lt l;grind,λk a=> .inl a⟩
theorem yiV(h:Tn ⟨g,Fw⟩ w b o bs):∃c f a,yaq w b (.pointer c) bs f/\vw w o c a/\But Fw g w/\(∀k,a k->Fw k\/A (M g)<=k)/\(∀k,f k->¬a k)/\(∀k,f k->Fw k\/A (M g)<=k):=by cases o with|none=>obtain⟨F,t⟩:=h;exact⟨J,F,λ_=>False,t.tl,⟨rfl,rfl⟩,t.bel,λk e=>e.elim,λk _ e=>e,t.hi⟩|some d=>obtain⟨v,F,a,t⟩:=h;exact⟨_,F,a,t.tl.tl,⟨v,rfl,t.wt⟩,t.tl.bel,t.hw,t.ap,t.tl.hi⟩
theorem yav(w:kp):uK Q 7 #[] w λe w'=>e=kO (Z (I ⟨A (M w),0,J⟩))/\w'=w.alloc (V #[Z J] 43):=by go_enter func7,ntmps7;go_wp2;go_ret;simp_all
theorem qk.of{W:Bs}{G:Nat->Prop}(h:qk W)(j:But W.G W.w g)(i:∀k,G k->W.G k\/W.w.heap.size<=k):qk ⟨g,G⟩:=by obtain⟨d,f,a,c⟩:=h;exact⟨d,f,a.trans (j.below a.size c),λk l=>(i k l).elim (c k) λe=>yB a.size e⟩
theorem yeT(m:Option Addr)(d:Nat)(L:List (List UInt8))(w:kp)(u:ρ L<=300->zV w m L)(f:(ykG L).1≠0):uK Q 8 #[Z (I ⟨D,0,J⟩),kA m L.length d] w λe w'=>e=kO (uc #[.string ByteArray.empty,xV (ykG L)])/\Below (A (M w)) w w':=by obtain⟨c,a⟩:=eY (w.alloc (V #[N Y 0,N Y 0] 33));have l:Below (A (M w)) w c:=by{rw[a];exact zA (zR _) _};have t:c.heap[A (M w)]?=I (V #[N Y 0,N Y 0] 33 (0,0)):=by{rw[a];exact U _ _};have rO:A (M c)=A (M w)+1:=by{rw[a];simp};have g:=jV m d L c λh=>(u h).below l;have K:ykG L=(10,-1)\/∃k:Nat,ykG L=(11,(k:Int)):=by{unfold ykG at f ⊢;split;{exact .inl rfl};rename_i h;rw[iN h]at f;split;{exact .inr ⟨_,rfl⟩};rename_i T;rw[T]at f;exact absurd rfl f};have W:=η l;have nU:=η t;have s:A (M w)<A (M c):=ω;clear u f l t rO;generalize y:A (M w)=j at*;have q:=η y;clear y;rcases K with n|⟨k,n⟩;all_goals rw[n]at g ⊢;simp only[xV]at g ⊢;clear n;go_enter func8,ntmps8;go_upto_region 1 with fail;rw[<-a];clear a;rw[q.o];go_wp2_with fail;refine g.mono ?_;rintro e z ⟨rfl,i⟩;have r:=(i.block j s).trans nU.o;obtain⟨⟨z0,z1⟩,zf⟩:=zP r;have x:=uv s i.size;have S:Hh (Below (A (M w)) w z):=zT (show Below (A (M w)) w _ by rw[q.o];exact W.o) i;clear i g r;go_wp2_with (go_region);(first|refine km (v:=uc #[.string ByteArray.empty,.agg #[N Y 10,N Y (-1)]]) ?_ rfl ⟨rfl,?_⟩|refine km (v:=uc #[.string ByteArray.empty,.agg #[N Y 11,N Y k]]) ?_ rfl ⟨rfl,?_⟩);{simp[results,results8,go_sem,z0,z1,x];rfl};have X:Below j w z:=by{rw[<-q.o];exact S.o};exact(((X.setCell (p:=⟨j,0,J⟩) (us _) _).setCell (p:=⟨j,1,J⟩) (us _) _).alloc (Nat.le_of_lt (by simpa using x)) _).drew
theorem ycI(u:Option Addr)(cap:Nat)(L:List (List UInt8))(hl:ρ L<=300)(w:kp)(hn:zV w u L)(gH:∀g o',u=I ⟨g,o',J⟩->0<ρ L->¬F g)(hs:∀l ∈ L,ρ l<=1000000)(hf:ykG L=(0,0))(hG:qk ⟨w,F⟩)(hD:ybm w D o F)(n:Int)(nC:0<=n/\n<=90000)(y:TiLe o n):uK Q 8 #[Z (I ⟨D,0,J⟩),kA u L.length cap] w λe w'=>e=kO (uc #[.string (zl (runD o L).2),xV (0,0)])/\(∃S,ybm w' D (runD o L).1 S/\But F w w'/\∀k,S k->F k\/A (M w)<=k)/\TiLe (runD o L).1 (n+ρ L)/\(runD o L).2.length<=800000*ρ L:=by obtain⟨pa,Fw,Gu,hO,hnD,rfl⟩:=hD;have Mc:=(P.1 Gu).1;obtain⟨W1,K⟩:=eY (w.alloc (V #[N Y 0,N Y 0] 33));have Ha:Below (A (M w)) w W1:=by{rw[K];exact zA (zR _) _};have gL:W1.heap[A (M w)]?=I (V #[N Y 0,N Y 0] 33 (0,0)):=by{rw[K];exact U _ _};have dZ:A (M w)<A (M W1):=by{rw[K];simp};have HC:=jV u cap L W1 λh=>hn.below Ha;rw[hf]at HC;simp only[xV]at HC ⊢;have Hw:=η Ha;have nU:=η gL;have HN:Hh (zV w u L):=hn;have Rw:Hh (∀g o',u=I ⟨g,o',J⟩->0<ρ L->¬Fw g):=λg o' e h hw=>gH g o' e h (.inr hw);have HS:=η hs;have HG:=η hG;have wF:=η Gu;have HO:Hh (vw w o pa Fw):=hO;have De:Hh (¬Fw D):=hnD;have RB:Hh (TiLe o n):=y;have U9:Hh (0<=n/\n<=90000):=nC;have HL:Hh (ρ L<=300):=hl;have kM:Hh (∀k,Fw k->k<A (M w)):=λk j=>hO.lt j;clear hn hf Ha gL gH hs hG Gu hO hnD y nC hl;generalize pK:A (M w)=c at*;have z:Hh (A (M w)=c):=pK;clear pK;go_enter func8,ntmps8;go_upto_region 1 with fail;rw[<-K];clear K;rw[z.o];go_wp2_with fail;refine HC.mono ?_;rintro e w2 ⟨rfl,Hd⟩;have au:Hh (w2.heap[c]?=I (V #[N Y 0,N Y 0] 33 (0,0))):=(Hd.block c dZ).trans nU.o;have lz:c<A (M w2):=uv dZ Hd.size;have Hr:Hh (Below (A (M w)) w w2):=zT (show Below (A (M w)) w _ by rw[z.o];exact Hw.o) Hd;obtain⟨d,rU⟩:=eY (w2.alloc (V #[N Y 0,N Y 0] 33));have He:Lw w2 d:=by{rw[rU];exact zA (zR _) _};have r:Hh (Below (A (M w)) w d):=zT Hr.o He;have OI:Hh (d.heap[c]?=I (V #[N Y 0,N Y 0] 33 (0,0))):=(He.block c lz).trans au.o;have LP:Hh (d.heap[D]?=I (V #[.pointer pa] 43 (0,0))):=(r.o.block D (by rw[z.o];exact Mc)).trans wF.o;have c0:ψ d ⟨D,0,J⟩=I (.pointer pa):=by{simp[World.cell?,LP.o]};clear Hd HC He Hw nU au Hr;go_upto_region 4 with fail;rw[<-rU];clear rU;have oD:Hh (qk ⟨d,Fw⟩):=HG.o.of (G:=Fw) ((But.ykg r.o).mono (F:=λ_=>False) λi _ e=>False.elim e) λk j=> .inl (.inr j);have bW:Hh (vw d o pa Fw):=HO.o.grow r.o;have T0:Hh (Tn ⟨d,Fw⟩ (d.alloc (V #[.pointer pa,Z J,kA J 0 0] 52)) (A (M d)) o []):=yhM bW.o;have LY:Hh (c<A (M d)):=(P.1 OI.o).1;have UK:Hh (D<A (M d)):=(P.1 LP.o).1;clear dZ Mc bW;go_upto_region 5 with fail;clear c0;generalize fB:A (M d)=b at*;have TS:Hh (A (M d)=b):=fB;generalize d.alloc (V #[.pointer pa,Z J,kA J 0 0] 52)=W4 at*;have T0':Hh (Tn ⟨d,Fw⟩ W4 b (runD o (L.take 0)).1 (runD o (L.take 0)).2):=by{rw[Hh,kh];exact T0.o};have CB:Hh (TiLe (runD o (L.take 0)).1 (n+(0:Nat))):=by{rw[Hh,kh];exact RB.o.mono ω};clear fB T0;go_wp2;go_loopw [24] (λi wr=>∃(k:Nat),i=N Y k/\k<=ρ L/\Hh (Tn ⟨d,Fw⟩ wr b (runD o (L.take k)).1 (runD o (L.take k)).2)/\Hh (TiLe (runD o (L.take k)).1 (n+k))/\Hh (ρ (runD o (L.take k)).2<=800000*k)) (λi _=>L.length-(intOf i).toNat);(case atStart=>exact⟨0,rfl,yV _,T0',CB,by rw[Hh,kh];exact us _⟩);case round=>obtain⟨k,rfl,j,T,TI,TL⟩:=hrel;clear T0' CB;by_cases s:k<ρ L;{have Ga:(0:Int)<=(k:Int):=ω;have i1:(k:Int)<(ρ L:Int):=ω;have i2:(k:Int)<300:=by{have:=HL.o;omega};obtain⟨g,of,rfl,hg,hc⟩:=HN.o k s;have fT:=(r.o.cell (p:=⟨g,of+k,J⟩) hg).trans hc;have c0:=(T.o.bel.cell (a:=⟨g,of+k,J⟩) (uv hg r.o.size) (Rw.o g of rfl ω)).trans fT;have tQ:ρ (L.getD k [])<=1000000:=HS.o _ (by rw[List.getD,ud s];exact List.getElem_mem s);have hT:L.take (k+1)=L.take k++[L.getD k []]:=by{rw[List.take_add_one,ud s];simp[List.getD,s]};have hR:runD o (L.take (k+1))=((ykE (runD o (L.take k)).1 (L.getD k [])).1,(runD o (L.take k)).2++(ykE (runD o (L.take k)).1 (L.getD k [])).2):=by{rw[hT,yoi]};generalize L.getD k []=x at*;have I9:=U9.o;have y:=TI.o.mono (m:=100000) (by have:=HL.o;omega);have mI:=yhL (zl x) (by rw[zd];exact tQ) y oD.o T.o (by have:=TL.o;have:=HL.o;omega);rw[qI]at mI;have Oz:Hh (TiLe (runD o (L.take (k+1))).1 (n+((k+1:Nat):Int))):=by{rw[Hh,hR];have:=yoZ (n:=n+k) ω TI.o T.o.dinv x;exact this.mono ω};have OA:Hh (ρ (runD o (L.take (k+1))).2<=800000*(k+1)):=by{rw[Hh,hR];have h1:=TL.o;have h2:=yod T.o.dinv (T.o.ok y) x;simp only[ks];omega};have HR:Hh (runD o (L.take (k+1))=((ykE (runD o (L.take k)).1 x).1,(runD o (L.take k)).2++(ykE (runD o (L.take k)).1 x).2)):=hR;have rY:Hh (k<ρ L):=s;clear hc fT tQ hT hR I9 y j s hg T TI TL;go_wp2_with fail;refine mI.mono ?_;rintro e w5 ⟨rfl,hT5⟩;have T5:Hh (Tn ⟨d,Fw⟩ w5 b (runD o (L.take (k+1))).1 (runD o (L.take (k+1))).2):=by{rw[Hh,HR.o];exact hT5};clear hT5 mI HR c0;go_wp2_with fail;refine⟨⟨k+1,by go_num,rY.o,T5,Oz,OA⟩,?_⟩;have:=rY.o;simp[intOf];omega};have dH:k=ρ L:=ω;have T6:Hh (Tn ⟨d,Fw⟩ wr b (runD o L).1 (runD o L).2):=by{have:=T.o;rw[dH,yS]at this;exact this};have Pj:Hh (TiLe (runD o L).1 (n+ρ L)/\(runD o L).2.length<=800000*ρ L):=by{have h1:=TI.o;have h2:=TL.o;rw[dH,yS]at h1 h2;exact⟨h1,h2⟩};clear T TI TL;obtain⟨t,Fb,lK,ht,fF,sS,KC,lU,uQ⟩:=yiV T6.o;have EH:=r.o.size;have EO:=TS.o;have FN:¬Fw c:=λe=>by{have:=kM.o _ e;omega};have OM:Hh (wr.heap[c]?=I (V #[N Y 0,N Y 0] 33 (0,0))):=(sS.block c (by rw[TS.o];exact LY.o) FN).trans OI.o;have X:Hh (wr.heap[D]?=I (V #[.pointer pa] 43 (0,0))):=(sS.block D (by rw[TS.o];exact UK.o) De.o).trans LP.o;have Md:D≠c:=λe=>by{have:=(P.1 wF.o).1;have:=z.o;omega};have Wn:∀k,Fb k->k≠D:=λk h e=>by{have:=UK.o;rcases uQ k h with h|h;{exact De.o (e▸h)};omega};have nRF:∀k,Fb k->k≠c:=λk h e=>by{have:=LY.o;rcases uQ k h with h|h;{exact FN (e▸h)};omega};have Wq:∀k,lK k->k≠D:=λk h e=>by{have:=UK.o;rcases KC k h with h|h;{exact De.o (e▸h)};omega};have nRW:∀k,lK k->k≠c:=λk h e=>by{have:=LY.o;rcases KC k h with h|h;{exact FN (e▸h)};omega};obtain⟨W7,mK⟩:=eY (φ wr ⟨D,0,J⟩ (.pointer t));have rQ:But (λk=>k=D) wr W7:=by{rw[mK];exact(But.refl (λk=>k=D) _).setCell (a:=⟨D,0,J⟩) (.inr rfl) _};have UI:Hh (W7.heap[D]?=I (V #[.pointer t] 43 (0,0))):=by{rw[Hh,mK];exact heap_setCell_same wr D 0 _ _ _ X.o};have ht7:=ht.keep rQ Wn;have OJ:Hh (W7.heap[c]?=I (V #[N Y 0,N Y 0] 33 (0,0))):=(rQ.block c (P.1 OM.o).1 (λe=>Md e.symm)).trans OM.o;have bN:=yhN ht7;obtain⟨pp,vv,fq⟩:=ht.row;obtain⟨c0,cf⟩:=yij fq;have cD:ψ wr ⟨D,0,J⟩=I (.pointer pa):=by{simp[World.cell?,X.o]};have fD:υ wr ⟨D,0,J⟩=kW:=by{simp[World.frozen?,X.o]};have lD:D<A (M wr):=(P.1 X.o).1;have W:Hh (∀f,But Fb W7 f->f.heap[c]?=I (V #[N Y 0,N Y 0] 33 (0,0))):=λf q=>(q.block c (P.1 OJ.o).1 (λe=>nRF _ e rfl)).trans OJ.o;have Ro:Hh (∀f,But Fb W7 f->∀x0 x1,∃S,ybm (φ (φ f ⟨c,0,J⟩ x0) ⟨c,1,J⟩ x1) D (runD o L).1 S/\But (λk=>k=D\/Fw k) w (φ (φ f ⟨c,0,J⟩ x0) ⟨c,1,J⟩ x1)/\∀k,S k->(k=D\/Fw k)\/c<=k):=λf q x0 x1=>by{have h9:But (λk=>k=c) f (φ (φ f ⟨c,0,J⟩ x0) ⟨c,1,J⟩ x1):=((But.refl (λk=>k=c) _).setCell (a:=⟨c,0,J⟩) (.inr rfl) _).setCell (a:=⟨c,1,J⟩) (.inr rfl) _;have hD8:=(q.block D (P.1 UI.o).1 (λe=>Wn _ e rfl)).trans UI.o;have hD9:=(h9.block D (P.1 hD8).1 Md).trans hD8;have ho9:=((fF.keep rQ Wq).keep q λk j hb=>lU k hb j).keep h9 nRW;refine⟨_,⟨t,lK,hD9,ho9,λe=>Wq _ e rfl,rfl⟩,?_,λk j=> ?_⟩;{have EG:But (λk=>k=D\/Fw k) w d:=(But.ykg r.o).mono (F:=λ_=>False) λi _ e=>False.elim e;refine(((EG.trans sS λi _ e=> .inr e).trans rQ λi _ e=> .inl e).trans q λi hi e=> ?_).trans h9 λi hi e=> ?_;{rcases uQ i e with e|e;{exact .inr e};have:=z.o;have:=TS.o;omega};have:=z.o;omega};rcases j with rfl|j;{exact .inl (.inl rfl)};rcases KC k j with e|e;{exact .inl (.inr e)};refine .inr ?_;have:=LY.o;have:=TS.o;omega};clear EO EH KC lU uQ fF sS fq rQ Wq nRW Wn nRF ht ht7 r OI LP X OM UI OJ T6;go_upto_region 11 with fail;rw[<-mK];clear mK c0 cf cD fD;go_wp2_with fail;refine bN.mono ?_;rintro e f ⟨rfl,q⟩;obtain⟨⟨z0,z1⟩,zf⟩:=zP (W.o f q);have H8:Hh _:=Ro.o f q;clear q W Ro bN;go_wp2;refine km (v:=uc #[.string (zl (runD o L).2),.agg #[N Y 0,N Y 0]]) ?_ rfl ⟨rfl,H8.o _ _,Pj.o⟩;simp[results,results8,go_sem,z0,z1,lz]
end
namespace Pg
def begL:List (List UInt8):=[[110,101,119,32,49,32,52],[109,97,112,32,53,32,48,32,57,32,49],[97,99,99,101,115,115,32,48,32,53,32,48,32,48],[119,97,108,107,32,48],[108,105,115,116],[99,97,108,109],[119,104,97,116]]
def begS:List UInt8:=[111,107,10,98,97,99,107,10,111,107,10,111,107,10,109,97,112,32,53,32,48,32,57,32,49,10,101,110,100,10,111,107,10,111,107,10,111,107,10,102,114,97,109,101,32,57,32,49,10,99,97,108,109,32,48,32,52,10,119,104,97,116,10]
theorem begFault:ykG begL=(0,0):=by kernel_rfl
theorem begRun:(runD J begL).2=begS:=by kernel_rfl
end Pg
theorem yhJ(h:b.heap[c]?=I (V (xt w).toArray 9 (0,0))):zV b (I ⟨c,0,J⟩) w:=λj k=>by refine⟨c,0,rfl,(P.1 h).1,?_⟩;simp[World.cell?,h,xt,List.getD,k]
theorem yjq:zl (runD J begL).2=⟨#[111,107,10,98,97,99,107,10,111,107,10,111,107,10,109,97,112,32,53,32,48,32,57,32,49,10,101,110,100,10,111,107,10,111,107,10,111,107,10,102,114,97,109,101,32,57,32,49,10,99,97,108,109,32,48,32,52,10,119,104,97,116,10]⟩:=by rw[begRun];rfl
theorem yb0(w:kp)(r:qv w):uK Q 5 #[] w λe t=>e=kO (ur O)/\Lw w t:=by obtain⟨h,a⟩:=eY (w.alloc (V #[Z J] 43));have i:Lw w h:=by{rw[a];exact zA (zR _) _};have l:ybm h (A (M w)) J (λk=>k=A (M w)):=by{rw[a];exact ybm.new w};obtain⟨f,c⟩:=eY (h.alloc (V #[.string ⟨#[110,101,119,32,49,32,52]⟩,.string ⟨#[109,97,112,32,53,32,48,32,57,32,49]⟩,.string ⟨#[97,99,99,101,115,115,32,48,32,53,32,48,32,48]⟩,.string ⟨#[119,97,108,107,32,48]⟩,.string ⟨#[108,105,115,116]⟩,.string ⟨#[99,97,108,109]⟩,.string ⟨#[119,104,97,116]⟩] 9));have b:Lw h f:=by{rw[c];exact zA (zR _) _};have q:f.heap[A (M h)]?=I (V (xt begL).toArray 9 (0,0)):=by{rw[c];exact U _ _};have s:A (M h)=A (M w)+1:=by{rw[a];simp};have d:=ycI (I ⟨A (M h),0,J⟩) 7 begL δ f (yhJ q) (λg y e _ hF=>by injection e with e;injection e with e;omega) δ begFault ⟨w,r,zT i b,λk e=>ω⟩ (l.grow b) 0 δ (TiLe.none 0);rw[yjq,show begL.length=7 from rfl]at d;have p:Hh (Lw w f):=zT i b;have j:=yav w;rw[<-a]at j;simp only[xV]at d;have x:Hh (A (M h)=A (M w)+1):=s;clear i b l q r a s;go_enter func5,ntmps5;go_wp2_with fail;refine j.mono ?_;rintro e z ⟨rfl,rfl⟩;clear j;go_wp2_with fail;rw[<-c];clear c;refine d.mono ?_;rintro e u ⟨rfl,⟨v,_,n,_⟩,_⟩;have m:Hh (Lw w u):=p.o.trans (n.below (B:=A (M w)) p.o.size (λk e=>yT e.symm));clear n d;go_wp2;go_ret;exact⟨rfl,m.o.alloc m.o.size _⟩
def vQ(w:kp)(k:Option Addr)(h:Nat)(q:Nat->ByteArray):Prop:=∀j,j<h->∃g o,k=I ⟨g,o,J⟩/\g<A (M w)/\ψ w ⟨g,o+j,J⟩=I (.string (q j))/\(q j).size<=140737488351232
def yg2(h:Nat)(q:Nat->ByteArray)(e:Ending):Prop:=∃b,e=kO (ur b)/\(b=kW->∀j,j<h->(q j).size<=20000)
theorem yev(f:Option Addr)(h l:Nat)(p:h<=9223372036854775807)(q:Nat->ByteArray)(w:kp)(x:vQ w f h q):uK Q 6 #[kA f h l] w λe w'=>yg2 h q e/\w'=w:=by have S:Hh (vQ w f h q):=x;have nH:Hh (h<=9223372036854775807):=p;clear x p;go_enter func6,ntmps6;go_wp2;go_loopw [3,4] (λs i wr=>∃(k n:Nat),s=N Y n/\i=N Y k/\k<=h/\n<=20000/\wr=w/\Hh (∀j,j<k->(q j).size<=n)) (λ_ i _=>h-(intOf i).toNat);(case atStart=>exact⟨0,0,rfl,rfl,yV _,δ,rfl,λj t=>ω⟩);case round=>obtain⟨k,n,rfl,rfl,K,u,rfl,c⟩:=hrel;by_cases d:k<h;{have Ga:(0:Int)<=(k:Int):=ω;have i1:(k:Int)<(h:Int):=ω;obtain⟨g,of,rfl,hg,c0,F⟩:=S.o k d;have a:Hh (∀m,n+(q k).size<=m->∀j,j<k+1->(q j).size<=m):=λm b j t=>by{by_cases e:j=k;{grind};have:=c.o j ω;omega};have z:Hh (k<h):=d;obtain⟨m,b⟩:=eY (n+(q k).size);have L:wrap64 ((n:Int)+((q k).size:Int))=(m:Int):=by{rw[IntWalk.wrap64_in _ ⟨ω,ω⟩,b];simp};have r:wrap64 ((k:Int)+1)=((k+1:Nat):Int):=by{have:=nH.o;rw[IntWalk.wrap64_in _ ⟨ω,ω⟩];simp};have T:Hh (∀j,j<k+1->(q j).size<=m):=a.o m ω;clear c a F u K d;by_cases y:20000<m;{have W:(20000:Int)<(m:Int):=ω;clear y b;go_wp2;refine km (v:=ur O) ?_ rfl ⟨⟨O,rfl,λe=>by cases e⟩,rfl⟩;simp[results,results6,go_sem]};have W:¬(20000:Int)<(m:Int):=ω;have D:Hh (m<=20000):=by{unfold Hh;omega};clear y b;go_wp2_with fail;refine⟨⟨k+1,m,by rw[L],by rw[r],z.o,D.o,trivial,T⟩,?_⟩;have:=z.o;rw[r];simp only[intOf];omega};have X:Hh (∀j,j<h->(q j).size<=20000):=λj t=>yB (c.o j ω) u;go_wp2;refine km (v:=ur kW) ?_ rfl ⟨⟨kW,rfl,λ_=>X.o⟩,rfl⟩;simp[results,results6,go_sem]
theorem Pg.fault_zero'(h:(ykG w).1=0):ykG w=(0,0):=by grind [ykG]
def qU(h:Nat)(q:Nat->ByteArray):List (List UInt8):=(List.range h).map λj=>(q j).data.toList
theorem ybM{F:Nat->Prop}(a:Lw b g)(h:But F g k)(hF:∀w,F w->A (M b)<=w):Lw b k:=a.trans (h.below a.size hF)
theorem jw(h:Nat)(q:Nat->ByteArray):ρ (qU h q)=h:=by simp[qU]
theorem ygG{q:Nat->ByteArray}(h:d<c):(qU c q).getD d []=(q d).data.toList:=by simp[qU,List.getD,h]
theorem vQ.at'{w:Option Addr}{q:Nat->ByteArray}(h:vQ b w c q):zV b w (qU c q):=λj k=>by rw[jw]at k;obtain⟨g,o,e,d,a,_⟩:=h j k;exact⟨g,o,e,d,by rw[ygG k,ygF];exact a⟩
theorem yac{q:Nat->ByteArray}(h:∀j,j<c->(q j).size<=20000):∀l ∈ qU c q,ρ l<=1000000:=λl w=>by obtain⟨j,k,rfl⟩:=yF.1 w;have:=h j (yN.1 k);have e:ρ (q j).data.toList=(q j).size:=ξ;omega
end Go.Proofs.YtdphiompijbelaaGreatDoor
namespace Go.Proofs.YtdphiompijbelaaGreatDoor
open Go.Proofs.Tryz Pg
open Go.ChangeShapes Go.WideShapes Go.ChangeAt Go.RowKit Go.Joins Go.Deep
variable {b:kp}
theorem yew: "*errors.errorString" = "*" ++ "errors.errorString" := by decide
theorem ygv (u : TypeId) (h : Tryz.prog.typeName? 3 u = I "*errors.errorString") : u = 314 := typeName_ptr_named (nm := "errors.errorString") (by rw [← yew];kernel_rfl) κ δ u (by rw [← yew];exact h)
theorem yi9: Tryz.prog.globalNamed "strconv.ErrSyntax" = I 3 := by kernel_rfl
theorem yi8: Tryz.prog.globalNamed "strconv.ErrRange" = I 4 := by kernel_rfl
theorem yja: Tryz.prog.globalNamed "internal/strconv.uint64pow10" = I 5 := by kernel_rfl
theorem yjo:(Tryz.prog.globals[3]?).map (·.type)=I 118:=by kernel_rfl
theorem yjn:(Tryz.prog.globals[4]?).map (·.type)=I 118:=by kernel_rfl
theorem yjp:(Tryz.prog.globals[5]?).map (·.type)=I 309:=by kernel_rfl
def laidAll: List (String × DataW Unit) := [("math/bits.deBruijn32tab", Rows.laid_math_bits_deBruijn32tab), ("math/bits.deBruijn64tab", Rows.laid_math_bits_deBruijn64tab), ("internal/strconv.uint64pow10", Rows.laid_internal_strconv_uint64pow10), ("unicode/utf8.acceptRanges", Rows.laid_unicode_utf8_acceptRanges), ("strconv.ErrRange", Rows.laid_strconv_ErrRange), ("strconv.ErrSyntax", Rows.laid_strconv_ErrSyntax), ("unicode/utf8.first", Rows.laid_unicode_utf8_first)]
theorem yiS:(Rows.laid_internal_strconv_uint64pow10:DataW Unit)=Lib.tabData .u64 Lib.pow10Tab:=by kernel_rfl
theorem ycS:Tryz.prog.cellsOf 316=1:=by kernel_rfl
theorem yaV:Tryz.prog.cellsOf 9=1:=by kernel_rfl
theorem ycV(h:laidMetH Q laidAll b):qv b:=by rw[MakeChecks.laidMetH_plain _ _ _ κ]at h;have k:=h.tail.tail;have w:=k.tail.tail;have c:=w.tail;rw[yiS]at k;have d:=Lib.tabIs_of_head yja yjp underlying309 underlying93 κ κ k;obtain⟨f,_,a,_⟩:=laid_sentinel c yi9 yjo underlying118 ygv underlying314 underlying316 rfl rfl underlying9 ycS yaV;obtain⟨g,_,e,_⟩:=laid_sentinel w yi8 yjn underlying118 ygv underlying314 underlying316 rfl rfl underlying9 ycS yaV;exact⟨d,⟨_,_,a⟩,⟨_,_,e⟩⟩
section
variable {H:Type} {enc:TypeId×Value->H} {W:kp} {r:Reach} {b0 base:Nat} {spare:Nat->Bool} {held:Bool} {v:Value} {d:DataW H} {p:List MemPlace}
theorem jH{e:TypeId}:∀{l:List (DataW H)}{d:DataW H},d ∈ l->∀n ∈ d.weights Q e,n ∈ DataW.weightsAll Q e l|x::l,d,k,n,hn=>by show n ∈ x.weights Q e++DataW.weightsAll Q e l;rcases List.mem_cons.1 k with rfl|k;{exact ue _ hn};exact List.mem_append_right _ (jH k n hn)
theorem yeo(K:Value.okWide Q W r b0 22 v)(h:DataW.Trod enc Q W base spare held 22 v d p)(i:∀n ∈ d.weights Q 22,n<=reachBytes):∃(l:Option Addr)(k w:Nat)(q:Nat->ByteArray),v=kA l k w/\vQ W l k q/\k<=w/\w<=9223372036854775807:=by obtain⟨S,k,w,rfl⟩:=okWide_slice underlying22 K;obtain⟨t,D⟩:=h;rcases open_strs underlying22 underlying9 yaV D with ⟨e,_⟩|⟨a,z,s,m,c,e,_,F,L,X,y,u⟩;{simp[yQ]at e;obtain⟨_,rfl,rfl⟩:=e;exact⟨S,0,0,λ_=> .empty,rfl,λj g=>absurd g ω,us _,δ⟩};simp[yQ]at e;obtain⟨rfl,rfl,rfl⟩:=e;have uX:k<=m:=by{rw[X];split<;>omega};refine⟨I a,k,w,c,rfl,λj g=> ?_,F,L⟩;obtain⟨f,_⟩:=u j ω;have mV:a.spot=J:=by{obtain⟨_,_,_,_,x⟩:=World.shape?_of_cell? (u 0 ω).1;have i:a.add 0=a:=by{unfold Addr.add;split<;>simp_all};rw[i]at x;exact x};obtain⟨b,o,sp⟩:=a;cases mV;rw[Lib.add_plain]at f;refine⟨b,o,rfl,World.block_lt_of_cell? _ _ f,f,?_⟩;simp only[Prod.mk.injEq]at y;have T:ρ (c j).data.toList<=reachBytes:=by{refine i _ ?_;rw[y.1];unfold DataW.weights;rw[underlying22];refine ua _ (ue _ (jH (yF.2 ⟨j,yN.2 g,rfl⟩) _ ?_));simp[DataW.weights]};have e2:ρ (c j).data.toList=(c j).size:=by{rw[Array.length_toList];rfl};unfold reachBytes at T;omega
end
end Go.Proofs.YtdphiompijbelaaGreatDoor
namespace Go.Proofs.YtdphiompijbelaaGreatDoor
open Go.Proofs.Tryz Pg
open Go.RowKit Go.Sort
variable {l:Int} {u:Option Dk}
namespace Pg
theorem DInv.none:DInv J:=λd e=>by cases e
theorem DInv.next{d:Dk}(h:Inv d.X d.L d.L0/\d.X.C.length<=4)(x:Sx):DInv (I (d.next x)):=λk e=>by injection e with e;subst e;exact⟨ylK h.1 x,by show(d.X.goN x).C.length<=4;rw[(ylJ h.1 x).2];exact h.2⟩
theorem DInv.rest{d:Dk}(h:Inv d.X d.L d.L0/\d.X.C.length<=4):DInv (I (.of d.trs.rest)):=λf e=>by injection e with e;subst e;have k:d.trs.Ok:=⟨h.1,λe c=>by cases c⟩;obtain⟨a,w,b⟩:=yoz (s:=d.trs) h.1;refine⟨((k.ykS _).ymo _).inv,?_⟩;show d.trs.rest.X.C.length<=4;rw[b.len,w.len];exact h.2
theorem askD_dinv(h:DInv u)(k:List UInt8)(w:List Int):DInv (askD u k w).1:=by have j:∀a b,DInv (ymk a b):=λa b d e=>by{unfold ymk at e;split at e;{cases e};rename_i i;have c:bad a b=kW:=by{simpa using i};have m:¬(a<1\/4<a\/b<1\/128<b):=of_decide_eq_false c;injection e with e;subst e;exact⟨ypz ω ω ω,by show(Spc.new a.toNat b.toNat).C.length<=4;simp[Spc.new];omega⟩};unfold askD;split;{exact j _ _};cases u with|none=>exact DInv.none|some d=>have f:=h d rfl;have g:∀w,DInv (d.stp k w).1:=λw=>by{unfold Dk.stp;split;{exact DInv.next f _};exact h};rcases w with _|⟨a,_|⟨l,r⟩⟩;{show DInv (if k=[108,105,115,116]then _ else if k=[99,97,108,109]then _ else _:Option Dk×List UInt8×Bool).1;split;{exact h};split;{exact DInv.rest f};exact h};{show DInv (if k=[102,105,110,100]then _ else if k=[107,101,112,116]then _ else _:Option Dk×List UInt8×Bool).1;split;{exact h};split;{exact h};exact g _};exact g _
theorem lineD_dinv(h:DInv u)(l:List UInt8):DInv (ykE u l).1:=by unfold ykE;split;{exact h};split;{exact h};exact askD_dinv h _ _
structure Runs (o:Option Dk) (n:Int):Prop where
 inv:DInv o
 ti:TiLe o n
theorem Runs.none(n:Int):Runs J n:=⟨.none,.none n⟩
theorem Runs.mono{n m:Int}(h:Runs u n)(k:n<=m):Runs u m:=⟨h.inv,h.ti.mono k⟩
theorem Runs.line(h:Runs u l)(w:0<=l)(k:List UInt8):Runs (ykE u k).1 (l+1):=⟨lineD_dinv h.inv k,yoZ w h.ti h.inv k⟩
theorem Runs.ok(h:Runs u l)(k:l<=100000):∀d,u=I d->d.Ok:=λd e=>yp4 (h.inv d e).1 (h.inv d e).2 (h.ti.mono k d e)
theorem Runs.run:∀(L:List (List UInt8)){o:Option Dk}{n:Int},0<=n->n+ρ L<=100000->Runs o n->Runs (runD o L).1 (n+ρ L)/\(runD o L).2.length<=800000*ρ L| [],o,n,h0,h1,h=>⟨h.mono ς,us _⟩|l::r,o,n,h0,h1,h=>by simp only[ki]at h1;have k:=Runs.run r (o:=(ykE o l).1) (n:=n+1) ω ω (h.line h0 l);have w:=yod h.inv (h.ok ω) l;refine⟨?_,?_⟩;{show Runs (runD (ykE o l).1 r).1 _;refine k.1.mono ?_;simp only[ki];omega};show((ykE o l).2++(runD (ykE o l).1 r).2).length<=_;simp only[ks,ki];have:=k.2;omega
end Pg
end Go.Proofs.YtdphiompijbelaaGreatDoor
