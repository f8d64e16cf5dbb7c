import Derived.Test.YtdphiompijbelaaGreatWalkF
set_option linter.all false
set_option maxRecDepth 100000
open Go.Ending renaming returned->z
open Nat renaming pow_succ->y,mul_assoc->q,add_mul->r,one_mul->kS,le_refl->kC,mul_one->kR
open Go renaming World->K,heap_alloc_new->kI
open Go.IntKind renaming i64->O
open Go.RowKit renaming Hid->Z
open Go.World renaming ownsRow->Y,ownsRow_nil->G
open Go.Value renaming slice->C,slice->V,int->U,ownBlock->D,bool->H,tuple->kJ,pointer->kP
open List renaming length_append->J,length_cons->v,append_nil->p
open Option renaming none->I,some->R
namespace Go.Proofs.YtdphiompijbelaaGreat
open Go.RowKit Go.Sort
theorem vH {P:Program} (w:K) (t ty e:TypeId) (i:TypeInfo) (ht:P.underlying t=R (.slice e)) (hi:P.info? e=R i) (g n cap:Nat) (hn:n<=cap):
 (Builtin.append_ #[t,t] ty #[C (R ⟨g,0,I⟩) n cap,C I 0 0]).run P w= .ok (C (R ⟨g,0,I⟩) n cap) w:=by
 simp[Builtin.append_,run_underlying ht,sizeOf,typeInfo,hi,Builtin.lenOf,hn,run_firstCells_none,storeCells]
theorem jw {P:Program} (w:K) {ops:Array Oper} {rest:List Oper} {o:Oper} {a:Act} {Q:Exit->Act->K->Prop} (hgd:o.guard=I) (d s:Operand) (t:TypeId)
 (ho:o.op= .call {callee:= .builtin .append,args:=#[d,s],argTypes:=#[t,t]}) (e:TypeId) (i:TypeInfo) (ht:P.underlying t=R (.slice e)) (hi:P.info? e=R i) (g n cap:Nat) (hd:a.eval d=C (R ⟨g,0,I⟩) n cap) (hs:a.eval s=C I 0 0) (hn:n<=cap)
 (h:wpList P ops Q rest (a.put o.dst (C (R ⟨g,0,I⟩) n cap)) w):wpList P ops Q (o::rest) a w:=
 wpList_plain hgd fun _ hK=>by
  unfold Oper.wp execOp;simp only[ho,resolve,invoke,builtin,Sem.run_bind,Sem.run_pure,Result.andThen_ok,List.map_toArray,List.map_cons,List.map_nil,hd,hs,vH w t o.type e i ht hi g n cap hn];exact hK _ _ h
namespace Pg
def yhH (th:List Sp×Int):List Mp:=if th.2=0 then zM th.1 else []
def yhJ (t:Int) (th:List Sp×Int):List Int:=if th.2=0 then t::zU th.1 else []
theorem leaf_map {S:Fs} (h:S.Ok) {t:Int} {i lv a:Nat} (hl:(rEn S t i lv).l=true):(spt S t i lv a).mp=(rEn S t i lv).map lv (((a+i)*8^lv:Nat):Int):=by
 obtain⟨_,_,h2⟩:=yii h hl
 have e:(((a+i)*8^lv:Nat):Int)=((a+i:Nat):Int)*span (lv:Int):=by
  have:lv=0\/lv=1\/lv=2:=by omega
  rcases this with rfl|rfl|rfl
  ·simp[span]
  ·simp[span]
  ·simp[span]
 rw[e];rfl
theorem out_maps {S:Fs} {lv:Nat} {rec:Int->Nat->List Sp×Int} {t:Int} {a i:Nat} (hc:ygy S t i lv=0):
 ((rEn S t i lv).on=false->out S zW lv rec t a i=([spt S t i lv a],0))/\((rEn S t i lv).on=true->out S zW lv rec t a i=(spt S t i lv a::(rec (rEn S t i lv).f ((a+i)*8)).1,(rec (rEn S t i lv).f ((a+i)*8)).2)):=by
 constructor<;>intro ho<;>simp[out,zW,hc,ho]
theorem yiu {S:Fs} {lv:Nat} {rec:Int->Nat->List Sp×Int} {t:Int} {a i:Nat} (hc:ygy S t i lv≠0):out S zW lv rec t a i=([],ygy S t i lv):=by simp[out,zW,hc]
theorem mapsOf_cons (s:Sp) (X:List Sp):zM (s::X)=(if s.e.l=true then [s.mp]else [])++zM X:=by simp[zM]
theorem tabsOf_cons (s:Sp) (X:List Sp):zU (s::X)=(if s.e.on=true then [s.e.f]else [])++zU X:=by simp[zU]
end Pg
structure qT (B:Nat) (M:List Pg.Mp) (T:List Int) (ad:Option Addr) (cap:Nat) (ad2:Option Addr) (cap2:Nat) (w:K):Prop where
 m:w.ownsRow B 39 4 (C ad M.length cap) M.length (zC M)
 t:w.ownsRow B 3 1 (C ad2 T.length cap2) T.length (zr T)
 ne:∀k,(V ad M.length cap).ownBlock=R k->(V ad2 T.length cap2).ownBlock≠R k
 nil:M=[]->ad=I/\cap=0
theorem qT.grow {B:Nat} {M:List Pg.Mp} {T:List Int} {ad ad2:Option Addr} {cap cap2:Nat} {w w':K} (h:qT B M T ad cap ad2 cap2 w) (hb:Below w.heap.size w w'):qT B M T ad cap ad2 cap2 w':=
 ⟨zj h.m hb,zj h.t hb,h.ne,h.nil⟩
structure qZ (w:K) (t:Int) (th:List Pg.Sp×Int) (e:Ending) (w':K):Prop where
 end':∃ad cap ad2 cap2,e=z (kJ #[C ad (Pg.yhH th).length cap,C ad2 (Pg.yhJ t th).length cap2,U O th.2])/\qT w.heap.size (Pg.yhH th) (Pg.yhJ t th) ad cap ad2 cap2 w'
 bel:Below w.heap.size w w'
theorem ya5 {w w':K} {t c:Int} {th:List Pg.Sp×Int} (h:th.2=c) (hc:c≠0) (hb:Below w.heap.size w w'):qZ w t th (z (kJ #[C I 0 0,C I 0 0,U O c])) w':=by
 have e1:Pg.yhH th=[]:=by rw[Pg.yhH,if_neg (by omega)]
 have e2:Pg.yhJ t th=[]:=by rw[Pg.yhJ,if_neg (by omega)]
 refine⟨⟨I,0,I,0,?_,?_⟩,hb⟩
 ·rw[e1,e2,h];rfl
 ·rw[e1,e2]
  exact⟨G _ _ _ _,G _ _ _ _,fun k hk=>by simp[D]at hk,fun _=>⟨rfl,rfl⟩⟩
structure qC (w:K) (S:Pg.Fs) (lv:Nat) (t:Int) (a j:Nat) (M:List Pg.Mp) (T:List Int) (ad:Option Addr) (cap:Nat) (ad2:Option Addr) (cap2:Nat) (wr:K):Prop where
 bel:Below w.heap.size w wr
 rows:qT w.heap.size M T ad cap ad2 cap2 wr
 code:(Pg.thr S Pg.zW lv t a).2=(Pg.scan S Pg.zW lv (Pg.sub S Pg.zW lv) t a (8-j) j).2
 maps:(Pg.thr S Pg.zW lv t a).2=0->Pg.zM (Pg.thr S Pg.zW lv t a).1=M++Pg.zM (Pg.scan S Pg.zW lv (Pg.sub S Pg.zW lv) t a (8-j) j).1
 tabs:(Pg.thr S Pg.zW lv t a).2=0->t::Pg.zU (Pg.thr S Pg.zW lv t a).1=T++Pg.zU (Pg.scan S Pg.zW lv (Pg.sub S Pg.zW lv) t a (8-j) j).1
 len:M.length+(8-j)*(1+Pg.cnt' lv)<=4680
 len2:T.length+(8-j)*(1+Pg.cnt' lv)<=4681
theorem qC.yh8 {w:K} {S:Pg.Fs} {lv:Nat} {t:Int} {a j:Nat} {M:List Pg.Mp} {T:List Int} {ad ad2:Option Addr} {cap cap2:Nat} {wr w':K} (h:qC w S lv t a j M T ad cap ad2 cap2 wr) (hj:j<8) {X:List Pg.Sp} {c:Int} (ho:Pg.out S Pg.zW lv (Pg.sub S Pg.zW lv) t a j=(X,c)) (hc:c≠0) (hb:Below wr.heap.size wr w'):
 qZ w t (Pg.thr S Pg.zW lv t a) (z (kJ #[C I 0 0,C I 0 0,U O c])) w':=by
 have hst:=js (S:=S) (L:=Pg.zW) (lv:=lv) (rec:=Pg.sub S Pg.zW lv) (t:=t) (a:=a) hj;rw[ho,if_pos (by simpa using hc)]at hst;refine ya5 ?_ hc (zT h.bel hb);rw[h.code,hst]
theorem qC.next {w:K} {S:Pg.Fs} {lv:Nat} {t:Int} {a j:Nat} {M M':List Pg.Mp} {T T':List Int} {ad ad2 ad' ad2':Option Addr} {cap cap2 cap' cap2':Nat} {wr w':K} (h:qC w S lv t a j M T ad cap ad2 cap2 wr) (hj:j<8) {X:List Pg.Sp} (ho:Pg.out S Pg.zW lv (Pg.sub S Pg.zW lv) t a j=(X,0))
 (hM:M'=M++Pg.zM X) (hT:T'=T++Pg.zU X) (hl:X.length<=1+Pg.cnt' lv) (hb:Below w.heap.size w w') (hr:qT w.heap.size M' T' ad' cap' ad2' cap2' w'):qC w S lv t a (j+1) M' T' ad' cap' ad2' cap2' w':=by
 have hst:=js (S:=S) (L:=Pg.zW) (lv:=lv) (rec:=Pg.sub S Pg.zW lv) (t:=t) (a:=a) hj;rw[ho,if_neg (by simp)]at hst
 have e:(8-j)*(1+Pg.cnt' lv)=(8-(j+1))*(1+Pg.cnt' lv)+(1+Pg.cnt' lv):=by
  rw[show 8-j=(8-(j+1))+1 by omega,r,kS]
 have h1:=h.len;have h2:=h.len2;rw[e]at h1 h2;have l1:=Pg.yg9 X;have l2:=Pg.yhb X;refine⟨hb,hr,by rw[h.code,hst],fun hz=> ?_,fun hz=> ?_,?_,?_⟩
 ·rw[h.maps hz,hst,hM]
  simp[Pg.mapsOf_append]
 ·rw[h.tabs hz,hst,hT]
  simp[Pg.tabsOf_append]
 ·rw[hM,J]
  generalize (8-(j+1))*(1+Pg.cnt' lv)=x at*;omega
 ·rw[hT,J]
  generalize (8-(j+1))*(1+Pg.cnt' lv)=x at*;omega
theorem qC.end' {w:K} {S:Pg.Fs} {lv:Nat} {t:Int} {a:Nat} {M:List Pg.Mp} {T:List Int} {ad ad2:Option Addr} {cap cap2:Nat} {wr:K} (h:qC w S lv t a 8 M T ad cap ad2 cap2 wr):
 qZ w t (Pg.thr S Pg.zW lv t a) (z (kJ #[C ad M.length cap,C ad2 T.length cap2,U O 0])) wr:=by
 have hz:(Pg.thr S Pg.zW lv t a).2=0:=by rw[h.code];rfl
 have e1:Pg.yhH (Pg.thr S Pg.zW lv t a)=M:=by
  rw[Pg.yhH,if_pos hz,h.maps hz];simp[Pg.scan,Pg.zM]
 have e2:Pg.yhJ t (Pg.thr S Pg.zW lv t a)=T:=by
  rw[Pg.yhJ,if_pos hz,h.tabs hz];simp[Pg.scan,Pg.zU]
 refine⟨⟨ad,cap,ad2,cap2,by rw[e1,e2,hz],by rw[e1,e2];exact h.rows⟩,h.bel⟩
theorem qT.yiJ {B:Nat} {M:List Pg.Mp} {T:List Int} {ad ad2:Option Addr} {cap cap2:Nat} {w wA w3:K} {M':List Pg.Mp} {g cap3:Nat} (h:qT B M T ad cap ad2 cap2 w) (hA:Below w.heap.size w wA) (hg:wA.grownBy w3 (V ad M.length cap).ownBlock)
 (ho:w3.ownsRow B 39 4 (C (R ⟨g,0,I⟩) M'.length cap3) M'.length (zC M')) (hat:(V ad M.length cap).ownBlock=R g\/wA.heap.size<=g) (hne:M'≠[]):
 qT B M' T (R ⟨g,0,I⟩) cap3 ad2 cap2 w3/\But (fun k=>(V ad M.length cap).ownBlock=R k) w w3:=by
 have hB:But (fun k=>(V ad M.length cap).ownBlock=R k) w w3:=(But.ygr hA).grown hg fun k hk=> .inr hk;refine⟨⟨ho,zb h.t hB fun k hk e=>h.ne k e hk,fun k hk hk'=> ?_,fun e=>absurd e hne⟩,hB⟩
 have e1:g=k:=by simpa[D]using hk
 subst e1;rcases hat with e|e
 ·exact h.ne g e hk'
 ·have:=(h.t.lt g hk').2
  have:=hA.size;omega
theorem qT.yiK {B:Nat} {M:List Pg.Mp} {T:List Int} {ad ad2:Option Addr} {cap cap2:Nat} {w wA w3:K} {T':List Int} {g cap3:Nat} (h:qT B M T ad cap ad2 cap2 w) (hA:Below w.heap.size w wA) (hg:wA.grownBy w3 (V ad2 T.length cap2).ownBlock)
 (ho:w3.ownsRow B 3 1 (C (R ⟨g,0,I⟩) T'.length cap3) T'.length (zr T')) (hat:(V ad2 T.length cap2).ownBlock=R g\/wA.heap.size<=g):
 qT B M T' ad cap (R ⟨g,0,I⟩) cap3 w3/\But (fun k=>(V ad2 T.length cap2).ownBlock=R k) w w3:=by
 have hB:But (fun k=>(V ad2 T.length cap2).ownBlock=R k) w w3:=(But.ygr hA).grown hg fun k hk=> .inr hk;refine⟨⟨zb h.m hB fun k hk e=>h.ne k hk e,ho,fun k hk hk'=> ?_,h.nil⟩,hB⟩
 have e1:g=k:=by simpa[D]using hk'
 subst e1;rcases hat with e|e
 ·exact h.ne g hk e
 ·have:=(h.m.lt g hk).2
  have:=hA.size;omega
set_option maxHeartbeats 4000000 in
theorem ydn {b g0 g1:Nat} {vm:Value} {S:Pg.Fs}:
 ∀(lv:Nat),lv<4->∀(t:Int) (a:Nat) (w:K),a+8<=8^(4-lv)->zg w b g0 g1 vm S->
  Calls Tryz.prog 60 #[kP (R ⟨b,0,I⟩),U O t,U O (lv:Int),U O ((a*8^lv:Nat):Int)] w fun e w'=>qZ w t (Pg.thr S Pg.zW lv t a) e w':=by
 intro lv
 induction lv using Nat.strongRecOn with
 | _ lv IH=>
 intro hlv t a w ha h;have HT:=zy t w h;have HI:Z _:=IH;have HM:Z _:=h;have HA:Z _:=ha;cases hh:S.has t
 ·have HC:Z ((Pg.thr S Pg.zW lv t a).2=12):=by
   have hrc:Pg.ygy S t 0 lv=12:=by simp[Pg.ygy,hh]
   have hst:=js (S:=S) (L:=Pg.zW) (lv:=lv) (rec:=Pg.sub S Pg.zW lv) (t:=t) (a:=a) (j:=0) (by omega);rw[Pg.yiu (by rw[hrc];decide),hrc]at hst;rw[Z,Pg.yhA];rw[show(8:Nat)=8-0 from rfl,hst];simp
  rw[hh]at HT;clear h IH hh ha;generalize Pg.thr S Pg.zW lv t a=th at*
  go_enter Tryz.func60,Tryz.ntmps60
  go_wp2_with (go_at_call 103;refine HT.mono ?_;rintro e w1 ⟨rfl,hw⟩;subst w1)
  go_ret3
  exact ya5 HC.out (by decide) (zR w)
 ·obtain⟨t0,t1,_⟩:=h.ok.ygG hh
  obtain⟨tn,rfl⟩:=Int.eq_ofNat_of_zero_le t0;have hsm:=h.ok.small;rw[hh]at HT;have HH:Z _:=hh
  have i0:(0:Int)<=(tn:Int):=by omega
  have i1:(tn:Int)<(S.n:Int):=by omega
  have h8:Z (∀i,i<8->(a+i)*8^lv<4096/\(a+i)*8^lv+8^lv<=4096):=by
   intro i hi;have h1:(a+i+1)*8^lv<=8^(4-lv)*8^lv:=Nat.mul_le_mul_right _ (by omega);rw[<-Nat.pow_add,show 4-lv+lv=4 by omega,r,kS]at h1;have:0<8^lv:=Nat.pow_pos (by decide)
   have e:(8:Nat)^4=4096:=by decide
   omega
  have HG:Z (qC w S lv (tn:Int) a 0 [] [(tn:Int)] I 0 (R ⟨w.heap.size,0,I⟩) 1 (w.alloc (.cells #[U O (tn:Int)] 3))):=by
   refine⟨zA (zR w) _,⟨G _ _ _ _,?_,fun k hk=>by simp[D]at hk,fun _=>⟨rfl,rfl⟩⟩,by rw[Pg.yhA],fun _=>by rw[Pg.yhA];rfl,fun _=>by rw[Pg.yhA];rfl,?_,?_⟩
   ·refine⟨by simp[zr],.inr ⟨w.heap.size,1,#[U O (tn:Int)],rfl,kC _,kI w _,kC _,by decide,rfl,by simp[zr]⟩⟩
   ·have:lv=0\/lv=1\/lv=2\/lv=3:=by omega
    rcases this with rfl|rfl|rfl|rfl<;>decide
   ·have:lv=0\/lv=1\/lv=2\/lv=3:=by omega
    rcases this with rfl|rfl|rfl|rfl<;>simp[Pg.cnt']
  have hat0:(a*8^lv:Nat)<=4096:=by have:=h8.out 0 (by omega);simp at this;omega
  obtain⟨A,hA⟩:∃A:Nat,A=a*8^lv:=⟨_,rfl⟩;rw[<-hA]at hat0 ⊢;have HAA:Z _:=hA;clear h IH hh ha hA t0
  go_enter Tryz.func60,Tryz.ntmps60
  go_wp2_with (go_at_call 103;refine HT.mono ?_;rintro e w1 ⟨rfl,hw⟩;subst w1)
  go_loopw [11,12,13] (fun v1 v2 i wr=>∃(j:Nat) (M:List Pg.Mp) (T:List Int) (ad:Option Addr) (cap:Nat) (ad2:Option Addr) (cap2:Nat),j<=8/\v1=C ad M.length cap/\v2=C ad2 T.length cap2/\i=U O j/\Z (qC w S lv (tn:Int) a j M T ad cap ad2 cap2 wr)) (fun _ _ i _=>8-(intOf i).toNat)
  case atStart=>exact⟨0,[],[(tn:Int)],I,0,R ⟨w.heap.size,0,I⟩,1,by omega,rfl,rfl,rfl,HG.out⟩
  case round=>
   obtain⟨j,M,T,ad,cap,ad2,cap2,hj,rfl,rfl,rfl,HR⟩:=hrel;clear HG HT
   by_cases hlt:j<8
   ·have HM2:Z _:=HM.out.keep (F:=fun k=>w.heap.size<=k) (w':=wr) ⟨HR.out.bel.os,HR.out.bel.tape,HR.out.bel.output,HR.out.bel.size,fun k hk _=>HR.out.bel.block k hk⟩ (fun k hk=>by have:=HM.out.raw.lt hk;omega)
    have m0:=HM2.out.raw.c0;have mw:=HM2.out.raw.cw tn j (by omega) hlt;have u0:=HM2.out.ok.low tn j;have u1:=HM2.out.ok.high tn j
    have hrc:Pg.ygy S (tn:Int) j lv=Pg.ygz (S.word tn j) lv:=by simp[Pg.ygy,HH.out]
    have hre:Pg.rEn S (tn:Int) j lv=Pg.En.of (S.word tn j) lv:=by simp[Pg.rEn,HH.out]
    have HEO:=qr (S.word tn j) (lv:Int) u0 u1;rw[Pg.yhd,<-hre,<-hrc]at HEO;have hob:Z _:= @Pg.yiu S lv (Pg.sub S Pg.zW lv) (tn:Int) a j;have hom:Z _:= @Pg.out_maps S lv (Pg.sub S Pg.zW lv) (tn:Int) a j;have HON:Z _:= @Pg.yhz S (tn:Int) j lv;have HLF:Z _:= @Pg.leaf_map S HM2.out.ok (tn:Int) j lv a;have HSP:Z (Pg.spt S (tn:Int) j lv a=⟨(tn:Int),j,lv,a+j,Pg.rEn S (tn:Int) j lv⟩):=rfl;generalize S.word tn j=W at*;clear hre hrc u0 u1;generalize Pg.ygy S (tn:Int) j lv=rc at*;generalize Pg.rEn S (tn:Int) j lv=E at*;generalize Pg.spt S (tn:Int) j lv a=sp at*
    have j0:(0:Int)<=(j:Int):=by omega
    have j1:(j:Int)<8:=by omega
    obtain⟨et,el,er,eu,ed,ef⟩:=E;simp only[Pg.En.val]at HEO;have hbl:=HM2.out.raw.lb;have HL2:Z _:=h8.out j hlt
    have hp8:Z (∀i,i<=lv->j*8^i<=4096):=fun i hi=>by
     have h1:8^i<=8^lv:=Nat.pow_le_pow_right (by decide) hi;have h2:j*8^i<=(a+j)*8^lv:=Nat.mul_le_mul (by omega) h1;have:=HL2.out;omega
    by_cases hrc:rc=0
    ·have homr:Z _:=hom.out hrc
     subst hrc
     go_wp2_with fail
     refine(HEO _).mono ?_;rintro e w1 ⟨rfl,hb1⟩;obtain⟨W5,hW5⟩:∃W5,W5=w1.alloc (.cells #[H et,H el,U O er,H eu,H ed,U O ef] 70):=⟨_,rfl⟩
     have HB5:Z (Below wr.heap.size wr W5):=by rw[hW5];exact zA hb1 _
     have R5:Z _:=HR.out.rows.grow HB5.out;have hsz1:=hb1.size
     have hlE:w1.heap.size<W5.heap.size:=by rw[hW5];simp
     have x0:W5.cell? ⟨w1.heap.size,0,I⟩=R (H et):=by rw[hW5];simp[go_sem]
     have x1:W5.cell? ⟨w1.heap.size,1,I⟩=R (H el):=by rw[hW5];simp[go_sem]
     have x2:W5.cell? ⟨w1.heap.size,2,I⟩=R (U O er):=by rw[hW5];simp[go_sem]
     have x3:W5.cell? ⟨w1.heap.size,3,I⟩=R (H eu):=by rw[hW5];simp[go_sem]
     have x4:W5.cell? ⟨w1.heap.size,4,I⟩=R (H ed):=by rw[hW5];simp[go_sem]
     have x5:W5.cell? ⟨w1.heap.size,5,I⟩=R (U O ef):=by rw[hW5];simp[go_sem]
     clear hb1 m0 mw HEO
     go_wp2_with fail
     rw[<-hW5];clear hW5;generalize w1.heap.size=Eb at*
     go_loop [17,18] (fun n k=>∃(i N:Nat),i<=lv/\N<=4096/\n=U O (N:Int)/\k=U O (i:Int)/\Z (N=j*8^i)) (fun _ k=>lv-(intOf k).toNat)
     case atStart=>exact⟨0,j,by omega,by omega,rfl,rfl,by simp[Z]⟩
     case round=>
      obtain⟨i,N,hi,hN,rfl,rfl,HN⟩:=hrel
      by_cases hil:i<lv
      ·have hN8:N*8<=4096:=by
        have:=hp8.out (i+1) hil;rw[y,<-q,<-HN.out]at this;exact this
       have hiI:(i:Int)<(lv:Int):=by omega
       go_wp2_with fail
       go_round
       case rel=>exact⟨i+1,N*8,by omega,hN8,by go_num,by go_num,by rw[Z,HN.out,y,q]⟩
       case measure=>simp[intOf];omega
      ·have hil':i=lv:=by omega
       subst hil'
       have hiI:¬(i:Int)<(i:Int):=by omega
       have HP:Z ((A:Int)+(N:Int)=(((a+j)*8^i:Nat):Int)):=by
        rw[Z,HAA.out,HN.out,r];simp
       cases el
       ·cases et
        ·have ho:=homr.out.1 rfl
         go_wp2_with fail
         refine⟨⟨j+1,M,T,ad,cap,ad2,cap2,by omega,rfl,rfl,by go_num,HR.out.next hlt ho ?_ ?_ (by simp) (zT HR.out.bel HB5.out) R5.out⟩,by simp[intOf];omega⟩
         ·simp[Pg.zM,HSP.out]
         ·simp[Pg.zU,HSP.out,Pg.En.on]
        ·obtain⟨m,hm⟩:=HON.out rfl
         have ho:=homr.out.2 rfl
         have hsub:Pg.sub S Pg.zW i=Pg.thr S Pg.zW m:=by rw[hm];rfl
         rw[hsub]at ho;have HM5:Z _:=HM2.out.keep (F:=fun k=>wr.heap.size<=k) (w':=W5) ⟨HB5.out.os,HB5.out.tape,HB5.out.output,HB5.out.size,fun k hk _=>HB5.out.block k hk⟩ (fun k hk=>by have:=HM2.out.raw.lt hk;omega)
         have HC:=HI.out m (by omega) (by omega) ef ((a+j)*8) W5 (by
          have:=HA.out;rw[show 4-m=(4-i)+1 by omega,y]
          omega) HM5.out
         have HPm:Z ((((a+j)*8*8^m:Nat):Int)=(A:Int)+(N:Int)):=by
          rw[Z,HP.out,hm,y,q,Nat.mul_comm 8 (8^m)]
         rw[HPm.out]at HC
         have hlm:(i:Int)-1=(m:Int):=by omega
         have hlm1:(1:Int)<=(i:Int):=by omega
         have hln:=Pg.yhB S Pg.zW m ef ((a+j)*8);rw[<-hm]at hln
         try simp only at ho
         generalize Pg.thr S Pg.zW m ef ((a+j)*8)=th at*;have HLN:Z _:=hln;have HO:Z (Pg.out S Pg.zW i (Pg.thr S Pg.zW m) (tn:Int) a j=(sp::th.1,th.2)):=ho;have HSB:Z _:=hsub;clear ho hsub hm hln
         go_wp2_with fail
         refine HC.mono ?_;rintro e w7 ⟨⟨ad3,cap3,ad4,cap4,rfl,R7⟩,hb7⟩;have HB7:Z (Below w.heap.size w w7):=zT (zT HR.out.bel HB5.out) hb7;have hb57:Z (Below wr.heap.size wr w7):=zT HB5.out hb7;have R8:Z _:=R5.out.grow hb7;have H7:Z _:=R7
         by_cases hc:th.2=0
         ·have hcb:(th.2 !=0)=false:=by simp[hc]
          have eM:Pg.yhH th=Pg.zM th.1:=by rw[Pg.yhH,if_pos hc]
          have eT:Pg.yhJ ef th=ef::Pg.zU th.1:=by rw[Pg.yhJ,if_pos hc]
          have HOO:Z (Pg.out S Pg.zW i (Pg.sub S Pg.zW i) (tn:Int) a j=(sp::th.1,0)):=by rw[Z,HSB.out,HO.out,hc]
          have HMX:Z (Pg.zM (sp::th.1)=Pg.zM th.1/\Pg.zU (sp::th.1)=ef::Pg.zU th.1):=by
           rw[Z,Pg.mapsOf_cons,Pg.tabsOf_cons,HSP.out];simp[Pg.En.on]
          have l1:=Pg.yg9 th.1;have l2:=Pg.yhb th.1
          have l3:Z ((sp::th.1).length<=1+Pg.cnt' i):=by rw[Z,v];have:=HLN.out;omega
          rw[eM,eT]at H7 ⊢;have hl1:=HR.out.len;have hl2:=HR.out.len2
          have hcnt:Pg.cnt' i<=584:=by
           have:i=0\/i=1\/i=2\/i=3:=by omega
           rcases this with rfl|rfl|rfl|rfl<;>decide
          have hll:=HLN.out;generalize Pg.zM th.1=M2 at*;generalize hT2:ef::Pg.zU th.1=T2 at*
          have hT20:0<T2.length:=by rw[<-hT2];simp
          have hT21:T2.length<=585:=by rw[<-hT2,v];omega
          have hM21:M2.length<=584:=by omega
          have hMl:M.length<=4680:=by omega
          have hTl:T.length<=4681:=by omega
          clear hT2 R7 hb7 eM eT hc l1 l2 hl1 hl2 hll hcnt;obtain⟨q0,hq,hz0,hz1,hz2⟩:=info_parts yb4;obtain⟨p0,hp,hy0,hy1,hy2⟩:=info_parts qu;have hw7:=HB7.out.size;obtain⟨g4,cap4',e4,_,hg4⟩:=Y.form H7.out.t hT20
          have e4a:ad4=R ⟨g4,0,I⟩:=by injection e4
          subst e4a;clear e4;have hW57:Z (∀k,(V ad M.length cap).ownBlock=R k->k<W5.heap.size):=fun k hk=>(Y.lt R5.out.m k hk).2;have hg45:W5.heap.size<=g4:=(Y.lt H7.out.t g4 rfl).1;have hcT:Z _:=Y.cells H7.out.t (g:=g4) rfl
          by_cases hM2:M2=[]
          ·obtain⟨rfl,rfl⟩:=H7.out.nil hM2
           subst hM2;have hownT:w7.ownsRow w.heap.size 3 1 (C ad2 T.length cap2) T.length (zr T):=R8.out.t
           have hdst:(ad=I/\M.length=0/\cap=0)\/∃g,ad=R ⟨g,0,I⟩/\M.length<=cap:=by
            rcases R8.out.m.2 with ⟨h1,h2⟩|⟨g,cap',cur,h1,_,_,h9,_⟩
            ·injection h1 with h3 h4 h5
             exact .inl ⟨h3,h4,h5⟩
            ·injection h1 with h3 h4 h5
             exact .inr ⟨g,h3,by omega⟩
           have HFin:Z (∀g5 cap5 w9,w9.ownsRow w.heap.size 3 1 (C (R ⟨g5,0,I⟩) (T.length+T2.length) cap5) (T.length+T2.length) (zr T++zr T2)->w7.grownBy w9 (V ad2 T.length cap2).ownBlock->((V ad2 T.length cap2).ownBlock=R g5\/g5=w7.heap.size)->qC w S i (tn:Int) a (j+1) M (T++T2) ad cap (R ⟨g5,0,I⟩) cap5 w9):=by
            intro g5 cap5 w9 h1 h2 h3;have hpt:=qT.yiK R8.out (T':=T++T2) (g:=g5) (cap3:=cap5) (zR w7) h2 (by rw[J,show zr (T++T2)=zr T++zr T2 by simp[zr]];exact h1) (h3.imp id fun h=>by omega);refine HR.out.next hlt HOO.out ?_ ?_ l3.out (HB7.out.trans (hpt.2.below HB7.out.size fun k hk=>(Y.lt R8.out.t k hk).1)) hpt.1
            ·rw[HMX.out.1,p]
            ·rw[HMX.out.2]
           rcases hdst with ⟨rfl,hml,rfl⟩|⟨gd,rfl,hmc⟩
           all_goals
            go_wp2_with (first
             | (at_builtin;refine jw _ rfl _ _ 44 rfl 39 q0 Tryz.underlying44 hq gd M.length cap rfl rfl hmc ?_)
             | (at_builtin;refine wpList_append_lies _ rfl _ _ 45 rfl w.heap.size 3 p0 (U O 0) 1 8 Tryz.underlying45 hp hy0 hy1 hy2 rfl (by decide) _ _ _ rfl hownT ⟨g4,0,I⟩ T2.length cap4 (zr T2) rfl (by rw[ycx,kR]) ?t1 (ycy T2) hT20 ?t3 ?t4 ?t5 (w7.heap.size) rfl ?_))
            case t1=>exact hcT.out
            case t3=>unfold maxLen;omega
            case t4=>omega
            case t5=>omega
            intro g5 cap5 w9 hown9 hgrow9 hat9 hlt9;have fin:Z _:=HFin.out g5 cap5 w9 hown9 hgrow9 hat9;clear hown9 hgrow9 hat9 hlt9 hownT
            go_wp2_with fail
            refine⟨⟨j+1,M,T++T2,_,_,R ⟨g5,0,I⟩,cap5,by omega,?_,by rw[J],by go_num,fin.out⟩,by simp[intOf];omega⟩
            first|rfl|rw[hml]
          ·have hM20:0<M2.length:=List.length_pos_iff.2 hM2
           obtain⟨g3,cap3',e3,_,hg3⟩:=Y.form H7.out.m hM20
           have e3a:ad3=R ⟨g3,0,I⟩:=by injection e3
           subst e3a;clear e3;have hcM:Z _:=Y.cells H7.out.m (g:=g3) rfl;have hown:w7.ownsRow w.heap.size 39 4 (C ad M.length cap) M.length (zC M):=R8.out.m
           go_wp2_with (first
            | (at_builtin;refine wpList_append_lies _ rfl _ _ 44 rfl w.heap.size 39 q0 _ 4 32 Tryz.underlying44 hq hz0 hz1 hz2 rfl (by decide) _ _ _ rfl hown ⟨g3,0,I⟩ M2.length cap3 (zC M2) rfl (vA M2) ?m1 (ybp M2) hM20 ?m3 ?m4 ?m5 (w7.heap.size) rfl ?_))
           case m1=>exact hcM.out
           case m3=>unfold maxLen;omega
           case m4=>omega
           case m5=>omega
           intro g8 cap8 w8 hown8 hgrow8 hat8 hlt8;have hpm:=qT.yiJ R8.out (M':=M++M2) (g:=g8) (cap3:=cap8) (zR w7) hgrow8 (by rw[J,qW];exact hown8) (hat8.imp id fun h=>by omega) (by simp[hM2]);have HPM:Z _:=hpm;have HB8:Z (Below w.heap.size w w8):=HB7.out.trans (hpm.2.below HB7.out.size fun k hk=>(Y.lt hown k hk).1);have hsz8:=hpm.2.size
           have hblk4:w8.heap[g4]?=w7.heap[g4]?:=hpm.2.block g4 hg4 fun e=>by have:=hW57.out g4 e;omega
           have hcT8:Z _:=Y.cells (za H7.out.t (w':=w8) fun k hk=>by have e1:g4=k:=(by simpa[D]using hk);rw[<-e1];exact hblk4) (g:=g4) rfl;have hownT:w8.ownsRow w.heap.size 3 1 (C ad2 T.length cap2) T.length (zr T):=hpm.1.t;clear hown hown8 hgrow8 hat8 hlt8 hpm hblk4 hcT
           go_wp2_with (first
            | (at_builtin;refine wpList_append_lies _ rfl _ _ 45 rfl w.heap.size 3 p0 (U O 0) 1 8 Tryz.underlying45 hp hy0 hy1 hy2 rfl (by decide) _ _ _ rfl hownT ⟨g4,0,I⟩ T2.length cap4 (zr T2) rfl (by rw[ycx,kR]) ?t1 (ycy T2) hT20 ?t3 ?t4 ?t5 (w8.heap.size) rfl ?_))
           case t1=>exact hcT8.out
           case t3=>unfold maxLen;omega
           case t4=>omega
           case t5=>omega
           intro g5 cap5 w9 hown9 hgrow9 hat9 hlt9;have hpt:=qT.yiK HPM.out.1 (T':=T++T2) (g:=g5) (cap3:=cap5) (zR w8) hgrow9 (by rw[J,show zr (T++T2)=zr T++zr T2 by simp[zr]];exact hown9) (hat9.imp id fun h=>by omega)
           have fin:Z (qC w S i (tn:Int) a (j+1) (M++M2) (T++T2) (R ⟨g8,0,I⟩) cap8 (R ⟨g5,0,I⟩) cap5 w9):=by
            refine HR.out.next hlt HOO.out ?_ ?_ l3.out (HB8.out.trans (hpt.2.below HB8.out.size fun k hk=>(Y.lt hownT k hk).1)) hpt.1
            ·rw[HMX.out.1]
            ·rw[HMX.out.2]
           clear hown9 hgrow9 hat9 hlt9 hpt hownT
           go_wp2_with fail
           exact⟨⟨j+1,M++M2,T++T2,R ⟨g8,0,I⟩,cap8,R ⟨g5,0,I⟩,cap5,by omega,by rw[J],by rw[J],by go_num,fin.out⟩,by simp[intOf];omega⟩
         ·have hcb:(th.2 !=0)=true:=by simp[hc]
          have fin:Z _:=HR.out.yh8 hlt (X:=sp::th.1) (c:=th.2) (by rw[HSB.out];exact HO.out) hc hb57.out;clear R7 hb7 hc
          go_wp2_with fail
          go_ret3
          exact fin.out
       ·have ho:=homr.out.1 (by simp[Pg.En.on])
        have HLM:=jc et true er eu ed ef (i:Int) ((A:Int)+(N:Int));rw[Pg.yh2 ⟨et,true,er,eu,ed,ef⟩,HP.out,<-HLF.out rfl]at HLM
        have HSM:Z (Pg.zM [sp]=[sp.mp]/\Pg.zU [sp]=[]):=by simp[Z,Pg.zM,Pg.zU,HSP.out,Pg.En.on]
        have HO:Z _:=ho;rw[<-HP.out]at HLM;generalize sp.mp=m at*;obtain⟨mp,ms,mf,mr⟩:=m;simp only[Pg.Mp.val]at HLM;clear ho HLF;obtain⟨q0,hq,hz0,hz1,hz2⟩:=info_parts yb4;have hlen:=HR.out.len
        have hM:M.length<=4680:=by omega
        go_wp2_with fail
        refine(HLM _).mono ?_;rintro e w6 ⟨rfl,hb6⟩;have R6:Z _:=R5.out.grow hb6;have HB6:Z (Below w.heap.size w w6):=zT (zT HR.out.bel HB5.out) hb6;have hown:w6.ownsRow w.heap.size 39 4 (C ad M.length cap) M.length (zC M):=R6.out.m;have hsz6:=HB6.out.size;clear hb6 HLM x0 x1 x2 x3 x4 x5 hlen
        go_wp2_with (first
         | (at_builtin;refine wpList_append_lies _ rfl _ _ 44 rfl w.heap.size 39 q0 _ 4 32 Tryz.underlying44 hq hz0 hz1 hz2 rfl (by decide) _ _ _ rfl (hown.alloc _) ⟨w6.heap.size,0,I⟩ 1 1 [U O mp,U O ms,U O mf,U O mr] rfl rfl ?c1 ?c2 (by decide) ?c3 ?c4 ?c5 (w6.heap.size+1) (by simp) ?_))
        case c1=>exact World.news_of_block (kI w6 _)
        case c2=>intro u hu;simp at hu;rcases hu with rfl|rfl|rfl|rfl<;>rfl
        case c3=>unfold maxLen;omega
        case c4=>omega
        case c5=>simp;omega
        intro g cap9 w9 hown9 hgrow9 hat9 hlt9
        have e1:M.length+1=(M++[(⟨mp,ms,mf,mr⟩:Pg.Mp)]).length:=by simp
        have e2:zC M++[U O mp,U O ms,U O mf,U O mr]=zC (M++[(⟨mp,ms,mf,mr⟩:Pg.Mp)]):=(jT M ⟨mp,ms,mf,mr⟩).symm;have hp:=qT.yiJ R6.out (M':=M++[(⟨mp,ms,mf,mr⟩:Pg.Mp)]) (g:=g) (cap3:=cap9) (zA (zR w6) (.cells #[U O mp,U O ms,U O mf,U O mr] 39)) hgrow9 (by rw[<-e1,<-e2];exact hown9) (hat9.imp id fun h=>by simp;omega) (by simp);have HP9:Z _:=hp;have hbel9:Z (Below w.heap.size w w9):=HB6.out.trans (hp.2.below HB6.out.size fun k hk=>(Y.lt hown k hk).1);clear hp hown hown9 hgrow9 hat9 hlt9 e1 e2
        go_wp2_with fail
        refine⟨⟨j+1,M++[(⟨mp,ms,mf,mr⟩:Pg.Mp)],T,R ⟨g,0,I⟩,cap9,ad2,cap2,by omega,by simp,rfl,by go_num,HR.out.next hlt HO.out ?_ ?_ (by simp) hbel9.out HP9.out.1⟩,by simp[intOf];omega⟩
        ·rw[HSM.out.1]
        ·rw[HSM.out.2,p]
    ·have hcb:(rc !=0)=true:=by simp[hrc]
     have ho:=hob.out hrc
     go_wp2_with fail
     refine(HEO _).mono ?_;rintro e w1 ⟨rfl,hb1⟩;have fin:Z _:=HR.out.yh8 hlt ho hrc (zA hb1 (.cells #[H et,H el,U O er,H eu,H ed,U O ef] 70));clear hb1 ho hrc
     go_wp2_with fail
     go_ret3
     exact fin.out
   ·have hj8:j=8:=by omega
    subst hj8
    have hlI:¬((8:Nat):Int)<8:=by omega
    go_wp2_with fail
    go_ret3
    exact HR.out.end'
theorem ydl {b g0 g1:Nat} {vm:Value} {S:Pg.Fs} (t:Int) (w:K) (h:zg w b g0 g1 vm S):
 Calls Tryz.prog 14 #[kP (R ⟨b,0,I⟩),U O t] w fun e w'=>qZ w t (Pg.thr S Pg.zW 3 t 0) e w':=by
 have HC:Calls Tryz.prog 60 #[kP (R ⟨b,0,I⟩),U O t,U O 3,U O 0] w fun e w'=>qZ w t (Pg.thr S Pg.zW 3 t 0) e w':=ydn 3 (by omega) t 0 w (by decide) h;clear h;generalize Pg.thr S Pg.zW 3 t 0=th at*
 go_enter Tryz.func14,Tryz.ntmps14
 go_wp2_with fail
 refine HC.mono ?_;rintro e w1 ⟨⟨ad,cap,ad2,cap2,rfl,hr⟩,hb⟩;have fin:Z (qZ w t th (z (kJ #[C ad (Pg.yhH th).length cap,C ad2 (Pg.yhJ t th).length cap2,U O th.2])) w1):=⟨⟨ad,cap,ad2,cap2,rfl,hr⟩,hb⟩;clear hr hb HC
 go_wp2_with fail
 go_ret3
 exact fin.out
end Go.Proofs.YtdphiompijbelaaGreat
