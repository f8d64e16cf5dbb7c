import Derived.Test.YtdphiompijbelaaGreatDoorEntry
import Derived.Test.YtdphiompijbelaaGreatDoorShelf
import Derived.Deep.RegionHeld3
import Derived.Deep.DeepCutAuto
import Derived.Lib.ItoaLen
import Derived.Test.YtdphiompijbelaaGreatDoorWordD
import Derived.Deep.RegionLaw
set_option linter.all false
set_option maxRecDepth 100000
open Int renaming natCast_add->kN
open Bool renaming false->kB,true->kV
open Go.World renaming block_lt_of_cell?->kI
open Go.Obj renaming cells->z
open Nat renaming le_trans->y,le_refl->kS,min_eq_left->kZ
open List renaming length_append->O,getElem?_eq_getElem->kC,length_singleton->kY,mem_of_mem_take->kT,length_take->kQ,take_zero->kO
open Go.Ending renaming returned->Z
open Go.Proofs.Tryz renaming prog->Q
open Go.RowKit renaming Hid->Y
open Go renaming World->N,Value->U,cell_regrown->D,Calls->kP,bodyPost_ret->kF,heap_alloc_new->kU
open Go.Value renaming int->P,pointer->K,bool->M,slice->H,ownBlock->kJ,tuple->kR,int->kK,slice->kM,agg->kX
open Option renaming none->J,some->C
open Go.IntKind renaming i64->I
set_option maxHeartbeats 4000000
namespace Go.Proofs.YtdphiompijbelaaGreatDoor
open Go.RowKit Go.Sort
theorem jh (e:Pg.En) (w:N):
 kP Q 152 #[e.val] w fun x w'=>x=Z (M e.on)/\Below w.heap.size w w':=by
 obtain⟨t,l,r,u,d,f⟩:=e;simp only[Pg.En.val,Pg.En.on];cases t
 ·go_enter Tryz.func152,Tryz.ntmps152
  go_wp2_with fail
  go_ret
  exact⟨rfl,zA (zR w) _⟩
 ·go_enter Tryz.func152,Tryz.ntmps152
  go_wp2_with fail
  go_ret
  exact⟨rfl,zA (zR w) _⟩
theorem qY (i lv:Int) (w:N):
 kP Q 142 #[P I i,P I lv] w fun x w'=>x=Z (M kV)/\w'=w:=by
 go_enter Tryz.func142,Tryz.ntmps142
 go_wp2_with fail
 go_ret
 exact⟨rfl,rfl⟩
theorem yew {b:Nat} {S:Pg.Fs} {F:Nat->Prop} (t:Int) (i lv:Nat) (hi:i<8) (w:N) (h:zh w b S F):
 kP Q 210 #[K (C ⟨b,0,J⟩),P I t,P I (i:Int),P I (lv:Int)] w fun x w'=>x=Z (kR #[(Pg.rEn S t i lv).val,P I (Pg.yhu S t i lv)])/\Below w.heap.size w w':=by
 have hA:zh (w.alloc (z #[M kB,M kB,P I 0,M kB,M kB,P I 0] 82)) b S F:=h.keep (F:=F) (G:=fun _=>False) (But.yhl (zA (zR w) _)) (fun _ _=>id);have HL:=jf t (i:Int) _ hA;have h0:=h.ok.low t.toNat i;have h1:=h.ok.high t.toNat i;cases hh:S.has t
 ·have ha:S.at' t (i:Int)=kB:=by simp[Pg.Fs.at',hh]
  have e1:Pg.rEn S t i lv=Pg.En.zero:=by simp[Pg.rEn,hh]
  have e2:Pg.yhu S t i lv=12:=by simp[Pg.yhu,hh]
  rw[e1,e2]
  have e3:S.load t (i:Int)=0:=by simp[Pg.Fs.load,ha]
  rw[ha,e3]at HL;clear h hA
  go_enter Tryz.func210,Tryz.ntmps210
  go_wp2_with fail
  refine HL.mono ?_;rintro e w' ⟨rfl,hw⟩;subst w'
  go_wp2_with fail
  refine kF (v:=kR #[Pg.En.zero.val,P I 12]) ?_ rfl ⟨rfl,?_⟩
  ·simp[results,Tryz.results210,go_sem,Pg.En.zero,Pg.En.val]
  ·exact zA (zR w) _
 ·have ha:S.at' t (i:Int)=kV:=by simp[Pg.Fs.at',hh];omega
  have e1:Pg.rEn S t i lv=Pg.En.of (S.word t.toNat i) lv:=by simp[Pg.rEn,hh]
  have e2:Pg.yhu S t i lv=Pg.yhz (S.word t.toNat i) lv:=by simp[Pg.yhu,hh]
  have e3:S.load t (i:Int)=S.word t.toNat i:=by simp[Pg.Fs.load,ha]
  rw[e1,e2];rw[ha,e3]at HL;clear h hA e1 e2 e3;generalize S.word t.toNat i=W at*;have HD:=jD W (lv:Int) h0 h1;rw[Pg.ykF]at HD;generalize Pg.En.of W (lv:Int)=e at*;obtain⟨t',l,r,u,d,f⟩:=e;simp only[Pg.En.val]at HD ⊢;generalize Pg.yhz W (lv:Int)=c at*
  go_enter Tryz.func210,Tryz.ntmps210
  go_wp2_with fail
  refine HL.mono ?_;rintro e w' ⟨rfl,hw⟩;subst w'
  go_wp2_with fail
  refine(HD _).mono ?_;rintro e w1 ⟨rfl,hb1⟩;have hB:Below w.heap.size w w1:=zT (zA (zR w) _) hb1;obtain⟨hc1,hf1⟩:=qD hb1
  go_wp2_with fail
  refine kF (v:=kR #[kX #[M t',M l,P I r,M u,M d,P I f],P I c]) ?_ rfl ⟨rfl,?_⟩
  ·simp[results,Tryz.results210,go_sem,hc1]
  ·exact(((((hB.setCell (by simp) _).setCell (by simp) _).setCell (by simp) _).setCell (by simp) _).setCell (by simp) _).setCell (by simp) _
def Pg.Sp.val (s:Pg.Sp):U:=kX #[P I s.table,P I (s.place:Int),P I (s.level:Int),P I (s.ahead:Int),M s.e.t,M s.e.l,P I s.e.r,M s.e.u,M s.e.d,P I s.e.f]
structure ybV (b:Nat) (S:Pg.Fs) (F:Nat->Prop) (g h:FuncId) (ca cb:Array U) (L:Nat->Nat->Bool) (R:List Pg.Sp->(Nat->Prop)->N->Prop):Prop where
 eg:∀args w,(callFunc g args).run Q w= .ok (.enter g args) w
 eh:∀args w,(callFunc h args).run Q w= .ok (.enter h args) w
 fr:∀X V w,R X V w->zh w b S F
 lt:∀X V w,R X V w->∀k,V k->k<w.heap.size
 grow:∀X V w w',R X V w->Below w.heap.size w w'->R X V w'
 looks:∀(i lv:Nat) X V w,i<8->lv<4->R X V w->kP Q g (#[P I (i:Int),P I (lv:Int)]++ca) w fun e w'=>e=Z (M (L i lv))/\Below w.heap.size w w'
 meets:∀(s:Pg.Sp) X V w,s.place<8->s.level<4->s.ahead<4096->X.length<4680->R X V w->kP Q h (#[s.val]++cb) w fun e w'=>e=Z (kR #[])/\∃V',R (X++[s]) V' w'/\But V w w'/\∀k,V' k->V k\/w.heap.size<=k
structure j6 (R:List Pg.Sp->(Nat->Prop)->N->Prop) (V:Nat->Prop) (w:N) (v0 v1 v2:U) (X:List Pg.Sp) (V':Nat->Prop) (wr:N):Prop where
 r:R X V' wr
 but:But V w wr
 new:∀k,V' k->V k\/w.heap.size<k
 c:wr.cell? ⟨w.heap.size,0,J⟩=C v0/\wr.cell? ⟨w.heap.size,1,J⟩=C v1/\wr.cell? ⟨w.heap.size,2,J⟩=C v2
namespace j6
variable {b:Nat} {S:Pg.Fs} {F:Nat->Prop} {g h:FuncId} {ca cb:Array U} {L:Nat->Nat->Bool} {R:List Pg.Sp->(Nat->Prop)->N->Prop} {V V' V'':Nat->Prop} {w wr wr':N} {v0 v1 v2:U} {X X':List Pg.Sp}
theorem grow (T:ybV b S F g h ca cb L R) (G:j6 R V w v0 v1 v2 X V' wr) (hb:Below wr.heap.size wr wr'):j6 R V w v0 v1 v2 X V' wr':=
 ⟨T.grow _ _ _ _ G.r hb,G.but.trans (But.yhl (F:=fun _=>False) hb) (fun _ _ h=>h.elim),G.new,vu hb G.c⟩
theorem lb (G:j6 R V w v0 v1 v2 X V' wr):w.heap.size<wr.heap.size:=kI _ _ G.c.1
theorem step (hV:∀k,V k->k<w.heap.size) (G:j6 R V w v0 v1 v2 X V' wr) (hr:R X' V'' wr') (hb:But V' wr wr') (hn:∀k,V'' k->V' k\/wr.heap.size<=k):j6 R V w v0 v1 v2 X' V'' wr':=by
 have hl:=G.lb
 have hbx:¬V' w.heap.size:=fun hk=>by
  rcases G.new _ hk with h1|h1
  ·have:=hV _ h1;omega
  ·omega
 refine⟨hr,G.but.trans hb (fun i hi hk=> ?_),fun k hk=> ?_,?_,?_,?_⟩
 ·rcases G.new i hk with h1|h1
  ·exact h1
  ·omega
 ·rcases hn k hk with h1|h1
  ·exact G.new k h1
  ·exact .inr (by omega)
 ·exact(hb.cell (a:=⟨w.heap.size,0,J⟩) hl hbx).trans G.c.1
 ·exact(hb.cell (a:=⟨w.heap.size,1,J⟩) hl hbx).trans G.c.2.1
 ·exact(hb.cell (a:=⟨w.heap.size,2,J⟩) hl hbx).trans G.c.2.2
theorem box6 (T:ybV b S F g h ca cb L R) (G:j6 R V w v0 v1 v2 X V' wr) {u0 u1 u2 u3 u4 u5:U} {ty:TypeId} (hb:But V' (wr.alloc (z #[u0,u1,u2,u3,u4,u5] ty)) wr'):
 wr'.cell? ⟨wr.heap.size,0,J⟩=C u0/\wr'.cell? ⟨wr.heap.size,1,J⟩=C u1/\wr'.cell? ⟨wr.heap.size,2,J⟩=C u2/\wr'.cell? ⟨wr.heap.size,3,J⟩=C u3/\wr'.cell? ⟨wr.heap.size,4,J⟩=C u4/\wr'.cell? ⟨wr.heap.size,5,J⟩=C u5:=by
 have hn:¬V' wr.heap.size:=fun hk=>by have:=T.lt _ _ _ G.r _ hk;omega
 have hk:∀o,wr'.cell? ⟨wr.heap.size,o,J⟩=(wr.alloc (z #[u0,u1,u2,u3,u4,u5] ty)).cell? ⟨wr.heap.size,o,J⟩:=fun o=>hb.cell (a:=⟨wr.heap.size,o,J⟩) (by simp) hn
 refine⟨?_,?_,?_,?_,?_,?_⟩<;>rw[hk]<;>simp[go_sem]
theorem done (G:j6 R V w v0 v1 v2 X' V' wr) {A:List Pg.Sp} (e:X++A=X'):∃V',R (X++A) V' wr/\But V w wr/\∀k,V' k->V k\/w.heap.size<=k:=
 ⟨V',e▸G.r,G.but,fun k hk=>(G.new k hk).imp id Nat.le_of_lt⟩
end j6
theorem js {X:List Pg.Sp} {s:Pg.Sp} {j c:Nat} (hj:j<8) (h:X.length+(8-j)*(1+c)<=4680):X.length<4680/\(X++[s]).length+(8-(j+1))*(1+c)+c<=4680/\(X++[s]).length+c<=4680:=by
 have e:(8-j)*(1+c)=(8-(j+1))*(1+c)+(1+c):=by
  rw[show 8-j=(8-(j+1))+1 by omega,Nat.add_mul,Nat.one_mul]
 rw[e]at h;rw[O,kY];generalize (8-(j+1))*(1+c)=x at*;omega
theorem yei {S:Pg.Fs} {L:Nat->Nat->Bool} {lv:Nat} {rec:Int->Nat->List Pg.Sp×Int} {t:Int} {a j:Nat} (hj:j<8):
 Pg.scan S L lv rec t a (8-j) j=if (Pg.out S L lv rec t a j).2≠0 then Pg.out S L lv rec t a j
  else((Pg.out S L lv rec t a j).1++(Pg.scan S L lv rec t a (8-(j+1)) (j+1)).1,(Pg.scan S L lv rec t a (8-(j+1)) (j+1)).2):=by
 have e:8-j=(8-(j+1))+1:=by omega
 rw[e];rfl
theorem ycw {b:Nat} {S:Pg.Fs} {F:Nat->Prop} {g h:FuncId} {ca cb:Array U} {L:Nat->Nat->Bool} {R:List Pg.Sp->(Nat->Prop)->N->Prop} (T:ybV b S F g h ca cb L R):
 ∀(lv:Nat),lv<4->∀(t:Int) (a:Nat) (X:List Pg.Sp) (V:Nat->Prop) (w:N),a+8<=8^(4-lv)->X.length+Pg.cnt' (lv+1)<=4680->R X V w->
  kP Q 175 #[kX #[K (C ⟨b,0,J⟩),.func (.func g) #[] ca,.func (.func h) #[] cb],P I t,P I (lv:Int),P I (a:Int)] w fun e w'=>
   e=Z (P I (Pg.thr S L lv t a).2)/\∃V',R (X++(Pg.thr S L lv t a).1) V' w'/\But V w w'/\∀k,V' k->V k\/w.heap.size<=k:=by
 intro lv
 induction lv using Nat.strongRecOn with
 | _ lv IH=>
 intro hlv t a X V w ha hX hR;have hV:=T.lt _ _ _ hR;rw[Pg.yiv];have ha':a+8<=4096:=y ha (by have:=Nat.pow_le_pow_right (n:=8) (by decide) (show 4-lv<=4 by omega);simpa using this);have HI:Y _:=IH;have HT:Y _:=T;have HV:Y _:=hV;have HX:Y _:=hX;have HA:Y _:=ha
 have HG:Y (j6 R V w (K (C ⟨b,0,J⟩)) (.func (.func g) #[] ca) (.func (.func h) #[] cb) X V (w.alloc (z #[K (C ⟨b,0,J⟩),.func (.func g) #[] ca,.func (.func h) #[] cb] 255))):=
  ⟨T.grow _ _ _ _ hR (zA (zR w) _),But.yhl (zA (zR w) _),fun k hk=> .inl hk,by simp[go_sem],by simp[go_sem],by simp[go_sem]⟩
 clear IH T hV hX ha hR
 go_enter Tryz.func175,Tryz.ntmps175
 go_wp2_with fail
 go_loopw [13] (fun i wr=>∃(j:Nat) (X':List Pg.Sp) (V':Nat->Prop),j<=8/\i=P I j/\Y (j6 R V w (K (C ⟨b,0,J⟩)) (.func (.func g) #[] ca) (.func (.func h) #[] cb) X' V' wr/\X++(Pg.scan S L lv (Pg.sub S L lv) t a 8 0).1=X'++(Pg.scan S L lv (Pg.sub S L lv) t a (8-j) j).1/\(Pg.scan S L lv (Pg.sub S L lv) t a 8 0).2=(Pg.scan S L lv (Pg.sub S L lv) t a (8-j) j).2/\X'.length+(8-j)*(1+Pg.cnt' lv)<=4680)) (fun i _=>8-(intOf i).toNat)
 case atStart=>exact⟨0,X,V,by omega,rfl,HG.out,rfl,rfl,HX.out⟩
 case round=>
  obtain⟨j,X',V',hj,rfl,HR⟩:=hrel;clear HG;have hc:=HR.out.1.c;obtain⟨c0,c1,c2⟩:=hc
  by_cases hlt:j<8
  ·have hst:=yei (S:=S) (L:=L) (lv:=lv) (rec:=Pg.sub S L lv) (t:=t) (a:=a) hlt
   have eg:=HT.out.eg;have eh:=HT.out.eh
   have hlI:(j:Int)<8:=by omega
   cases hL:L j lv
   ·have HL:=HT.out.looks j lv X' V' wr hlt hlv HR.out.1.r
    rw[hL]at HL
    have ho:Pg.out S L lv (Pg.sub S L lv) t a j=([],0):=by simp[Pg.out,hL]
    have HS:Y (Pg.scan S L lv (Pg.sub S L lv) t a (8-j) j=Pg.scan S L lv (Pg.sub S L lv) t a (8-(j+1)) (j+1)):=by
     rw[Y,hst,ho];simp
    clear hst ho hL
    go_wp2_with fail
    refine HL.mono ?_;rintro e w1 ⟨rfl,hb1⟩;have G1:Y _:=HR.out.1.grow HT.out hb1;clear hb1
    go_wp2_with fail
    obtain⟨_,h1,h2,h3⟩:=HR.out;rw[HS.out]at h1 h2;refine⟨⟨j+1,X',V',by omega,by go_num,G1.out,h1,h2,?_⟩,?_⟩
    ·have:(8-(j+1))*(1+Pg.cnt' lv)<=(8-j)*(1+Pg.cnt' lv):=Nat.mul_le_mul_right _ (by omega)
     omega
    ·simp[intOf];omega
   ·have HL:=HT.out.looks j lv X' V' wr hlt hlv HR.out.1.r
    rw[hL]at HL;have HD:=fun w=>yew (b:=b) (S:=S) (F:=F) t j lv hlt w;have HE:Y (Pg.spt S t j lv a=⟨t,j,lv,a+j,Pg.rEn S t j lv⟩):=rfl;have HO:Y _:= @Pg.yhM S t j lv
    by_cases hcd:Pg.yhu S t j lv=0
    ·cases hon:(Pg.rEn S t j lv).on
     ·have ho:Pg.out S L lv (Pg.sub S L lv) t a j=([Pg.spt S t j lv a],0):=by simp[Pg.out,hL,hcd,hon]
      have HS:Y (Pg.scan S L lv (Pg.sub S L lv) t a (8-j) j=(Pg.spt S t j lv a::(Pg.scan S L lv (Pg.sub S L lv) t a (8-(j+1)) (j+1)).1,(Pg.scan S L lv (Pg.sub S L lv) t a (8-(j+1)) (j+1)).2)):=by
       rw[Y,hst,ho];simp
      rw[hcd]at HD;clear hst ho hL hcd HO;generalize Pg.rEn S t j lv=E at*;generalize Pg.spt S t j lv a=sp at*;have HLe:=jh E;rw[hon]at HLe;have HM:=HT.out.meets sp;rw[HE.out]at HM;obtain⟨et,el,er,eu,ed,ef⟩:=E;simp only[Pg.Sp.val,Pg.En.val,kN]at HM HLe HD;clear hon
      go_wp2_with fail
      refine HL.mono ?_;rintro e w1 ⟨rfl,hb1⟩;have G1:Y _:=HR.out.1.grow HT.out hb1;clear hb1 HL c0 c1 c2;obtain⟨c0,c1,c2⟩:=G1.out.c
      go_wp2_with fail
      refine(HD _ (HT.out.fr _ _ _ G1.out.r)).mono ?_;rintro e w2 ⟨rfl,hb2⟩;have G2:Y _:=G1.out.grow HT.out hb2;clear hb2 HD c0 c1 c2 G1;obtain⟨c0,c1,c2⟩:=G2.out.c;have hl2:=G2.out.lb
      go_wp2_with fail
      refine(HM X' V' _ hlt hlv (show a+j<4096 by omega) ?_ (G2.out.grow HT.out (zA (zR w2) _)).r).mono ?_
      ·exact(js (s:=sp) hlt HR.out.2.2.2).1
      rintro e w4 ⟨rfl,V4,hr4,hb4,hn4⟩;have G4:Y _:=(G2.out.grow HT.out (zA (zR w2) _)).step HV.out hr4 hb4 hn4;obtain⟨x0,x1,x2,x3,x4,x5⟩:=G2.out.box6 HT.out hb4;clear c0 c1 c2 hr4 hb4 hn4 HM
      go_wp2_with fail
      refine(HLe _).mono ?_;rintro e w5 ⟨rfl,hb5⟩;have G5:Y _:=G4.out.grow HT.out hb5;clear hb5 x0 x1 x2 x3 x4 x5 HLe
      go_wp2_with fail
      obtain⟨_,h1,h2,h3⟩:=HR.out;rw[HS.out]at h1 h2;refine⟨⟨j+1,X'++[sp],V4,by omega,by go_num,by rw[HE.out];exact G5.out,by simpa using h1,h2,?_⟩,?_⟩
      ·have:=(js (s:=sp) hlt HR.out.2.2.2).2.1
       omega
      ·simp[intOf];omega
     ·obtain⟨m,hm⟩:=HO.out hon
      have hsub:Pg.sub S L lv=Pg.thr S L m:=by rw[hm];rfl
      have ho:Pg.out S L lv (Pg.sub S L lv) t a j=(Pg.spt S t j lv a::(Pg.thr S L m (Pg.rEn S t j lv).f ((a+j)*8)).1,(Pg.thr S L m (Pg.rEn S t j lv).f ((a+j)*8)).2):=by simp[Pg.out,hL,hcd,hon,hsub]
      rw[ho]at hst;rw[hcd]at HD;have HM1:Y (lv=m+1):=hm
      have hlm:(lv:Int)-1=(m:Int):=by omega
      have hlm1:(1:Int)<=(lv:Int):=by omega
      clear ho hL hcd HO hm hsub;generalize Pg.rEn S t j lv=E at*;generalize Pg.spt S t j lv a=sp at*;have HLe:=jh E;rw[hon]at HLe;have HM:=HT.out.meets sp;rw[HE.out]at HM;obtain⟨et,el,er,eu,ed,ef⟩:=E;simp only[Pg.Sp.val,Pg.En.val,kN]at HM HLe HD;simp only at hst;clear hon;have HI2:=HI.out m (by have:=HM1.out;omega) (by have:=HM1.out;omega) ef ((a+j)*8) (X'++[sp]);have HTL:=Pg.ylK S L m ef ((a+j)*8);generalize hth:Pg.thr S L m ef ((a+j)*8)=th at*;have HST:Y _:=hst
      have HLN:Y (th.1.length<=Pg.cnt' lv):=by
       have:=HM1.out;rw[Y,this];exact HTL
      clear hst HTL hth;simp only[Int.natCast_mul,kN]at HI2
      go_wp2_with fail
      refine HL.mono ?_;rintro e w1 ⟨rfl,hb1⟩;have G1:Y _:=HR.out.1.grow HT.out hb1;clear hb1 HL c0 c1 c2;obtain⟨c0,c1,c2⟩:=G1.out.c
      go_wp2_with fail
      refine(HD _ (HT.out.fr _ _ _ G1.out.r)).mono ?_;rintro e w2 ⟨rfl,hb2⟩;have G2:Y _:=G1.out.grow HT.out hb2;clear hb2 HD c0 c1 c2 G1;obtain⟨c0,c1,c2⟩:=G2.out.c;have hl2:=G2.out.lb
      go_wp2_with fail
      refine(HM X' V' _ hlt hlv (show a+j<4096 by omega) ?_ (G2.out.grow HT.out (zA (zR w2) _)).r).mono ?_
      ·exact(js (s:=sp) hlt HR.out.2.2.2).1
      rintro e w4 ⟨rfl,V4,hr4,hb4,hn4⟩;have G4:Y _:=(G2.out.grow HT.out (zA (zR w2) _)).step HV.out hr4 hb4 hn4;have X4:Y _:=G2.out.box6 HT.out hb4;obtain⟨x0,x1,x2,x3,x4,x5⟩:=X4.out;clear c0 c1 c2 hr4 hb4 hn4 HM
      go_wp2_with fail
      refine(HLe _).mono ?_;rintro e w5 ⟨rfl,hb5⟩;have G5:Y _:=G4.out.grow HT.out hb5;have y5:=(qy hb5 X4.out).2.2.2.2.2;clear hb5 x0 x1 x2 x3 x4 x5 HLe X4;obtain⟨c0,c1,c2⟩:=G5.out.c
      go_wp2_with fail
      refine(HI2 V4 w5 ?_ ?_ (by rw[HE.out];exact G5.out.r)).mono ?_
      ·have:=HA.out
       have:=HM1.out;rw[show 4-m=(4-lv)+1 by omega,Nat.pow_succ];omega
      ·have:=(js (s:=sp) hlt HR.out.2.2.2).2.2
       rw[<-HM1.out];exact this
      rintro e w6 ⟨rfl,V6,hr6,hb6,hn6⟩;have G6:Y _:=G5.out.step HV.out hr6 hb6 hn6;clear hr6 hb6 hn6 HI2 c0 c1 c2
      by_cases hc:th.2=0
      ·have hcb:(th.2 !=0)=kB:=by simp[hc]
       go_wp2_with fail
       obtain⟨_,h1,h2,h3⟩:=HR.out;rw[HST.out,if_neg (by simpa using hc)]at h1 h2;refine⟨⟨j+1,X'++[sp]++th.1,V6,by omega,by go_num,G6.out,by simpa using h1,h2,?_⟩,?_⟩
       ·have:=(js (s:=sp) hlt HR.out.2.2.2).2.1
        have:=HLN.out;rw[O];omega
       ·simp[intOf];omega
      ·have hcb:(th.2 !=0)=kV:=by simp[hc]
       go_wp2_with fail
       go_ret
       obtain⟨_,h1,h2,h3⟩:=HR.out;rw[HST.out,if_pos (by simpa using hc)]at h1 h2;exact⟨xm h2.symm,G6.out.done (by simpa using h1)⟩
    ·have ho:Pg.out S L lv (Pg.sub S L lv) t a j=([],Pg.yhu S t j lv):=by simp[Pg.out,hL,hcd]
     rw[ho]at hst;have HST:Y _:=hst
     have hcb:(Pg.yhu S t j lv !=0)=kV:=by simp[hcd]
     have HC:Y _:=hcd;clear hst ho hL HO HE hcd;generalize Pg.rEn S t j lv=E at*;generalize Pg.yhu S t j lv=c at*;obtain⟨et,el,er,eu,ed,ef⟩:=E;simp only[Pg.En.val]at HD
     go_wp2_with fail
     refine HL.mono ?_;rintro e w1 ⟨rfl,hb1⟩;have G1:Y _:=HR.out.1.grow HT.out hb1;clear hb1 HL c0 c1 c2;obtain⟨c0,c1,c2⟩:=G1.out.c
     go_wp2_with fail
     refine(HD _ (HT.out.fr _ _ _ G1.out.r)).mono ?_;rintro e w2 ⟨rfl,hb2⟩;have G2:Y _:=G1.out.grow HT.out hb2;clear hb2 HD c0 c1 c2 G1
     go_wp2_with fail
     go_ret
     obtain⟨_,h1,h2,h3⟩:=HR.out;rw[HST.out,if_pos (by simpa using HC.out)]at h1 h2;exact⟨xm h2.symm,(G2.out.grow HT.out (zA (zR w2) _)).done (by simpa using h1)⟩
  ·have hj8:j=8:=by omega
   subst hj8
   have hlI:¬((8:Nat):Int)<8:=by omega
   go_wp2_with fail
   go_ret
   obtain⟨G,h1,h2,h3⟩:=HR.out;exact⟨xm h2.symm,G.done (by simpa[Pg.scan]using h1)⟩
theorem yaR {b:Nat} {S:Pg.Fs} {F:Nat->Prop} {g h:FuncId} {ca cb:Array U} {L:Nat->Nat->Bool} {R:List Pg.Sp->(Nat->Prop)->N->Prop} (T:ybV b S F g h ca cb L R) (t:Int) (V:Nat->Prop) (w:N) (hR:R [] V w):
 kP Q 145 #[kX #[K (C ⟨b,0,J⟩),.func (.func g) #[] ca,.func (.func h) #[] cb],P I t] w fun e w'=>
  e=Z (P I (Pg.thr S L 3 t 0).2)/\∃V',R (Pg.thr S L 3 t 0).1 V' w'/\But V w w'/\∀k,V' k->V k\/w.heap.size<=k:=by
 have HT:Y _:=ycw T 3 (by omega) t 0 [] V _ (by decide) (by decide) (T.grow _ _ _ _ hR (zA (zR w) (z #[K (C ⟨b,0,J⟩),.func (.func g) #[] ca,.func (.func h) #[] cb] 255)));clear hR T
 go_enter Tryz.func145,Tryz.ntmps145
 go_wp2_with fail
 refine Calls.mono HT.out ?_;rintro e w1 ⟨rfl,V',hr,hb,hn⟩
 have fin:Y (∃V',R (Pg.thr S L 3 t 0).1 V' w1/\But V w w1/\∀k,V' k->V k\/w.heap.size<=k):=
  ⟨V',hr,((But.refl V w).alloc _).trans hb (fun _ _ h=>h),fun k hk=>(hn k hk).imp id (fun h=>by simp at h;omega)⟩
 clear hr hb hn
 go_wp2_with fail
 go_ret
 exact⟨rfl,fin.out⟩
def zv (l:List Int):List U:=l.map fun k:Int=>kK I k
theorem yfy (l:List Int) (j:Nat) (hj:j<l.length):(zv l)[j]?=C (P I (l.getD j 0)):=by
 simp[zv,List.getD,hj]
def zl (w:N) (ad:Option Addr) (L:List Int):Prop:=∀j,j<L.length->∃g,ad=C ⟨g,0,J⟩/\g<w.heap.size/\w.cell? ⟨g,j,J⟩=C (P I (L.getD j 0))
theorem zl.below {w w':N} {ad:Option Addr} {L:List Int} (h:zl w ad L) (hb:Below w.heap.size w w'):zl w' ad L:=by
 intro j hj;obtain⟨g,e,hg,hm⟩:=h j hj;exact⟨g,e,Nat.lt_of_lt_of_le hg hb.size,(hb.cell (p:=⟨g,j,J⟩) hg).trans hm⟩
theorem ji {w:N} {base:Nat} {ad:Option Addr} {n cap:Nat} {L:List Int} (h:w.ownsRow base 3 1 (H ad n cap) L.length (zv L)):zl w ad L:=by
 intro j hj;obtain⟨g,cap',e,_,hg⟩:=h.form (by omega);cases e;refine⟨g,rfl,hg,?_⟩;rw[h.cellAt _ (by omega)];exact yfy L j hj
structure Var (B:Nat) (c o:Nat) (e:TypeId) (size:Nat) (vb:U) (n:Nat) (xs:List U) (w:N):Prop where
 cell:w.cell? ⟨c,o,J⟩=C vb
 own:w.ownsRow B e size vb n xs
 ne:vb.ownBlock≠C c
namespace Var
variable {B c o:Nat} {e:TypeId} {size:Nat} {vb:U} {n:Nat} {xs:List U} {w w':N}
theorem grow (h:Var B c o e size vb n xs w) (hb:Below w.heap.size w w'):Var B c o e size vb n xs w':=
 ⟨cell_later hb h.cell,zr h.own hb,h.ne⟩
theorem lt (h:Var B c o e size vb n xs w) {k:Nat} (hk:vb.ownBlock=C k):k<w.heap.size:=(h.own.lt k hk).2
theorem lb (h:Var B c o e size vb n xs w):c<w.heap.size:=kI _ _ h.cell
theorem push {wA w3:N} {g cap n':Nat} {xs':List U} (h:Var B c o e size vb n xs w) (hA:Below w.heap.size w wA) (hg:wA.grownBy w3 vb.ownBlock)
 (hown:w3.ownsRow B e size (H (C ⟨g,0,J⟩) n' cap) n' xs') (hat:vb.ownBlock=C g\/g=wA.heap.size):
 w3.cell? ⟨c,o,J⟩=C vb/\(∀o,w3.frozen? ⟨c,o,J⟩=w.frozen? ⟨c,o,J⟩)/\(∀o,w3.cell? ⟨c,o,J⟩=w.cell? ⟨c,o,J⟩)/\g≠c/\Var B c o e size (H (C ⟨g,0,J⟩) n' cap) n' xs' (w3.setCell ⟨c,o,J⟩ (H (C ⟨g,0,J⟩) n' cap))/\
  But (fun k=>k=c\/vb.ownBlock=C k) w (w3.setCell ⟨c,o,J⟩ (H (C ⟨g,0,J⟩) n' cap))/\(vb.ownBlock=C g\/w.heap.size<=g):=by
 have hl:=h.lb
 have hgc:g≠c:=by
  rintro rfl;rcases hat with e1|e1
  ·exact h.ne e1
  ·have:=hA.size;omega
 have hB:But (fun k=>k=c\/vb.ownBlock=C k) w w3:=(But.yhl hA).grown hg fun k hk=> .inr (.inr hk);have hB2:But (fun k=>vb.ownBlock=C k) w w3:=(But.yhl hA).grown hg fun k hk=> .inr hk;have hc:w3.cell? ⟨c,o,J⟩=C vb:=(hB2.cell (a:=⟨c,o,J⟩) hl (fun e=>h.ne e)).trans h.cell;refine⟨hc,fun o=>hB2.frozen (a:=⟨c,o,J⟩) hl (fun e=>h.ne e),fun o=>hB2.cell (a:=⟨c,o,J⟩) hl (fun e=>h.ne e),hgc,⟨World.cell?_setCell_same _ _ _ hc,?_,?_⟩,hB.setCell (.inr (.inl rfl)) _,?_⟩
 ·exact zc hown fun k hk=>Below.heap_setCell _ _ _ _ (fun e=>hgc ((show g=k by simpa[kJ]using hk).trans e))
 ·simpa[kJ]using hgc
 ·exact hat.imp id fun e=>by have:=hA.size;omega
end Var
structure qa (w0:N) (c:Nat) (e:TypeId) (size:Nat) (len:List Pg.Sp->Nat) (row:List Pg.Sp->List U) (X:List Pg.Sp) (V:Nat->Prop) (w:N):Prop where
 bel:Below w0.heap.size w0 w
 hi:w0.heap.size<=c
 fz:∀o,w.frozen? ⟨c,o,J⟩=kB
 var:∃vb,Var w0.heap.size c 0 e size vb (len X) (row X) w/\V=fun k=>k=c\/vb.ownBlock=C k
namespace qa
variable {w0:N} {c:Nat} {e:TypeId} {size:Nat} {len:List Pg.Sp->Nat} {row:List Pg.Sp->List U} {X X':List Pg.Sp} {V:Nat->Prop} {w w':N}
theorem grow (h:qa w0 c e size len row X V w) (hb:Below w.heap.size w w'):qa w0 c e size len row X V w':=by
 obtain⟨h1,h2,h3,vb,hv,rfl⟩:=h;exact⟨h1.trans (hb.mono h1.size),h2,fun o=>(hb.frozen (p:=⟨c,o,J⟩) hv.lb).trans (h3 o),vb,hv.grow hb,rfl⟩
theorem lt (h:qa w0 c e size len row X V w) {k:Nat} (hk:V k):k<w.heap.size:=by
 obtain⟨h1,h2,h3,vb,hv,rfl⟩:=h;rcases hk with rfl|hk
 ·exact hv.lb
 ·exact hv.lt hk
theorem same (h:qa w0 c e size len row X V w) (h1:len X'=len X) (h2:row X'=row X):qa w0 c e size len row X' V w:=
 ⟨h.bel,h.hi,h.fz,by rw[h1,h2];exact h.var⟩
theorem stay (h:qa w0 c e size len row X V w) (hb:Below w.heap.size w w') (h1:len X'=len X) (h2:row X'=row X):∃V',qa w0 c e size len row X' V' w'/\But V w w'/\∀k,V' k->V k\/w.heap.size<=k:=
 ⟨V,(h.grow hb).same h1 h2,But.yhl hb,fun k hk=> .inl hk⟩
theorem fr {b:Nat} {S:Pg.Fs} {F:Nat->Prop} (hf:zh w0 b S F) (h:qa w0 c e size len row X V w):zh w b S F:=
 hf.keep (G:=fun k=>w0.heap.size<=k) (w':=w) ⟨h.bel.os,h.bel.tape,h.bel.output,h.bel.size,fun k hk _=>h.bel.block k hk⟩ (fun k hk=>by have:=hf.lt hk;omega)
theorem push (h:qa w0 c e size len row X V w) {vb:U} (hv:Var w0.heap.size c 0 e size vb (len X) (row X) w) (hV:V=fun k=>k=c\/vb.ownBlock=C k) {wA w3:N} {g cap n':Nat} {xs':List U} (hA:Below w.heap.size w wA) (hg:wA.grownBy w3 vb.ownBlock)
 (hown:w3.ownsRow w0.heap.size e size (H (C ⟨g,0,J⟩) n' cap) n' xs') (hat:vb.ownBlock=C g\/g=wA.heap.size) (h1:len X'=n') (h2:row X'=xs'):
 ∃V',qa w0 c e size len row X' V' (w3.setCell ⟨c,0,J⟩ (H (C ⟨g,0,J⟩) n' cap))/\But V w (w3.setCell ⟨c,0,J⟩ (H (C ⟨g,0,J⟩) n' cap))/\∀k,V' k->V k\/w.heap.size<=k:=by
 obtain⟨p1,p2,p2',p3,p4,p5,p6⟩:=hv.push hA hg hown hat;subst hV;refine⟨_,⟨?_,h.hi,fun o=>by rw[World.frozen?_setCell,p2];exact h.fz o,_,by rw[h1,h2];exact p4,rfl⟩,p5,fun k hk=> ?_⟩
 ·have hlo:∀k,(k=c\/vb.ownBlock=C k)->w0.heap.size<=k:=fun k hk=>by
   rcases hk with rfl|hk
   ·exact h.hi
   ·exact(hv.own.lt k hk).1
  exact h.bel.trans (p5.below h.bel.size hlo)
 ·rcases hk with rfl|hk
  ·exact .inl (.inl rfl)
  ·have e1:g=k:=by simpa[kJ]using hk
   subst e1;exact p6.imp .inr id
end qa
theorem jY:(Tryz.prog.info? 3).map (fun i=>(i.zero,i.size,i.bytes))=C (C (P I 0),1,8):=by kernel_rfl
theorem ycv {w0:N} {c:Nat} {t:Int} (s:Pg.Sp) (X:List Pg.Sp) (V:Nat->Prop) (w:N) (hlen:X.length<4680)
 (hR:qa w0 c 3 1 (fun X=>(t::Pg.zU X).length) (fun X=>zv (t::Pg.zU X)) X V w):
 kP Q 151 #[s.val,K (C ⟨c,0,J⟩)] w fun e w'=>e=Z (kR #[])/\∃V',qa w0 c 3 1 (fun X=>(t::Pg.zU X).length) (fun X=>zv (t::Pg.zU X)) (X++[s]) V' w'/\But V w w'/\∀k,V' k->V k\/w.heap.size<=k:=by
 have HT:Y (Pg.zU (X++[s])=Pg.zU X++if s.e.on=kV then [s.e.f]else []):=by simp[Y,Pg.zU]
 have HR:Y _:=hR;have hl:=Pg.tabsOf_len X;obtain⟨st,sp,sl,sa,⟨et,el,er,eu,ed,ef⟩⟩:=s;have HLe:=jh ⟨et,el,er,eu,ed,ef⟩;simp only[Pg.Sp.val,Pg.En.val]at HLe ⊢;simp only at HT;cases hon:Pg.En.on ⟨et,el,er,eu,ed,ef⟩
 ·rw[hon]at HLe HT
  clear hR hon
  go_enter Tryz.func151,Tryz.ntmps151
  go_wp2_with fail
  refine(HLe _).mono ?_;rintro e w1 ⟨rfl,hb1⟩;have fin:Y _:=HR.out.stay (X':=X++[⟨st,sp,sl,sa,⟨et,el,er,eu,ed,ef⟩⟩]) (zT (zA (zR w) _) hb1) (by rw[HT.out];simp) (by rw[HT.out];simp);clear hb1
  go_wp2_with fail
  go_end0
  exact⟨rfl,fin.out⟩
 ·rw[hon]at HLe HT
  obtain⟨vb,hv,hV⟩:=hR.var;obtain⟨q0,hq,hz0,hz1,hz2⟩:=info_parts jY;have HVr:Y _:=hv;have hfz:=hR.fz;have hw0:=hR.bel.size;have hcl:=hv.lb;clear hR hon hv
  go_enter Tryz.func151,Tryz.ntmps151
  go_wp2_with fail
  refine(HLe _).mono ?_;rintro e w1 ⟨rfl,hb1⟩;have hB:Below w.heap.size w w1:=zT (zA (zR w) _) hb1;have x9:w1.cell? ⟨w.heap.size,9,J⟩=C (P I ef):=(hb1.cell (p:=⟨w.heap.size,9,J⟩) (by simp)).trans (by simp[go_sem]);have v1:=HVr.out.grow hB;have cc:=v1.cell
  have hl1:w.heap.size<w1.heap.size:=by have:=hb1.size;simp at this;omega
  have hown:=v1.own;have HB:Y _:=hB;clear hb1 hB v1 HLe
  go_wp2_with (first
   | (at_builtin;refine wpList_append_lies _ rfl _ _ 58 rfl w0.heap.size 3 q0 (P I 0) 1 8 Tryz.underlying58 hq hz0 hz1 hz2 rfl (by decide) _ _ _ rfl (hown.alloc _) ⟨w1.heap.size,0,J⟩ 1 1 [P I ef] rfl rfl ?c1 ?c2 (by decide) ?c3 ?c4 ?c5 (w1.heap.size+1) (by simp) ?_))
  case c1=>
   intro j u hj
   match j,hj with
   | 0,hj=>simp at hj;subst hj;simp[Addr.add,go_sem]
  case c2=>intro u hu;simp at hu;subst hu;rfl
  case c3=>simp[maxLen];omega
  case c4=>simp;omega
  case c5=>have:=HB.out.size;simp;omega
  intro g cap w3 hown3 hgrow hat hlt3;have hbA:=zA HB.out (z #[P I ef] 3)
  have hat':vb.ownBlock=C g\/g=(w1.alloc (z #[P I ef] 3)).heap.size:=by simpa using hat
  obtain⟨p1,p2,p3,p4,_⟩:=HVr.out.push hbA hgrow hown3 hat';have kf:w3.frozen? ⟨c,0,J⟩=kB:=(p2 0).trans (hfz 0);have fin:Y _:=HR.out.push (X':=X++[⟨st,sp,sl,sa,⟨et,el,er,eu,ed,ef⟩⟩]) HVr.out hV hbA hgrow hown3 hat' (by rw[HT.out];simp) (by rw[HT.out];simp[zv]);clear hbA hat' p2 p3 p4 hown3 hgrow hat hlt3 hown hfz HVr HR
  go_wp2_with fail
  go_end0
  exact⟨rfl,fin.out⟩
theorem vY:∀args w,(callFunc 151 args).run Q w= .ok (.enter 151 args) w:=fun args w=>by simp[go_sem]
theorem qh:∀args w,(callFunc 142 args).run Q w= .ok (.enter 142 args) w:=fun args w=>by simp[go_sem]
theorem ybH {b:Nat} {S:Pg.Fs} {F:Nat->Prop} {w0:N} {c:Nat} {t:Int} (h:zh w0 b S F):
 ybV b S F 142 151 #[] #[K (C ⟨c,0,J⟩)] Pg.zW (qa w0 c 3 1 (fun X=>(t::Pg.zU X).length) (fun X=>zv (t::Pg.zU X))):=
 ⟨qh,vY,fun _ _ _ hR=>hR.fr h,fun _ _ _ hR _ hk=>hR.lt hk,fun _ _ _ _ hR hb=>hR.grow hb,
  fun i lv _ _ w _ _ _=>zV (qY (i:Int) (lv:Int) w),fun s X V w _ _ _ hl hR=>ycv s X V w hl hR⟩
namespace Pg
def yh5:List Int->List UInt8
 | []=>[]
 | n::r=>32::Lib.itoa n++yh5 r
def tell (word:List UInt8) (ns:List Int):List UInt8:=word++yh5 ns++[10]
theorem yjo:∀(a b:List Int),yh5 (a++b)=yh5 a++yh5 b
 | [],b=>rfl
 | n::r,b=>by
   show 32::Lib.itoa n++yh5 (r++b)=32::Lib.itoa n++yh5 r++yh5 b
   rw[yjo r b];simp
end Pg
structure Bs where
 w:N
 G:Nat->Prop
structure jz (w:N):Prop where
 tab : Lib.TabIs Q w "internal/strconv.uint64pow10" .u64 Lib.pow10Tab
 syn : ∃ tp a, w.var? Q "strconv.ErrSyntax" = C #[.iface tp (.pointer a)]
 ran : ∃ tp a, w.var? Q "strconv.ErrRange" = C #[.iface tp (.pointer a)]
structure xZ (W:Bs):Prop where
 ex:∃W0:N,jz W0/\Below W0.heap.size W0 W.w/\∀k,W.G k->W0.heap.size<=k
structure Tl0 (W:Bs) (w:N) (b:Nat) (p0:U) (bs:List UInt8) (F:Nat->Prop):Prop where
 tl:j9 w b p0 bs F
 bel:But W.G W.w w
 hi:∀k,F k->W.G k\/W.w.heap.size<=k
theorem yaj (w:N) (q:Nat) (os:Array Obj):Below w.heap.size w (grow (w.drewN q) os):=
 ⟨rfl,rfl,rfl,by simp[grow,World.drewN],fun k hk=>by
  show(w.heap++os)[k]?=w.heap[k]?
  rw[Array.getElem?_append_left hk]⟩
theorem jw {W w:N} {n:String} {cs:Array U} (h:W.var? Q n=C cs) (hb:Below W.heap.size W w):w.var? Q n=C cs:=by
 unfold World.var? at h ⊢
 cases hg:Tryz.prog.globalNamed n with
 | none=>rw[hg]at h;cases h
 | some g=>
   rw[hg]at h;simp only[Option.bind_some]at h ⊢
   have hlt:g<W.heap.size:=by
    rcases Nat.lt_or_ge g W.heap.size with h'|h'
    ·exact h'
    ·rw[Array.getElem?_eq_none h']at h;cases h
   rw[hb.block g hlt];exact h
theorem jz.later {W w:N} (h:jz W) (hb:Below W.heap.size W w):jz w:=by
 obtain⟨h1,⟨t1,a1,h2⟩,⟨t2,a2,h3⟩⟩:=h;exact⟨jw h1 hb,⟨t1,a1,jw h2 hb⟩,⟨t2,a2,jw h3 hb⟩⟩
theorem xZ.later {W:Bs} {w:N} (h:xZ W) (hb:But W.G W.w w):jz w:=by
 obtain⟨W0,h0,h1,h2⟩:=h;exact h0.later (h1.trans (hb.below h1.size h2))
theorem But.ylR {W:Bs} {w w':N} {F:Nat->Prop} (h:But W.G W.w w) (hb:But F w w') (hF:∀k,F k->W.G k\/W.w.heap.size<=k):But W.G W.w w':=h.trans hb fun i hi e=>(hF i e).elim id fun e=>by omega
theorem But.zT {F:Nat->Prop} {W w w':N} (h:But F W w) (hb:Below w.heap.size w w'):But F W w':=h.trans (G:=fun _=>False) (But.yhl hb) fun _ _ e=>e.elim
theorem Bs.ylt {W:Bs} {w:N} {F F':Nat->Prop} (hs:But W.G W.w w) (hi:∀k,F k->W.G k\/W.w.heap.size<=k) (hF:∀k,F' k->F k\/w.heap.size<=k):∀k,F' k->W.G k\/W.w.heap.size<=k:=
 fun k hk=>(hF k hk).elim (hi k) fun e=> .inr (y hs.size e)
theorem Tl0.done {W:Bs} {w w':N} {b:Nat} {p0:U} {bs cs:List UInt8} {F:Nat->Prop} (h:Tl0 W w b p0 bs F) (hd:zd w b p0 F cs w'):∃F',Tl0 W w' b p0 cs F'/\But F w w'/\∀k,F' k->F k\/w.heap.size<=k:=by
 obtain⟨F',t,hb,hF⟩:=hd;exact⟨F',⟨t,h.bel.ylR hb h.hi,Bs.ylt h.bel h.hi hF⟩,hb,hF⟩
theorem Tl0.grow {W:Bs} {w w':N} {b:Nat} {p0:U} {bs:List UInt8} {F:Nat->Prop} (h:Tl0 W w b p0 bs F) (hb:Below w.heap.size w w'):Tl0 W w' b p0 bs F:=⟨h.tl.grow hb,h.bel.zT hb,h.hi⟩
theorem Pg.yh3:∀(ns:List Int),(∀n ∈ ns,Pg.fits n)->(Pg.yh5 ns).length<=22*ns.length
 | [],_=>kS _
 | n::r,h=>by
   have h1:=h n (by simp);have h2:=Pg.yh3 r fun x hx=>h x (by simp[hx]);have h3:=Lib.itoa_length_le n (by unfold Pg.fits at h1;omega) (by unfold Pg.fits at h1;omega);simp only[Pg.yh5,O,List.length_cons];omega
theorem zZ {W:Bs} {w:N} {b:Nat} {p0:U} {bs:List UInt8} {F:Nat->Prop} (word:ByteArray) (ad:Option Addr) (cap:Nat) (ns:List Int) (hG:xZ W) (h:Tl0 W w b p0 bs F) (hn:zl w ad ns) (hnF:∀g,ad=C ⟨g,0,J⟩->0<ns.length->¬F g)
 (hf:∀n ∈ ns,Pg.fits n) (hl:bs.length+word.size+22*ns.length+1<=100000000000000):
 kP Q 20 #[K (C ⟨b,1,J⟩),.string word,H ad ns.length cap] w fun e w'=>e=Z (kR #[])/\zd w b p0 F (bs++Pg.tell word.data.toList ns) w':=by
 have HW:=ybP word w h.tl (by omega);have H0:Y (Tl0 W w b p0 bs F):=h;have HG:Y (xZ W):=hG;clear h hG
 go_enter Tryz.func20,Tryz.ntmps20
 go_wp2_with fail
 refine HW.mono ?_;rintro e w1 ⟨rfl,hd⟩;obtain⟨F1,h1,hb1,hF1⟩:=H0.out.done hd
 have T1:Y (Tl0 W w1 b p0 (bs++word.data.toList++Pg.yh5 (ns.take 0)) F1):=by rw[Y,kO];simpa[Pg.yh5]using h1
 have HB1:Y (But F w w1):=hb1;have HF1:Y (∀k,F1 k->F k\/w.heap.size<=k):=hF1;have HN:Y (zl w ad ns):=hn;clear h1 hb1 hF1 hd HW hn
 go_wp2_with fail
 go_loopw [15] (fun i wr=>∃(k:Nat) (F1:Nat->Prop),k<=ns.length/\i=P I k/\Y (Tl0 W wr b p0 (bs++word.data.toList++Pg.yh5 (ns.take k)) F1)/\Y (But F w wr)/\Y (∀x,F1 x->F x\/w.heap.size<=x)) (fun i _=>ns.length-(intOf i).toNat)
 case atStart=>exact⟨0,F1,Nat.zero_le _,rfl,T1,HB1,HF1⟩
 case round=>
  obtain⟨k,F2,hk,rfl,T,HB,HF⟩:=hrel;clear T1 HB1 HF1
  by_cases hlt:k<ns.length
  ·have i0:(0:Int)<=(k:Int):=by omega
   have i1:(k:Int)<(ns.length:Int):=by omega
   obtain⟨g,rfl,hg,hc⟩:=HN.out k hlt;have c0:=(HB.out.cell (a:=⟨g,k,J⟩) hg (hnF g rfl (by omega))).trans hc;have hx:Pg.fits (ns.getD k 0):=hf _ (by rw[List.getD,kC hlt];exact List.getElem_mem hlt)
   have HTK:Y (Pg.yh5 (ns.take (k+1))=Pg.yh5 (ns.take k)++32::Lib.itoa (ns.getD k 0)):=by
    rw[Y,List.take_add_one,kC hlt,Pg.yjo];simp[Pg.yh5,List.getD,hlt]
   have hlb:(Pg.yh5 (ns.take k)).length<=22*(ns.take k).length:=Pg.yh3 _ fun n hn=>hf n (kT hn);rw[kQ,kZ hk]at hlb
   have hl2:(bs++word.data.toList++Pg.yh5 (ns.take k)).length+30<=120000000000000:=by
    have e:word.data.toList.length=word.size:=by rw[Array.length_toList];rfl
    simp only[O];omega
   generalize ns.getD k 0=x at*;have HWB:=yaE 32 wr T.out.tl (by omega);have HI:=fun w' (hb:But W.G W.w w')=>Tryz.strconv_Itoa x (by unfold Pg.fits at hx;omega) (by unfold Pg.fits at hx;omega) w' (HG.out.later hb).tab;have hil:=Lib.itoa_length_le x (by unfold Pg.fits at hx;omega) (by unfold Pg.fits at hx;omega)
   have HLQ:Y ((bs++word.data.toList++Pg.yh5 (ns.take k)++[32]).length+(⟨(Lib.itoa x).toArray⟩:ByteArray).size<=140737488355328):=by
    show _+(Lib.itoa x).toArray.size<=_
    rw[List.size_toArray,O,kY];omega
   clear hc hx hil hl2 hlb
   go_wp2_with fail
   refine HWB.mono ?_;rintro e w2 ⟨rfl,hd2⟩;obtain⟨F3,t3,hb3,hF3⟩:=T.out.done hd2;have T3:Y (Tl0 W w2 b p0 (bs++word.data.toList++Pg.yh5 (ns.take k)++[32]) F3):=t3
   have HB3:Y (But F w w2):=HB.out.trans hb3 fun i hi e=>(HF.out i e).elim id fun e=>by omega
   have HF3:Y (∀x,F3 x->F x\/w.heap.size<=x):=fun x hx=>(hF3 x hx).elim (HF.out x) fun e=> .inr (y HB.out.size e);have T3d:Y (Tl0 W w2.drew b p0 (bs++word.data.toList++Pg.yh5 (ns.take k)++[32]) F3):=T3.out.grow (zR w2).drew;clear t3 hb3 hF3 hd2 HWB T HB HF c0 T3
   go_upto_region 5 with fail
   go_region_held3 (fun w'=>True) (exact trivial) (first
    | (go_at_call 47;refine(ybP _ _ T4.out.tl HLQ.out).mono ?_;rintro e w4 ⟨rfl,hd4⟩;have D4:Y _:=hd4)
    | (go_at_call 49;refine(HI _ T3d.out.bel).mono ?_;rintro e w3 ⟨rfl,q,os,hw3⟩;have hb3:Below w2.drew.heap.size w2.drew w3:=(by rw[hw3];exact yaj _ _ _);have T4:Y _:=T3d.out.grow hb3;clear hw3))
   all_goals
    obtain⟨F5,t5,hb5,hF5⟩:=T4.out.done D4.out
    have T5:Y (Tl0 W w4 b p0 (bs++word.data.toList++Pg.yh5 (ns.take (k+1))) F5):=by
     rw[Y,HTK.out]
     simpa using t5
    have HB4:But F w w3:=HB3.out.trans (But.yhl (F:=fun _=>False) (zT (zR w2).drew hb3)) fun _ _ e=>e.elim
    have HB5:Y (But F w w4):=HB4.trans hb5 fun i hi e=>(HF3.out i e).elim id fun e=>by omega
    have HF5:Y (∀x,F5 x->F x\/w.heap.size<=x):=fun x hx=>(hF5 x hx).elim (HF3.out x) fun e=> .inr (y HB4.size e);clear t5 hb5 hF5 HB4 T4 D4 T3d HB3 HF3 hb3 HTK HLQ HI
    go_wp2_with fail
    exact⟨⟨k+1,F5,by omega,by go_num,T5,HB5,HF5⟩,by simp[intOf];omega⟩
  ·have i1:¬(k:Int)<(ns.length:Int):=by omega
   have hk:k=ns.length:=by omega
   have hlb:(Pg.yh5 (ns.take k)).length<=22*(ns.take k).length:=Pg.yh3 _ fun n hn=>hf n (kT hn);rw[kQ,kZ (by omega)]at hlb
   have hl2:(bs++word.data.toList++Pg.yh5 (ns.take k)).length+1<=120000000000000:=by
    have e:word.data.toList.length=word.size:=by rw[Array.length_toList];rfl
    simp only[O];omega
   have HWB:=yaE 10 wr T.out.tl (by omega)
   have HE:Y (ns.take k=ns):=by rw[Y,hk,List.take_length]
   clear hlb hl2
   go_wp2_with fail
   refine HWB.mono ?_;rintro e w2 ⟨rfl,hd2⟩;have D2:Y _:=hd2;clear hd2 HWB
   go_wp2_with fail
   go_end0
   refine⟨rfl,?_⟩;obtain⟨F3,t3,hb3,hF3⟩:=D2.out;refine⟨F3,?_,HB.out.trans hb3 fun i hi e=>(HF.out i e).elim id fun e=>by omega,fun x hx=>(hF3 x hx).elim (HF.out x) fun e=> .inr (y HB.out.size e)⟩;rw[HE.out]at t3
   simpa[Pg.tell]using t3
section
attribute [local go_sem] Loose.gent
theorem vE (s:Pg.Sp) (hl:s.level<4) (ha:s.ahead<4096) (w:N):
 kP Q 144 #[s.val] w fun e w'=>e=Z s.mp.val/\Below w.heap.size w w':=by
 obtain⟨st,sp,sl,sa,⟨et,el,er,eu,ed,ef⟩⟩:=s;have hs:=Pg.yhP (sl:Int);simp only at hl ha;have HM:=yaO et el er eu ed ef (sl:Int) ((sa:Int)*Pg.span (sl:Int));rw[Pg.mapV_of ⟨et,el,er,eu,ed,ef⟩]at HM;have HE:Y ((⟨st,sp,sl,sa,⟨et,el,er,eu,ed,ef⟩⟩:Pg.Sp).mp=Pg.En.map ⟨et,el,er,eu,ed,ef⟩ (sl:Int) ((sa:Int)*Pg.span (sl:Int))):=rfl;rw[HE.out]
 have hmul:IntKind.i64.wrap ((sa:Int)*Pg.span (sl:Int))=(sa:Int)*Pg.span (sl:Int):=by
  have h1:(sa:Int)*Pg.span (sl:Int)<=4096*64:=Int.mul_le_mul (by omega) (by omega) (by omega) (by omega);have h2:0<=(sa:Int)*Pg.span (sl:Int):=Int.mul_nonneg (by omega) (by omega);exact vK (by omega) (by omega)
 generalize Pg.En.map ⟨et,el,er,eu,ed,ef⟩ (sl:Int) ((sa:Int)*Pg.span (sl:Int))=m at*;obtain⟨mp,ms,mf,mr⟩:=m;simp only[Pg.Sp.val,Pg.Mp.val]at HM ⊢;clear HE;obtain⟨W,hW⟩:∃W,W=(w.alloc (z #[P I st,P I (sp:Int),P I (sl:Int),P I (sa:Int),M et,M el,P I er,M eu,M ed,P I ef] 252)).alloc (z #[P I 0,P I 0,P I 0,P I 0] 76):=⟨_,rfl⟩
 have hB:Below w.heap.size w W:=by rw[hW];exact zA (zA (zR w) _) _
 have y2:=D (show W.cell? ⟨w.heap.size,2,J⟩=C (P I (sl:Int)) by rw[hW];simp[go_sem]);have y3:=D (show W.cell? ⟨w.heap.size,3,J⟩=C (P I (sa:Int)) by rw[hW];simp[go_sem]);have y4:=D (show W.cell? ⟨w.heap.size,4,J⟩=C (M et) by rw[hW];simp[go_sem]);have y5:=D (show W.cell? ⟨w.heap.size,5,J⟩=C (M el) by rw[hW];simp[go_sem]);have y6:=D (show W.cell? ⟨w.heap.size,6,J⟩=C (P I er) by rw[hW];simp[go_sem]);have y7:=D (show W.cell? ⟨w.heap.size,7,J⟩=C (M eu) by rw[hW];simp[go_sem]);have y8:=D (show W.cell? ⟨w.heap.size,8,J⟩=C (M ed) by rw[hW];simp[go_sem]);have y9:=D (show W.cell? ⟨w.heap.size,9,J⟩=C (P I ef) by rw[hW];simp[go_sem])
 have cr:W.cell? ⟨w.heap.size+1,0,J⟩=C (P I 0)/\W.cell? ⟨w.heap.size+1,1,J⟩=C (P I 0)/\W.cell? ⟨w.heap.size+1,2,J⟩=C (P I 0)/\W.cell? ⟨w.heap.size+1,3,J⟩=C (P I 0):=by rw[hW];simp[go_sem]
 have fr:∀i,W.frozen? ⟨w.heap.size+1,i,J⟩=kB:=fun i=>by rw[hW];simp[go_sem]
 go_enter Tryz.func144,Tryz.ntmps144
 go_wp2_with fail
 rw[<-hW];clear hW;refine Loose.wp_region_store 11 (by kernel_rfl) (by kernel_rfl) ?_;simp only[List.take_succ_cons,kO,List.drop_succ_cons,List.drop_zero]
 repeat (
  refine Loose.zS (fun k hk=> ?_)
  go_simp
  first
   | (refine hk _ ?_;clear hk k)
   | (apply Exists.intro
      refine⟨fun _=> ?_,hk _ ?_⟩
      (first
        | (go_at_call 174;exact Loose.yjW (xn _ _))
        | (go_at_call 173;exact Loose.calls (HM _)))
      clear hk k))
 refine Loose.yho ?_;intro w' hb';have hlt:=kI _ _ cr.1
 replace cr:=qH hb' cr
 have fr':∀i,w'.frozen? ⟨w.heap.size+1,i,J⟩=kB:=fun i=>by
  rw[hb'.frozen (p:=⟨w.heap.size+1,i,J⟩) hlt];exact fr i
 replace hB:=zT hB hb'
 clear hb' fr y2 y3 y4 y5 y6 y7 y8 y9
 go_wp2_with fail
 refine kF (v:=kX #[P I mp,P I ms,P I mf,P I mr]) ?_ rfl ⟨rfl,?_⟩
 ·simp[results,Tryz.results144,go_sem,cr]
 ·exact(((hB.setCell (by simp) _).setCell (by simp) _).setCell (by simp) _).setCell (by simp) _
theorem yea {w0:N} {c:Nat} (s:Pg.Sp) (X:List Pg.Sp) (V:Nat->Prop) (w:N) (hl:s.level<4) (ha:s.ahead<4096) (hlen:X.length<4680)
 (hR:qa w0 c 76 4 (fun X=>(Pg.zM X).length) (fun X=>zC (Pg.zM X)) X V w):
 kP Q 143 #[s.val,K (C ⟨c,0,J⟩)] w fun e w'=>e=Z (kR #[])/\∃V',qa w0 c 76 4 (fun X=>(Pg.zM X).length) (fun X=>zC (Pg.zM X)) (X++[s]) V' w'/\But V w w'/\∀k,V' k->V k\/w.heap.size<=k:=by
 have HT:Y (Pg.zM (X++[s])=Pg.zM X++if s.e.l=kV then [s.mp]else []):=by simp[Y,Pg.zM]
 have HR:Y _:=hR;have hml:=Pg.mapsOf_len X;have HM:=vE s hl ha;have HS:Y (s=s):=rfl;generalize hs:s.mp=m at*;clear hs HS;obtain⟨st,sp,sl,sa,⟨et,el,er,eu,ed,ef⟩⟩:=s;obtain⟨mp,ms,mf,mr⟩:=m;simp only[Pg.Sp.val,Pg.Mp.val]at HM ⊢;simp only at HT;cases el
 ·clear hR HM
  go_enter Tryz.func143,Tryz.ntmps143
  go_wp2_with fail
  go_end0
  exact⟨rfl,HR.out.stay (zA (zR w) _) (by rw[HT.out];simp) (by rw[HT.out];simp)⟩
 ·obtain⟨vb,hv,hV⟩:=hR.var
  obtain⟨q0,hq,hz0,hz1,hz2⟩:=info_parts jg;have HVr:Y _:=hv;have hfz:=hR.fz;have hw0:=hR.bel.size;have hcl:=hv.lb;have cc:=hv.cell;have hown:=hv.own;clear hR hv
  have hcw:c≠w.heap.size:=by omega
  go_enter Tryz.func143,Tryz.ntmps143
  go_wp2_with fail
  have hnews:∀(W:N) (j:Nat) (u:U),[kK I mp,P I ms,P I mf,P I mr][j]?=C u->(W.alloc (z #[P I mp,P I ms,P I mf,P I mr] 76)).cell? ((⟨W.heap.size,0,J⟩:Addr).add j)=C u:=fun W j u hu=>
   World.news_of_block (kU W _) j u hu
  have hone:∀u,u ∈ [kK I mp,P I ms,P I mf,P I mr]->u.oneCell'=kV:=by
   intro u hu;simp at hu;rcases hu with rfl|rfl|rfl|rfl<;>rfl
  have hm1:(Pg.zM X).length+1<=maxLen:=by unfold maxLen;omega
  have hm2:((Pg.zM X).length+1)*32<=140737488355328:=by omega
  go_region_law (first
   | (go_simp;go_at_call 144;refine(HM _).mono ?_;rintro e w2 ⟨rfl,hb2⟩;have HB2:Y (Below w.heap.size w w2):=zT ((zA (zR w) _).drew) hb2;have V2:Y _:=HVr.out.grow HB2.out;have cc2:=V2.out.cell;have cl2:=V2.out.lb;clear hb2)
   | (refine step_append_lies _ rfl (.tmp 6) (.tmp 9) 99 rfl w0.heap.size 76 q0 _ 4 32 Tryz.underlying99 hq hz0 hz1 hz2 rfl (by decide) vb _ _ (by simp[Act.eval]) (V2.out.own.alloc _) ⟨w2.heap.size,0,J⟩ 1 1 [P I mp,P I ms,P I mf,P I mr] (by simp[Act.eval]) rfl (hnews w2) hone (by decide) hm1 hm2 (y hw0 (y HB2.out.size (by simp))) (w2.heap.size+1) (by simp) ?_;intro g cap w3 hown3 hgrow hat hlt3;have hbA:Y _:=zA HB2.out (z #[P I mp,P I ms,P I mf,P I mr] 76);have HA:Y (vb.ownBlock=C g\/g=(w2.alloc (z #[P I mp,P I ms,P I mf,P I mr] 76)).heap.size):=(by simpa[Y]using hat);have p1:=(HVr.out.push hbA.out hgrow hown3 HA.out).1;have kf:w3.frozen? ⟨c,0,J⟩=kB:=((HVr.out.push hbA.out hgrow hown3 HA.out).2.1 0).trans (hfz 0);have HO3:Y _:=hown3;have HG3:Y _:=hgrow;clear hown3 hgrow hat hlt3))
  all_goals
   have fin:Y _:=HR.out.push (X':=X++[⟨st,sp,sl,sa,⟨et,kV,er,eu,ed,ef⟩⟩]) HVr.out hV hbA.out HG3.out HO3.out HA.out (by rw[HT.out];simp) (by rw[HT.out,if_true,ybs])
   go_wp2_with fail
   go_end0
   exact⟨rfl,fin.out⟩
theorem ybk:∀args w,(callFunc 143 args).run Q w= .ok (.enter 143 args) w:=fun args w=>by simp[go_sem]
theorem ydm {b:Nat} {S:Pg.Fs} {F:Nat->Prop} {w0:N} {c:Nat} (h:zh w0 b S F):
 ybV b S F 142 143 #[] #[K (C ⟨c,0,J⟩)] Pg.zW (qa w0 c 76 4 (fun X=>(Pg.zM X).length) (fun X=>zC (Pg.zM X))):=
 ⟨qh,ybk,fun _ _ _ hR=>hR.fr h,fun _ _ _ hR _ hk=>hR.lt hk,fun _ _ _ _ hR hb=>hR.grow hb,
  fun i lv _ _ w _ _ _=>zV (qY (i:Int) (lv:Int) w),fun s X V w _ h1 h2 hl hR=>yea s X V w h1 h2 hl hR⟩
theorem ye0 {w:N} {base:Nat} {e:TypeId} {size n cap:Nat} {ad:Option Addr} {xs:List U} (h:w.ownsRow base e size (H ad n cap) n xs):n<=cap:=by
 rcases h.2 with ⟨e,_⟩|⟨g,c,cur,e,_,_,hle,_⟩
 ·cases e;exact kS _
 ·cases e;exact hle
theorem ycy {b:Nat} {S:Pg.Fs} {F:Nat->Prop} (t:Int) (w:N) (h:zh w b S F):
 kP Q 118 #[K (C ⟨b,0,J⟩),P I t] w fun e w'=>∃ad cap L,e=Z (kR #[H ad L.length cap,P I (Pg.thr S Pg.zW 3 t 0).2])/\L=(if (Pg.thr S Pg.zW 3 t 0).2=0 then t::Pg.zU (Pg.thr S Pg.zW 3 t 0).1 else [])/\zl w' ad L/\L.length<=cap/\Below w.heap.size w w':=by
 obtain⟨W,hW⟩:∃W,W=(w.alloc (z #[P I t] 3)).alloc (z #[H (C ⟨w.heap.size,0,J⟩) 1 1] 58):=⟨_,rfl⟩
 have hB:Below w.heap.size w W:=by rw[hW];exact zA (zA (zR w) _) _
 have hK:qa w (w.heap.size+1) 3 1 (fun X=>(t::Pg.zU X).length) (fun X=>zv (t::Pg.zU X)) [] (fun k=>k=w.heap.size+1\/(kM (C ⟨w.heap.size,0,J⟩) 1 1).ownBlock=C k) W:=by
  refine⟨hB,by omega,fun o=>by rw[hW];simp[go_sem],H (C ⟨w.heap.size,0,J⟩) 1 1,⟨by rw[hW];simp[go_sem],?_,by simp[kJ]⟩,rfl⟩;refine⟨by simp[zv,Pg.zU],.inr ⟨w.heap.size,1,#[P I t],rfl,kS _,?_,kS _,by decide,rfl,by simp[zv,Pg.zU]⟩⟩;rw[hW,Below.heap_alloc _ _ _ (by simp)];exact kU w _
 have HC:Y _:=yaR (ybH (c:=w.heap.size+1) (t:=t) h) t _ W hK;clear h hK hB;generalize Pg.thr S Pg.zW 3 t 0=th at*
 go_enter Tryz.func118,Tryz.ntmps118
 go_wp2_with fail
 rw[<-hW];refine Calls.mono HC.out ?_;rintro e w1 ⟨rfl,V1,hK1,hb1,hn1⟩;clear hb1 hn1;have HB:Y (Below w.heap.size w w1):=hK1.bel;obtain⟨vb,hv,_⟩:=hK1.var;obtain⟨ad,cap,rfl⟩:=zF hv.own
 by_cases hc:th.2=0
 ·have hcb:(th.2 !=0)=kB:=by simp[hc]
  have cc:=hv.cell;have HI:Y _:=ji hv.own;have HCap:Y _:=ye0 hv.own;have HC0:Y _:=hc;clear hv hK1 hc
  go_wp2_with fail
  go_ret2
  exact⟨ad,cap,t::Pg.zU th.1,rfl,by first|rw[if_pos HC0.out]|rfl,HI.out,HCap.out,HB.out⟩
 ·have hcb:(th.2 !=0)=kV:=by simp[hc]
  have HC0:Y _:=hc;clear hv hK1 hc
  go_wp2_with fail
  go_ret2
  exact⟨J,0,[],rfl,by first|rw[if_neg HC0.out]|rfl,fun j hj=>absurd hj (by simp),by simp,HB.out⟩
theorem ye2 {w:N} {base:Nat} {e:TypeId} {size n cap:Nat} {ad:Option Addr} {xs:List U} (h:w.ownsRow base e size (H ad n cap) n xs):∀g,ad=C ⟨g,0,J⟩->base<=g:=by
 intro g hg;rcases h.2 with ⟨e,_⟩|⟨g',c,cur,e,hb,_⟩
 ·cases e;cases hg
 ·cases e;cases hg;exact hb
theorem yev {b:Nat} {S:Pg.Fs} {F:Nat->Prop} (t:Int) (w:N) (h:zh w b S F):
 kP Q 113 #[K (C ⟨b,0,J⟩),P I t] w fun e w'=>∃ad cap L,e=Z (kR #[H ad L.length cap,P I (Pg.thr S Pg.zW 3 t 0).2])/\L=(if (Pg.thr S Pg.zW 3 t 0).2=0 then Pg.zM (Pg.thr S Pg.zW 3 t 0).1 else [])/\xg w' ad L/\(∀g,ad=C ⟨g,0,J⟩->w.heap.size<=g)/\Below w.heap.size w w':=by
 obtain⟨W,hW⟩:∃W,W=w.alloc (z #[H J 0 0] 99):=⟨_,rfl⟩
 have hB:Below w.heap.size w W:=by rw[hW];exact zA (zR w) _
 have hK:qa w w.heap.size 76 4 (fun X=>(Pg.zM X).length) (fun X=>zC (Pg.zM X)) [] (fun k=>k=w.heap.size\/(kM J 0 0).ownBlock=C k) W:=
  ⟨hB,kS _,fun o=>by rw[hW];simp[go_sem],H J 0 0,⟨by rw[hW];simp[go_sem],World.ownsRow_nil _ _ _ _,by simp[kJ]⟩,rfl⟩
 have HC:Y _:=yaR (ydm (c:=w.heap.size) h) t _ W hK;clear h hK hB;generalize Pg.thr S Pg.zW 3 t 0=th at*
 go_enter Tryz.func113,Tryz.ntmps113
 go_wp2_with fail
 rw[<-hW];refine Calls.mono HC.out ?_;rintro e w1 ⟨rfl,V1,hK1,hb1,hn1⟩;clear hb1 hn1;have HB:Y (Below w.heap.size w w1):=hK1.bel;obtain⟨vb,hv,_⟩:=hK1.var;obtain⟨ad,cap,rfl⟩:=zF hv.own
 by_cases hc:th.2=0
 ·have hcb:(th.2 !=0)=kB:=by simp[hc]
  have cc:=hv.cell;have HI:Y (xg w1 ad (Pg.zM th.1)):=jj hv.own;have HNw:Y _:=ye2 hv.own;have HC0:Y _:=hc;clear hv hK1 hc
  go_wp2_with fail
  go_ret2
  exact⟨ad,cap,Pg.zM th.1,rfl,by first|rw[if_pos HC0.out]|rfl,HI.out,HNw.out,HB.out⟩
 ·have hcb:(th.2 !=0)=kV:=by simp[hc]
  have HC0:Y _:=hc;clear hv hK1 hc
  go_wp2_with fail
  go_ret2
  exact⟨J,0,[],rfl,by first|rw[if_neg HC0.out]|rfl,fun j hj=>absurd hj (by simp),fun g hg=>(by cases hg),HB.out⟩
end
end Go.Proofs.YtdphiompijbelaaGreatDoor
