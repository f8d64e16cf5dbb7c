import Derived.Test.YtdphiompijbelaaGreatEntry
import Derived.Laws.CopyRow
import Derived.Laws.AppendOwn
import Derived.Lib.AppendZerosOnto
import Derived.ArgAppend
set_option linter.all false
set_option maxRecDepth 100000
open Int renaming natCast_add->kQ
open Array renaming getElem?_eq_some_iff->kF,length_toList->kU
open Go.Obj renaming cells->kY
open Go.Ending renaming returned->kS
open Nat renaming add_mul->kI,mul_le_mul_right->kN,one_mul->kT,lt_of_lt_of_le->kO,add_sub_cancel->kK,add_zero->kX
open Go.RowKit renaming Hid->y
open Go.Proofs.Tryz renaming prog->D
open List renaming length_append->O,take_of_length_le->M,take_append_of_le_length->H,length_take->q,length_drop->kR,append_assoc->kV,drop_eq_nil_of_le->kZ,drop_take->kH
open Go.Value renaming int->Z,slice->U,bool->kJ,ownBlock->kP,pointer->kC,tuple->kD
open Go.IntKind renaming i64->Y
open Go renaming World->C,Value->N,Calls->kE,bodyPost_ret->kL
open Option renaming some->I,none->J
set_option maxHeartbeats 4000000
namespace Go.Proofs.YtdphiompijbelaaGreat
open Go.RowKit Go.Sort
section
theorem jb (e:Pg.En) (w:C):
 kE D 118 #[e.val] w fun x w'=>x=kS (kJ e.on)/\Below w.heap.size w w':=by
 obtain⟨t,l,r,u,d,f⟩:=e;simp only[Pg.En.val,Pg.En.on];cases t
 ·go_enter Tryz.func118,Tryz.ntmps118
  go_wp2_with fail
  go_ret
  exact⟨rfl,zA (zR w) _⟩
 ·go_enter Tryz.func118,Tryz.ntmps118
  go_wp2_with fail
  go_ret
  exact⟨rfl,zA (zR w) _⟩
theorem qU (i lv:Int) (w:C):
 kE D 113 #[Z Y i,Z Y lv] w fun x w'=>x=kS (kJ true)/\w'=w:=by
 go_enter Tryz.func113,Tryz.ntmps113
 go_wp2_with fail
 go_ret
 exact⟨rfl,rfl⟩
theorem yed {b:Nat} {S:Pg.Fs} {F:Nat->Prop} (t:Int) (i lv:Nat) (hi:i<8) (w:C) (h:zd w b S F):
 kE D 188 #[kC (I ⟨b,0,J⟩),Z Y t,Z Y (i:Int),Z Y (lv:Int)] w fun x w'=>x=kS (kD #[(Pg.rEn S t i lv).val,Z Y (Pg.ygy S t i lv)])/\Below w.heap.size w w':=by
 have hA:zd (w.alloc (kY #[kJ false,kJ false,Z Y 0,kJ false,kJ false,Z Y 0] 70)) b S F:=h.keep (F:=F) (G:=fun _=>False) (But.ygr (zA (zR w) _)) (fun _ _=>id);have HL:=ja t (i:Int) _ hA;have h0:=h.ok.low t.toNat i;have h1:=h.ok.high t.toNat i;cases hh:S.has t
 ·have ha:S.at' t (i:Int)=false:=by simp[Pg.Fs.at',hh]
  have e1:Pg.rEn S t i lv=Pg.En.zero:=by simp[Pg.rEn,hh]
  have e2:Pg.ygy S t i lv=12:=by simp[Pg.ygy,hh]
  rw[e1,e2]
  have e3:S.load t (i:Int)=0:=by simp[Pg.Fs.load,ha]
  rw[ha,e3]at HL;clear h hA
  go_enter Tryz.func188,Tryz.ntmps188
  go_wp2_with fail
  refine HL.mono ?_;rintro e w' ⟨rfl,hw⟩;subst w'
  go_wp2_with fail
  refine kL (v:=kD #[Pg.En.zero.val,Z Y 12]) ?_ rfl ⟨rfl,?_⟩
  ·simp[results,Tryz.results188,go_sem,Pg.En.zero,Pg.En.val]
  ·exact zA (zR w) _
 ·have ha:S.at' t (i:Int)=true:=by simp[Pg.Fs.at',hh];omega
  have e1:Pg.rEn S t i lv=Pg.En.of (S.word t.toNat i) lv:=by simp[Pg.rEn,hh]
  have e2:Pg.ygy S t i lv=Pg.ygz (S.word t.toNat i) lv:=by simp[Pg.ygy,hh]
  have e3:S.load t (i:Int)=S.word t.toNat i:=by simp[Pg.Fs.load,ha]
  rw[e1,e2];rw[ha,e3]at HL;clear h hA e1 e2 e3;generalize S.word t.toNat i=W at*;have HD:=jD W (lv:Int) h0 h1;rw[Pg.yhd]at HD;generalize Pg.En.of W (lv:Int)=e at*;obtain⟨t',l,r,u,d,f⟩:=e;simp only[Pg.En.val]at HD ⊢;generalize Pg.ygz W (lv:Int)=c at*
  go_enter Tryz.func188,Tryz.ntmps188
  go_wp2_with fail
  refine HL.mono ?_;rintro e w' ⟨rfl,hw⟩;subst w'
  go_wp2_with fail
  refine(HD _).mono ?_;rintro e w1 ⟨rfl,hb1⟩;have hB:Below w.heap.size w w1:=zT (zA (zR w) _) hb1;obtain⟨hc1,hf1⟩:=xE hb1
  go_wp2_with fail
  refine kL (v:=kD #[.agg #[kJ t',kJ l,Z Y r,kJ u,kJ d,Z Y f],Z Y c]) ?_ rfl ⟨rfl,?_⟩
  ·simp[results,Tryz.results188,go_sem,hc1]
  ·exact(((((hB.setCell (by simp) _).setCell (by simp) _).setCell (by simp) _).setCell (by simp) _).setCell (by simp) _).setCell (by simp) _
def Pg.Sp.val (s:Pg.Sp):N:= .agg #[Z Y s.table,Z Y (s.place:Int),Z Y (s.level:Int),Z Y (s.ahead:Int),kJ s.e.t,kJ s.e.l,Z Y s.e.r,kJ s.e.u,kJ s.e.d,Z Y s.e.f]
structure ybK (b:Nat) (S:Pg.Fs) (F:Nat->Prop) (g h:FuncId) (ca cb:Array N) (L:Nat->Nat->Bool) (R:List Pg.Sp->(Nat->Prop)->C->Prop):Prop where
 eg:∀args w,(callFunc g args).run D w= .ok (.enter g args) w
 eh:∀args w,(callFunc h args).run D w= .ok (.enter h args) w
 fr:∀X V w,R X V w->zd w b S F
 lt:∀X V w,R X V w->∀k,V k->k<w.heap.size
 grow:∀X V w w',R X V w->Below w.heap.size w w'->R X V w'
 looks:∀(i lv:Nat) X V w,i<8->lv<4->R X V w->kE D g (#[Z Y (i:Int),Z Y (lv:Int)]++ca) w fun e w'=>e=kS (kJ (L i lv))/\Below w.heap.size w w'
 meets:∀(s:Pg.Sp) X V w,s.place<8->s.level<4->s.ahead<4096->X.length<4680->R X V w->kE D h (#[s.val]++cb) w fun e w'=>e=kS (kD #[])/\∃V',R (X++[s]) V' w'/\But V w w'/\∀k,V' k->V k\/w.heap.size<=k
structure va (R:List Pg.Sp->(Nat->Prop)->C->Prop) (V:Nat->Prop) (w:C) (v0 v1 v2:N) (X:List Pg.Sp) (V':Nat->Prop) (wr:C):Prop where
 r:R X V' wr
 but:But V w wr
 new:∀k,V' k->V k\/w.heap.size<k
 c:wr.cell? ⟨w.heap.size,0,J⟩=I v0/\wr.cell? ⟨w.heap.size,1,J⟩=I v1/\wr.cell? ⟨w.heap.size,2,J⟩=I v2
namespace va
variable {b:Nat} {S:Pg.Fs} {F:Nat->Prop} {g h:FuncId} {ca cb:Array N} {L:Nat->Nat->Bool} {R:List Pg.Sp->(Nat->Prop)->C->Prop} {V V' V'':Nat->Prop} {w wr wr':C} {v0 v1 v2:N} {X X':List Pg.Sp}
theorem grow (T:ybK b S F g h ca cb L R) (G:va R V w v0 v1 v2 X V' wr) (hb:Below wr.heap.size wr wr'):va R V w v0 v1 v2 X V' wr':=
 ⟨T.grow _ _ _ _ G.r hb,G.but.trans (But.ygr (F:=fun _=>False) hb) (fun _ _ h=>h.elim),G.new,xP hb G.c⟩
theorem lb (G:va R V w v0 v1 v2 X V' wr):w.heap.size<wr.heap.size:=World.block_lt_of_cell? _ _ G.c.1
theorem step (hV:∀k,V k->k<w.heap.size) (G:va R V w v0 v1 v2 X V' wr) (hr:R X' V'' wr') (hb:But V' wr wr') (hn:∀k,V'' k->V' k\/wr.heap.size<=k):va R V w v0 v1 v2 X' V'' wr':=by
 have hl:=G.lb
 have hbx:¬V' w.heap.size:=fun hk=>by
  rcases G.new _ hk with h1|h1
  ·have:=hV _ h1;omega
  ·omega
 refine⟨hr,G.but.trans hb (fun i hi hk=> ?_),fun k hk=> ?_,?_,?_,?_⟩
 ·rcases G.new i hk with h1|h1
  ·exact h1
  ·omega
 ·rcases hn k hk with h1|h1
  ·exact G.new k h1
  ·exact .inr (by omega)
 ·exact(hb.cell (a:=⟨w.heap.size,0,J⟩) hl hbx).trans G.c.1
 ·exact(hb.cell (a:=⟨w.heap.size,1,J⟩) hl hbx).trans G.c.2.1
 ·exact(hb.cell (a:=⟨w.heap.size,2,J⟩) hl hbx).trans G.c.2.2
theorem box6 (T:ybK b S F g h ca cb L R) (G:va R V w v0 v1 v2 X V' wr) {u0 u1 u2 u3 u4 u5:N} {ty:TypeId} (hb:But V' (wr.alloc (kY #[u0,u1,u2,u3,u4,u5] ty)) wr'):
 wr'.cell? ⟨wr.heap.size,0,J⟩=I u0/\wr'.cell? ⟨wr.heap.size,1,J⟩=I u1/\wr'.cell? ⟨wr.heap.size,2,J⟩=I u2/\wr'.cell? ⟨wr.heap.size,3,J⟩=I u3/\wr'.cell? ⟨wr.heap.size,4,J⟩=I u4/\wr'.cell? ⟨wr.heap.size,5,J⟩=I u5:=by
 have hn:¬V' wr.heap.size:=fun hk=>by have:=T.lt _ _ _ G.r _ hk;omega
 have hk:∀o,wr'.cell? ⟨wr.heap.size,o,J⟩=(wr.alloc (kY #[u0,u1,u2,u3,u4,u5] ty)).cell? ⟨wr.heap.size,o,J⟩:=fun o=>hb.cell (a:=⟨wr.heap.size,o,J⟩) (by simp) hn
 refine⟨?_,?_,?_,?_,?_,?_⟩<;>rw[hk]<;>simp[go_sem]
theorem done (G:va R V w v0 v1 v2 X' V' wr) {A:List Pg.Sp} (e:X++A=X'):∃V',R (X++A) V' wr/\But V w wr/\∀k,V' k->V k\/w.heap.size<=k:=
 ⟨V',e▸G.r,G.but,fun k hk=>(G.new k hk).imp id Nat.le_of_lt⟩
end va
theorem jn {X:List Pg.Sp} {s:Pg.Sp} {j c:Nat} (hj:j<8) (h:X.length+(8-j)*(1+c)<=4680):X.length<4680/\(X++[s]).length+(8-(j+1))*(1+c)+c<=4680/\(X++[s]).length+c<=4680:=by
 have e:(8-j)*(1+c)=(8-(j+1))*(1+c)+(1+c):=by
  rw[show 8-j=(8-(j+1))+1 by omega,kI,kT]
 rw[e]at h;rw[O,List.length_singleton];generalize (8-(j+1))*(1+c)=x at*;omega
theorem js {S:Pg.Fs} {L:Nat->Nat->Bool} {lv:Nat} {rec:Int->Nat->List Pg.Sp×Int} {t:Int} {a j:Nat} (hj:j<8):
 Pg.scan S L lv rec t a (8-j) j=if (Pg.out S L lv rec t a j).2≠0 then Pg.out S L lv rec t a j
  else((Pg.out S L lv rec t a j).1++(Pg.scan S L lv rec t a (8-(j+1)) (j+1)).1,(Pg.scan S L lv rec t a (8-(j+1)) (j+1)).2):=by
 have e:8-j=(8-(j+1))+1:=by omega
 rw[e];rfl
theorem ycn {b:Nat} {S:Pg.Fs} {F:Nat->Prop} {g h:FuncId} {ca cb:Array N} {L:Nat->Nat->Bool} {R:List Pg.Sp->(Nat->Prop)->C->Prop} (T:ybK b S F g h ca cb L R):
 ∀(lv:Nat),lv<4->∀(t:Int) (a:Nat) (X:List Pg.Sp) (V:Nat->Prop) (w:C),a+8<=8^(4-lv)->X.length+Pg.cnt' (lv+1)<=4680->R X V w->
  kE D 154 #[.agg #[kC (I ⟨b,0,J⟩),.func (.func g) #[] ca,.func (.func h) #[] cb],Z Y t,Z Y (lv:Int),Z Y (a:Int)] w fun e w'=>
   e=kS (Z Y (Pg.thr S L lv t a).2)/\∃V',R (X++(Pg.thr S L lv t a).1) V' w'/\But V w w'/\∀k,V' k->V k\/w.heap.size<=k:=by
 intro lv
 induction lv using Nat.strongRecOn with
 | _ lv IH=>
 intro hlv t a X V w ha hX hR;have hV:=T.lt _ _ _ hR;rw[Pg.yhA];have ha':a+8<=4096:=Nat.le_trans ha (by have:=Nat.pow_le_pow_right (n:=8) (by decide) (show 4-lv<=4 by omega);simpa using this);have HI:y _:=IH;have HT:y _:=T;have HV:y _:=hV;have HX:y _:=hX;have HA:y _:=ha
 have HG:y (va R V w (kC (I ⟨b,0,J⟩)) (.func (.func g) #[] ca) (.func (.func h) #[] cb) X V (w.alloc (kY #[kC (I ⟨b,0,J⟩),.func (.func g) #[] ca,.func (.func h) #[] cb] 202))):=
  ⟨T.grow _ _ _ _ hR (zA (zR w) _),But.ygr (zA (zR w) _),fun k hk=> .inl hk,by simp[go_sem],by simp[go_sem],by simp[go_sem]⟩
 clear IH T hV hX ha hR
 go_enter Tryz.func154,Tryz.ntmps154
 go_wp2_with fail
 go_loopw [13] (fun i wr=>∃(j:Nat) (X':List Pg.Sp) (V':Nat->Prop),j<=8/\i=Z Y j/\y (va R V w (kC (I ⟨b,0,J⟩)) (.func (.func g) #[] ca) (.func (.func h) #[] cb) X' V' wr/\X++(Pg.scan S L lv (Pg.sub S L lv) t a 8 0).1=X'++(Pg.scan S L lv (Pg.sub S L lv) t a (8-j) j).1/\(Pg.scan S L lv (Pg.sub S L lv) t a 8 0).2=(Pg.scan S L lv (Pg.sub S L lv) t a (8-j) j).2/\X'.length+(8-j)*(1+Pg.cnt' lv)<=4680)) (fun i _=>8-(intOf i).toNat)
 case atStart=>exact⟨0,X,V,by omega,rfl,HG.out,rfl,rfl,HX.out⟩
 case round=>
  obtain⟨j,X',V',hj,rfl,HR⟩:=hrel;clear HG;have hc:=HR.out.1.c;obtain⟨c0,c1,c2⟩:=hc
  by_cases hlt:j<8
  ·have hst:=js (S:=S) (L:=L) (lv:=lv) (rec:=Pg.sub S L lv) (t:=t) (a:=a) hlt
   have eg:=HT.out.eg;have eh:=HT.out.eh
   have hlI:(j:Int)<8:=by omega
   cases hL:L j lv
   ·have HL:=HT.out.looks j lv X' V' wr hlt hlv HR.out.1.r
    rw[hL]at HL
    have ho:Pg.out S L lv (Pg.sub S L lv) t a j=([],0):=by simp[Pg.out,hL]
    have HS:y (Pg.scan S L lv (Pg.sub S L lv) t a (8-j) j=Pg.scan S L lv (Pg.sub S L lv) t a (8-(j+1)) (j+1)):=by
     rw[y,hst,ho];simp
    clear hst ho hL
    go_wp2_with fail
    refine HL.mono ?_;rintro e w1 ⟨rfl,hb1⟩;have G1:y _:=HR.out.1.grow HT.out hb1;clear hb1
    go_wp2_with fail
    obtain⟨_,h1,h2,h3⟩:=HR.out;rw[HS.out]at h1 h2;refine⟨⟨j+1,X',V',by omega,by go_num,G1.out,h1,h2,?_⟩,?_⟩
    ·have:(8-(j+1))*(1+Pg.cnt' lv)<=(8-j)*(1+Pg.cnt' lv):=kN _ (by omega)
     omega
    ·simp[intOf];omega
   ·have HL:=HT.out.looks j lv X' V' wr hlt hlv HR.out.1.r
    rw[hL]at HL;have HD:=fun w=>yed (b:=b) (S:=S) (F:=F) t j lv hlt w;have HE:y (Pg.spt S t j lv a=⟨t,j,lv,a+j,Pg.rEn S t j lv⟩):=rfl;have HO:y _:= @Pg.yhz S t j lv
    by_cases hcd:Pg.ygy S t j lv=0
    ·cases hon:(Pg.rEn S t j lv).on
     ·have ho:Pg.out S L lv (Pg.sub S L lv) t a j=([Pg.spt S t j lv a],0):=by simp[Pg.out,hL,hcd,hon]
      have HS:y (Pg.scan S L lv (Pg.sub S L lv) t a (8-j) j=(Pg.spt S t j lv a::(Pg.scan S L lv (Pg.sub S L lv) t a (8-(j+1)) (j+1)).1,(Pg.scan S L lv (Pg.sub S L lv) t a (8-(j+1)) (j+1)).2)):=by
       rw[y,hst,ho];simp
      rw[hcd]at HD;clear hst ho hL hcd HO;generalize Pg.rEn S t j lv=E at*;generalize Pg.spt S t j lv a=sp at*;have HLe:=jb E;rw[hon]at HLe;have HM:=HT.out.meets sp;rw[HE.out]at HM;obtain⟨et,el,er,eu,ed,ef⟩:=E;simp only[Pg.Sp.val,Pg.En.val,kQ]at HM HLe HD;clear hon
      go_wp2_with fail
      refine HL.mono ?_;rintro e w1 ⟨rfl,hb1⟩;have G1:y _:=HR.out.1.grow HT.out hb1;clear hb1 HL c0 c1 c2;obtain⟨c0,c1,c2⟩:=G1.out.c
      go_wp2_with fail
      refine(HD _ (HT.out.fr _ _ _ G1.out.r)).mono ?_;rintro e w2 ⟨rfl,hb2⟩;have G2:y _:=G1.out.grow HT.out hb2;clear hb2 HD c0 c1 c2 G1;obtain⟨c0,c1,c2⟩:=G2.out.c;have hl2:=G2.out.lb
      go_wp2_with fail
      refine(HM X' V' _ hlt hlv (show a+j<4096 by omega) ?_ (G2.out.grow HT.out (zA (zR w2) _)).r).mono ?_
      ·exact(jn (s:=sp) hlt HR.out.2.2.2).1
      rintro e w4 ⟨rfl,V4,hr4,hb4,hn4⟩;have G4:y _:=(G2.out.grow HT.out (zA (zR w2) _)).step HV.out hr4 hb4 hn4;obtain⟨x0,x1,x2,x3,x4,x5⟩:=G2.out.box6 HT.out hb4;clear c0 c1 c2 hr4 hb4 hn4 HM
      go_wp2_with fail
      refine(HLe _).mono ?_;rintro e w5 ⟨rfl,hb5⟩;have G5:y _:=G4.out.grow HT.out hb5;clear hb5 x0 x1 x2 x3 x4 x5 HLe
      go_wp2_with fail
      obtain⟨_,h1,h2,h3⟩:=HR.out;rw[HS.out]at h1 h2;refine⟨⟨j+1,X'++[sp],V4,by omega,by go_num,by rw[HE.out];exact G5.out,by simpa using h1,h2,?_⟩,?_⟩
      ·have:=(jn (s:=sp) hlt HR.out.2.2.2).2.1
       omega
      ·simp[intOf];omega
     ·obtain⟨m,hm⟩:=HO.out hon
      have hsub:Pg.sub S L lv=Pg.thr S L m:=by rw[hm];rfl
      have ho:Pg.out S L lv (Pg.sub S L lv) t a j=(Pg.spt S t j lv a::(Pg.thr S L m (Pg.rEn S t j lv).f ((a+j)*8)).1,(Pg.thr S L m (Pg.rEn S t j lv).f ((a+j)*8)).2):=by simp[Pg.out,hL,hcd,hon,hsub]
      rw[ho]at hst;rw[hcd]at HD;have HM1:y (lv=m+1):=hm
      have hlm:(lv:Int)-1=(m:Int):=by omega
      have hlm1:(1:Int)<=(lv:Int):=by omega
      clear ho hL hcd HO hm hsub;generalize Pg.rEn S t j lv=E at*;generalize Pg.spt S t j lv a=sp at*;have HLe:=jb E;rw[hon]at HLe;have HM:=HT.out.meets sp;rw[HE.out]at HM;obtain⟨et,el,er,eu,ed,ef⟩:=E;simp only[Pg.Sp.val,Pg.En.val,kQ]at HM HLe HD;simp only at hst;clear hon;have HI2:=HI.out m (by have:=HM1.out;omega) (by have:=HM1.out;omega) ef ((a+j)*8) (X'++[sp]);have HTL:=Pg.yhB S L m ef ((a+j)*8);generalize hth:Pg.thr S L m ef ((a+j)*8)=th at*;have HST:y _:=hst
      have HLN:y (th.1.length<=Pg.cnt' lv):=by
       have:=HM1.out;rw[y,this];exact HTL
      clear hst HTL hth;simp only[Int.natCast_mul,kQ]at HI2
      go_wp2_with fail
      refine HL.mono ?_;rintro e w1 ⟨rfl,hb1⟩;have G1:y _:=HR.out.1.grow HT.out hb1;clear hb1 HL c0 c1 c2;obtain⟨c0,c1,c2⟩:=G1.out.c
      go_wp2_with fail
      refine(HD _ (HT.out.fr _ _ _ G1.out.r)).mono ?_;rintro e w2 ⟨rfl,hb2⟩;have G2:y _:=G1.out.grow HT.out hb2;clear hb2 HD c0 c1 c2 G1;obtain⟨c0,c1,c2⟩:=G2.out.c;have hl2:=G2.out.lb
      go_wp2_with fail
      refine(HM X' V' _ hlt hlv (show a+j<4096 by omega) ?_ (G2.out.grow HT.out (zA (zR w2) _)).r).mono ?_
      ·exact(jn (s:=sp) hlt HR.out.2.2.2).1
      rintro e w4 ⟨rfl,V4,hr4,hb4,hn4⟩;have G4:y _:=(G2.out.grow HT.out (zA (zR w2) _)).step HV.out hr4 hb4 hn4;have X4:y _:=G2.out.box6 HT.out hb4;obtain⟨x0,x1,x2,x3,x4,x5⟩:=X4.out;clear c0 c1 c2 hr4 hb4 hn4 HM
      go_wp2_with fail
      refine(HLe _).mono ?_;rintro e w5 ⟨rfl,hb5⟩;have G5:y _:=G4.out.grow HT.out hb5;have y5:=(zQ hb5 X4.out).2.2.2.2.2;clear hb5 x0 x1 x2 x3 x4 x5 HLe X4;obtain⟨c0,c1,c2⟩:=G5.out.c
      go_wp2_with fail
      refine(HI2 V4 w5 ?_ ?_ (by rw[HE.out];exact G5.out.r)).mono ?_
      ·have:=HA.out
       have:=HM1.out;rw[show 4-m=(4-lv)+1 by omega,Nat.pow_succ];omega
      ·have:=(jn (s:=sp) hlt HR.out.2.2.2).2.2
       rw[<-HM1.out];exact this
      rintro e w6 ⟨rfl,V6,hr6,hb6,hn6⟩;have G6:y _:=G5.out.step HV.out hr6 hb6 hn6;clear hr6 hb6 hn6 HI2 c0 c1 c2
      by_cases hc:th.2=0
      ·have hcb:(th.2 !=0)=false:=by simp[hc]
       go_wp2_with fail
       obtain⟨_,h1,h2,h3⟩:=HR.out;rw[HST.out,if_neg (by simpa using hc)]at h1 h2;refine⟨⟨j+1,X'++[sp]++th.1,V6,by omega,by go_num,G6.out,by simpa using h1,h2,?_⟩,?_⟩
       ·have:=(jn (s:=sp) hlt HR.out.2.2.2).2.1
        have:=HLN.out;rw[O];omega
       ·simp[intOf];omega
      ·have hcb:(th.2 !=0)=true:=by simp[hc]
       go_wp2_with fail
       go_ret
       obtain⟨_,h1,h2,h3⟩:=HR.out;rw[HST.out,if_pos (by simpa using hc)]at h1 h2;exact⟨xJ h2.symm,G6.out.done (by simpa using h1)⟩
    ·have ho:Pg.out S L lv (Pg.sub S L lv) t a j=([],Pg.ygy S t j lv):=by simp[Pg.out,hL,hcd]
     rw[ho]at hst;have HST:y _:=hst
     have hcb:(Pg.ygy S t j lv !=0)=true:=by simp[hcd]
     have HC:y _:=hcd;clear hst ho hL HO HE hcd;generalize Pg.rEn S t j lv=E at*;generalize Pg.ygy S t j lv=c at*;obtain⟨et,el,er,eu,ed,ef⟩:=E;simp only[Pg.En.val]at HD
     go_wp2_with fail
     refine HL.mono ?_;rintro e w1 ⟨rfl,hb1⟩;have G1:y _:=HR.out.1.grow HT.out hb1;clear hb1 HL c0 c1 c2;obtain⟨c0,c1,c2⟩:=G1.out.c
     go_wp2_with fail
     refine(HD _ (HT.out.fr _ _ _ G1.out.r)).mono ?_;rintro e w2 ⟨rfl,hb2⟩;have G2:y _:=G1.out.grow HT.out hb2;clear hb2 HD c0 c1 c2 G1
     go_wp2_with fail
     go_ret
     obtain⟨_,h1,h2,h3⟩:=HR.out;rw[HST.out,if_pos (by simpa using HC.out)]at h1 h2;exact⟨xJ h2.symm,(G2.out.grow HT.out (zA (zR w2) _)).done (by simpa using h1)⟩
  ·have hj8:j=8:=by omega
   subst hj8
   have hlI:¬((8:Nat):Int)<8:=by omega
   go_wp2_with fail
   go_ret
   obtain⟨G,h1,h2,h3⟩:=HR.out;exact⟨xJ h2.symm,G.done (by simpa[Pg.scan]using h1)⟩
theorem yaL {b:Nat} {S:Pg.Fs} {F:Nat->Prop} {g h:FuncId} {ca cb:Array N} {L:Nat->Nat->Bool} {R:List Pg.Sp->(Nat->Prop)->C->Prop} (T:ybK b S F g h ca cb L R) (t:Int) (V:Nat->Prop) (w:C) (hR:R [] V w):
 kE D 116 #[.agg #[kC (I ⟨b,0,J⟩),.func (.func g) #[] ca,.func (.func h) #[] cb],Z Y t] w fun e w'=>
  e=kS (Z Y (Pg.thr S L 3 t 0).2)/\∃V',R (Pg.thr S L 3 t 0).1 V' w'/\But V w w'/\∀k,V' k->V k\/w.heap.size<=k:=by
 have HT:y _:=ycn T 3 (by omega) t 0 [] V _ (by decide) (by decide) (T.grow _ _ _ _ hR (zA (zR w) (kY #[kC (I ⟨b,0,J⟩),.func (.func g) #[] ca,.func (.func h) #[] cb] 202)));clear hR T
 go_enter Tryz.func116,Tryz.ntmps116
 go_wp2_with fail
 refine Calls.mono HT.out ?_;rintro e w1 ⟨rfl,V',hr,hb,hn⟩
 have fin:y (∃V',R (Pg.thr S L 3 t 0).1 V' w1/\But V w w1/\∀k,V' k->V k\/w.heap.size<=k):=
  ⟨V',hr,((But.refl V w).alloc _).trans hb (fun _ _ h=>h),fun k hk=>(hn k hk).imp id (fun h=>by simp at h;omega)⟩
 clear hr hb hn
 go_wp2_with fail
 go_ret
 exact⟨rfl,fin.out⟩
def zr (l:List Int):List N:=l.map fun k:Int=>Value.int Y k
theorem ycx (l:List Int):(zr l).length=l.length:=by simp[zr]
theorem ycy (l:List Int):∀u,u ∈ zr l->u.oneCell'=true:=by
 intro u hu;simp[zr]at hu;obtain⟨k,_,rfl⟩:=hu;rfl
theorem yfb (l:List Int) (j:Nat) (hj:j<l.length):(zr l)[j]?=I (Z Y (l.getD j 0)):=by
 simp[zr,List.getD,hj]
def zh (w:C) (ad:Option Addr) (L:List Int):Prop:=∀j,j<L.length->∃g,ad=I ⟨g,0,J⟩/\g<w.heap.size/\w.cell? ⟨g,j,J⟩=I (Z Y (L.getD j 0))
theorem zh.below {w w':C} {ad:Option Addr} {L:List Int} (h:zh w ad L) (hb:Below w.heap.size w w'):zh w' ad L:=by
 intro j hj;obtain⟨g,e,hg,hm⟩:=h j hj;exact⟨g,e,kO hg hb.size,(hb.cell (p:=⟨g,j,J⟩) hg).trans hm⟩
theorem qb {w:C} {base:Nat} {ad:Option Addr} {n cap:Nat} {L:List Int} (h:w.ownsRow base 3 1 (U ad n cap) L.length (zr L)):zh w ad L:=by
 intro j hj;obtain⟨g,cap',e,_,hg⟩:=h.form (by omega);cases e;refine⟨g,rfl,hg,?_⟩;rw[h.cellAt _ (by omega)];exact yfb L j hj
structure Var (B:Nat) (c o:Nat) (e:TypeId) (size:Nat) (vb:N) (n:Nat) (xs:List N) (w:C):Prop where
 cell:w.cell? ⟨c,o,J⟩=I vb
 own:w.ownsRow B e size vb n xs
 ne:vb.ownBlock≠I c
namespace Var
variable {B c o:Nat} {e:TypeId} {size:Nat} {vb:N} {n:Nat} {xs:List N} {w w':C}
theorem grow (h:Var B c o e size vb n xs w) (hb:Below w.heap.size w w'):Var B c o e size vb n xs w':=
 ⟨cell_later hb h.cell,zj h.own hb,h.ne⟩
theorem lt (h:Var B c o e size vb n xs w) {k:Nat} (hk:vb.ownBlock=I k):k<w.heap.size:=(h.own.lt k hk).2
theorem lb (h:Var B c o e size vb n xs w):c<w.heap.size:=World.block_lt_of_cell? _ _ h.cell
theorem push {wA w3:C} {g cap n':Nat} {xs':List N} (h:Var B c o e size vb n xs w) (hA:Below w.heap.size w wA) (hg:wA.grownBy w3 vb.ownBlock)
 (hown:w3.ownsRow B e size (U (I ⟨g,0,J⟩) n' cap) n' xs') (hat:vb.ownBlock=I g\/g=wA.heap.size):
 w3.cell? ⟨c,o,J⟩=I vb/\(∀o,w3.frozen? ⟨c,o,J⟩=w.frozen? ⟨c,o,J⟩)/\(∀o,w3.cell? ⟨c,o,J⟩=w.cell? ⟨c,o,J⟩)/\g≠c/\Var B c o e size (U (I ⟨g,0,J⟩) n' cap) n' xs' (w3.setCell ⟨c,o,J⟩ (U (I ⟨g,0,J⟩) n' cap))/\
  But (fun k=>k=c\/vb.ownBlock=I k) w (w3.setCell ⟨c,o,J⟩ (U (I ⟨g,0,J⟩) n' cap))/\(vb.ownBlock=I g\/w.heap.size<=g):=by
 have hl:=h.lb
 have hgc:g≠c:=by
  rintro rfl;rcases hat with e1|e1
  ·exact h.ne e1
  ·have:=hA.size;omega
 have hB:But (fun k=>k=c\/vb.ownBlock=I k) w w3:=(But.ygr hA).grown hg fun k hk=> .inr (.inr hk);have hB2:But (fun k=>vb.ownBlock=I k) w w3:=(But.ygr hA).grown hg fun k hk=> .inr hk;have hc:w3.cell? ⟨c,o,J⟩=I vb:=(hB2.cell (a:=⟨c,o,J⟩) hl (fun e=>h.ne e)).trans h.cell;refine⟨hc,fun o=>hB2.frozen (a:=⟨c,o,J⟩) hl (fun e=>h.ne e),fun o=>hB2.cell (a:=⟨c,o,J⟩) hl (fun e=>h.ne e),hgc,⟨World.cell?_setCell_same _ _ _ hc,?_,?_⟩,hB.setCell (.inr (.inl rfl)) _,?_⟩
 ·exact za hown fun k hk=>Below.heap_setCell _ _ _ _ (fun e=>hgc ((show g=k by simpa[kP]using hk).trans e))
 ·simpa[kP]using hgc
 ·exact hat.imp id fun e=>by have:=hA.size;omega
end Var
structure qh (w0:C) (c:Nat) (e:TypeId) (size:Nat) (len:List Pg.Sp->Nat) (row:List Pg.Sp->List N) (X:List Pg.Sp) (V:Nat->Prop) (w:C):Prop where
 bel:Below w0.heap.size w0 w
 hi:w0.heap.size<=c
 fz:∀o,w.frozen? ⟨c,o,J⟩=false
 var:∃vb,Var w0.heap.size c 0 e size vb (len X) (row X) w/\V=fun k=>k=c\/vb.ownBlock=I k
namespace qh
variable {w0:C} {c:Nat} {e:TypeId} {size:Nat} {len:List Pg.Sp->Nat} {row:List Pg.Sp->List N} {X X':List Pg.Sp} {V:Nat->Prop} {w w':C}
theorem grow (h:qh w0 c e size len row X V w) (hb:Below w.heap.size w w'):qh w0 c e size len row X V w':=by
 obtain⟨h1,h2,h3,vb,hv,rfl⟩:=h;exact⟨h1.trans (hb.mono h1.size),h2,fun o=>(hb.frozen (p:=⟨c,o,J⟩) hv.lb).trans (h3 o),vb,hv.grow hb,rfl⟩
theorem lt (h:qh w0 c e size len row X V w) {k:Nat} (hk:V k):k<w.heap.size:=by
 obtain⟨h1,h2,h3,vb,hv,rfl⟩:=h;rcases hk with rfl|hk
 ·exact hv.lb
 ·exact hv.lt hk
theorem same (h:qh w0 c e size len row X V w) (h1:len X'=len X) (h2:row X'=row X):qh w0 c e size len row X' V w:=
 ⟨h.bel,h.hi,h.fz,by rw[h1,h2];exact h.var⟩
theorem stay (h:qh w0 c e size len row X V w) (hb:Below w.heap.size w w') (h1:len X'=len X) (h2:row X'=row X):∃V',qh w0 c e size len row X' V' w'/\But V w w'/\∀k,V' k->V k\/w.heap.size<=k:=
 ⟨V,(h.grow hb).same h1 h2,But.ygr hb,fun k hk=> .inl hk⟩
theorem fr {b:Nat} {S:Pg.Fs} {F:Nat->Prop} (hf:zd w0 b S F) (h:qh w0 c e size len row X V w):zd w b S F:=
 hf.keep (G:=fun k=>w0.heap.size<=k) (w':=w) ⟨h.bel.os,h.bel.tape,h.bel.output,h.bel.size,fun k hk _=>h.bel.block k hk⟩ (fun k hk=>by have:=hf.lt hk;omega)
theorem push (h:qh w0 c e size len row X V w) {vb:N} (hv:Var w0.heap.size c 0 e size vb (len X) (row X) w) (hV:V=fun k=>k=c\/vb.ownBlock=I k) {wA w3:C} {g cap n':Nat} {xs':List N} (hA:Below w.heap.size w wA) (hg:wA.grownBy w3 vb.ownBlock)
 (hown:w3.ownsRow w0.heap.size e size (U (I ⟨g,0,J⟩) n' cap) n' xs') (hat:vb.ownBlock=I g\/g=wA.heap.size) (h1:len X'=n') (h2:row X'=xs'):
 ∃V',qh w0 c e size len row X' V' (w3.setCell ⟨c,0,J⟩ (U (I ⟨g,0,J⟩) n' cap))/\But V w (w3.setCell ⟨c,0,J⟩ (U (I ⟨g,0,J⟩) n' cap))/\∀k,V' k->V k\/w.heap.size<=k:=by
 obtain⟨p1,p2,p2',p3,p4,p5,p6⟩:=hv.push hA hg hown hat;subst hV;refine⟨_,⟨?_,h.hi,fun o=>by rw[World.frozen?_setCell,p2];exact h.fz o,_,by rw[h1,h2];exact p4,rfl⟩,p5,fun k hk=> ?_⟩
 ·have hlo:∀k,(k=c\/vb.ownBlock=I k)->w0.heap.size<=k:=fun k hk=>by
   rcases hk with rfl|hk
   ·exact h.hi
   ·exact(hv.own.lt k hk).1
  exact h.bel.trans (p5.below h.bel.size hlo)
 ·rcases hk with rfl|hk
  ·exact .inl (.inl rfl)
  ·have e1:g=k:=by simpa[kP]using hk
   subst e1;exact p6.imp .inr id
end qh
theorem qu:(Tryz.prog.info? 3).map (fun i=>(i.zero,i.size,i.bytes))=I (I (Z Y 0),1,8):=by kernel_rfl
theorem ycm {w0:C} {c:Nat} {t:Int} (s:Pg.Sp) (X:List Pg.Sp) (V:Nat->Prop) (w:C) (hlen:X.length<4680)
 (hR:qh w0 c 3 1 (fun X=>(t::Pg.zU X).length) (fun X=>zr (t::Pg.zU X)) X V w):
 kE D 117 #[s.val,kC (I ⟨c,0,J⟩)] w fun e w'=>e=kS (kD #[])/\∃V',qh w0 c 3 1 (fun X=>(t::Pg.zU X).length) (fun X=>zr (t::Pg.zU X)) (X++[s]) V' w'/\But V w w'/\∀k,V' k->V k\/w.heap.size<=k:=by
 have HT:y (Pg.zU (X++[s])=Pg.zU X++if s.e.on=true then [s.e.f]else []):=by simp[y,Pg.zU]
 have HR:y _:=hR;have hl:=Pg.yhb X;obtain⟨st,sp,sl,sa,⟨et,el,er,eu,ed,ef⟩⟩:=s;have HLe:=jb ⟨et,el,er,eu,ed,ef⟩;simp only[Pg.Sp.val,Pg.En.val]at HLe ⊢;simp only at HT;cases hon:Pg.En.on ⟨et,el,er,eu,ed,ef⟩
 ·rw[hon]at HLe HT
  clear hR hon
  go_enter Tryz.func117,Tryz.ntmps117
  go_wp2_with fail
  refine(HLe _).mono ?_;rintro e w1 ⟨rfl,hb1⟩;have fin:y _:=HR.out.stay (X':=X++[⟨st,sp,sl,sa,⟨et,el,er,eu,ed,ef⟩⟩]) (zT (zA (zR w) _) hb1) (by rw[HT.out];simp) (by rw[HT.out];simp);clear hb1
  go_wp2_with fail
  go_end0
  exact⟨rfl,fin.out⟩
 ·rw[hon]at HLe HT
  obtain⟨vb,hv,hV⟩:=hR.var;obtain⟨q0,hq,hz0,hz1,hz2⟩:=info_parts qu;have HVr:y _:=hv;have hfz:=hR.fz;have hw0:=hR.bel.size;have hcl:=hv.lb;clear hR hon hv
  go_enter Tryz.func117,Tryz.ntmps117
  go_wp2_with fail
  refine(HLe _).mono ?_;rintro e w1 ⟨rfl,hb1⟩;have hB:Below w.heap.size w w1:=zT (zA (zR w) _) hb1;have x9:w1.cell? ⟨w.heap.size,9,J⟩=I (Z Y ef):=(hb1.cell (p:=⟨w.heap.size,9,J⟩) (by simp)).trans (by simp[go_sem]);have v1:=HVr.out.grow hB;have cc:=v1.cell
  have hl1:w.heap.size<w1.heap.size:=by have:=hb1.size;simp at this;omega
  have hown:=v1.own;have HB:y _:=hB;clear hb1 hB v1 HLe
  go_wp2_with (first
   | (at_builtin;refine wpList_append_lies _ rfl _ _ 45 rfl w0.heap.size 3 q0 (Z Y 0) 1 8 Tryz.underlying45 hq hz0 hz1 hz2 rfl (by decide) _ _ _ rfl (hown.alloc _) ⟨w1.heap.size,0,J⟩ 1 1 [Z Y ef] rfl rfl ?c1 ?c2 (by decide) ?c3 ?c4 ?c5 (w1.heap.size+1) (by simp) ?_))
  case c1=>
   intro j u hj
   match j,hj with
   | 0,hj=>simp at hj;subst hj;simp[Addr.add,go_sem]
  case c2=>intro u hu;simp at hu;subst hu;rfl
  case c3=>simp[maxLen];omega
  case c4=>simp;omega
  case c5=>have:=HB.out.size;simp;omega
  intro g cap w3 hown3 hgrow hat hlt3;have hbA:=zA HB.out (kY #[Z Y ef] 3)
  have hat':vb.ownBlock=I g\/g=(w1.alloc (kY #[Z Y ef] 3)).heap.size:=by simpa using hat
  obtain⟨p1,p2,p3,p4,_⟩:=HVr.out.push hbA hgrow hown3 hat';have kf:w3.frozen? ⟨c,0,J⟩=false:=(p2 0).trans (hfz 0);have fin:y _:=HR.out.push (X':=X++[⟨st,sp,sl,sa,⟨et,el,er,eu,ed,ef⟩⟩]) HVr.out hV hbA hgrow hown3 hat' (by rw[HT.out];simp) (by rw[HT.out];simp[zr]);clear hbA hat' p2 p3 p4 hown3 hgrow hat hlt3 hown hfz HVr HR
  go_wp2_with fail
  go_end0
  exact⟨rfl,fin.out⟩
theorem vP:∀args w,(callFunc 117 args).run D w= .ok (.enter 117 args) w:=fun args w=>by simp[go_sem]
theorem qp:∀args w,(callFunc 113 args).run D w= .ok (.enter 113 args) w:=fun args w=>by simp[go_sem]
theorem ybE {b:Nat} {S:Pg.Fs} {F:Nat->Prop} {w0:C} {c:Nat} {t:Int} (h:zd w0 b S F):
 ybK b S F 113 117 #[] #[kC (I ⟨c,0,J⟩)] Pg.zW (qh w0 c 3 1 (fun X=>(t::Pg.zU X).length) (fun X=>zr (t::Pg.zU X))):=
 ⟨qp,vP,fun _ _ _ hR=>hR.fr h,fun _ _ _ hR _ hk=>hR.lt hk,fun _ _ _ _ hR hb=>hR.grow hb,
  fun i lv _ _ w _ _ _=>zX (qU (i:Int) (lv:Int) w),fun s X V w _ _ _ hl hR=>ycm s X V w hl hR⟩
variable {P:Program}
theorem qX (w:C) (t e ty t':TypeId) (z:N) (ht:P.underlying t=I (.slice e)) (hv:∀w,(zeroValue e).run P w= .ok z w) (g o n c:Nat) (hn:0<n) (cur:Array N)
 (hg:w.heap[g]?=I (kY cur t' (0,0))) (hfit:o+n*z.cells.size<=cur.size) (h1:∀v ∈ (Builtin.zeroCells z.cells n).toList,v.oneCell'=true):
 (Builtin.clear_ #[t] ty #[U (I ⟨g,o,J⟩) n c]).run P w= .ok (kD #[]) (w.setRow g (cur.toList.take o++(Builtin.zeroCells z.cells n).toList++cur.toList.drop (o+n*z.cells.size)).toArray):=by
 have hl:(Builtin.zeroCells z.cells n).toList.length=n*z.cells.size:=by simp[size_zeroCells]
 have hst:=run_storeCells_at P g o t' (Builtin.zeroCells z.cells n).toList 0 cur w hg (by rw[hl];simpa using hfit) h1;rw[hl]at hst;simp only[kX]at hst;obtain⟨m,rfl⟩:∃m,n=m+1:=⟨n-1,by omega⟩;simp[Builtin.clear_,run_underlying ht,hv,hst]
theorem zZ {ops:Array Oper} {o:Oper} {a:Act} {w:C} {K:Act->C->Prop} {Q:Exit->Act->C->Prop} {E:Prop}
 (hg:o.guard=J) (d x:Operand) (dT sT:TypeId) (hop:o.op=Op.call {callee:=Callee.builtin Builtin.append,args:=#[d,x],argTypes:=#[dT,sT]})
 (v u:N) (hd:a.eval d=v) (hx:a.eval x=u) {v':N} {w':C} (hr:(Builtin.append_ #[dT,sT] o.type #[v,u]).run P w= .ok v' w') (hK:K (a.put o.dst v') w'):
 if Region.wanted o (yielded ops a.tmps)=true then Oper.wp P o a w K Q else E:=by
 have hw:Region.wanted o (yielded ops a.tmps)=true:=by simp[Region.wanted,hg]
 rw[if_pos hw];unfold Oper.wp;simp[execOp,hop,resolve,invoke,builtin,hd,hx,hr,Result.andThen];exact hK
theorem vW (w:C) {o:Oper} {a:Act} {K:Act->C->Prop} {Q:Exit->Act->C->Prop} (d:Operand) (t:TypeId)
 (ho:o.op= .call {callee:= .builtin .clear,args:=#[d],argTypes:=#[t]}) (v:N) (hd:a.eval d=v) {v':N} {w':C}
 (hr:(Builtin.clear_ #[t] o.type #[v]).run P w= .ok v' w') (h:K (a.put o.dst v') w'):o.wp P a w K Q:=by
 unfold Oper.wp execOp;simp only[ho,resolve,invoke,builtin,Sem.run_bind,Sem.run_pure,Result.andThen_ok,List.map_toArray,List.map_cons,List.map_nil,hd,hr];exact h
theorem xB (w:C) {ops:Array Oper} {rest:List Oper} {o:Oper} {a:Act} {Q:Exit->Act->C->Prop} (hgd:o.guard=J) (d:Operand) (t:TypeId)
 (ho:o.op= .call {callee:= .builtin .clear,args:=#[d],argTypes:=#[t]}) (v:N) (hd:a.eval d=v) {v':N} {w':C}
 (hr:(Builtin.clear_ #[t] o.type #[v]).run P w= .ok v' w') (h:wpList P ops Q rest (a.put o.dst v') w'):wpList P ops Q (o::rest) a w:=
 wpList_plain hgd fun _ hK=>vW w d t ho v hd hr (hK _ _ h)
theorem But.setRow {F:Nat->Prop} {w w1:C} (h:But F w w1) {g:Nat} (ha:w.heap.size<=g\/F g) (cs:Array N):But F w (w1.setRow g cs):=
 ⟨h.os,h.tape,h.output,by simpa using h.size,fun i hi hF=>by
  rw[setRow_other _ _ _ _ (fun e=>by subst e;exact ha.elim (fun h'=>by omega) hF)]
  exact h.block i hi hF⟩
theorem yeN {c xs zs:List N} {z n k:Nat} (hk:k<n) (hc:n*z<=c.length) (hx:c.take (n*z)=xs):
 let c1:=c.take (k*z)++xs.drop ((k+1)*z)++c.drop (k*z+(xs.drop ((k+1)*z)).length)
 (c1.take ((n-1)*z)++zs++c1.drop ((n-1)*z+z)).take ((n-1)*z)=xs.take (k*z)++xs.drop ((k+1)*z):=by
 intro c1;obtain⟨m,rfl⟩:∃m,n=m+1:=⟨n-1,by omega⟩
 have e1:(m+1)*z=m*z+z:=by rw[kI,kT]
 have e2:(k+1)*z=k*z+z:=by rw[kI,kT]
 have e3:k*z<=m*z:=kN _ (by omega);simp only[kK]
 have hxl:xs.length=m*z+z:=by rw[<-hx,q];omega
 have hd:(xs.drop ((k+1)*z)).length=m*z-k*z:=by rw[kR,hxl];omega
 have ht:(c.take (k*z)).length=k*z:=by rw[q];omega
 have h1:c1.take (m*z)=c.take (k*z)++xs.drop ((k+1)*z):=by
  show(c.take (k*z)++xs.drop ((k+1)*z)++_).take (m*z)=_
  rw[H (by rw[O,ht,hd];omega),M (by rw[O,ht,hd];omega)]
 have hl:(c1.take (m*z)).length=m*z:=by rw[h1,O,ht,hd];omega
 rw[kV,H (by omega),M (by omega),h1,<-hx,List.take_take]
 congr 2
 omega
def zk (w:C) (e:TypeId) (size:Nat) (v:N) (n:Nat) (xs:List N):Prop:=
 xs.length=n*size/\((v=U J 0 0/\n=0)\/∃g o cap cur,v=U (I ⟨g,o,J⟩) n cap/\w.heap[g]?=I (kY cur e (0,0))/\n<=cap/\cap<=maxLen/\o+cap*size<=cur.size/\(cur.toList.drop o).take (n*size)=xs)
section
variable {w w':C} {e:TypeId} {size n:Nat} {v:N} {xs:List N}
theorem zk.yhw {base:Nat} (h:w.ownsRow base e size v n xs):zk w e size v n xs:=by
 obtain⟨hl,h⟩:=h;refine⟨hl,h.imp id ?_⟩;rintro ⟨g,cap,cur,rfl,_,hg,h1,h2,h3,h4⟩;exact⟨g,0,cap,cur,rfl,hg,h1,h2,by omega,by simpa using h4⟩
theorem zk.nil (w:C) (e:TypeId) (size:Nat):zk w e size (U J 0 0) 0 []:=⟨by simp,.inl ⟨rfl,rfl⟩⟩
theorem zk.lt (h:zk w e size v n xs):∀k,v.ownBlock=I k->k<w.heap.size:=by
 intro k hk;rcases h.2 with ⟨rfl,_⟩|⟨g,o,cap,cur,rfl,hg,_⟩
 ·simp[kP]at hk
 ·simp[kP]at hk
  subst hk;exact(kF.1 hg).1
theorem zk.of_block (h:zk w e size v n xs) (hb:∀k,v.ownBlock=I k->w'.heap[k]?=w.heap[k]?):zk w' e size v n xs:=by
 refine⟨h.1,h.2.imp id ?_⟩;rintro ⟨g,o,cap,cur,rfl,hg,r⟩;exact⟨g,o,cap,cur,rfl,(hb g rfl).trans hg,r⟩
theorem zk.but {F:Nat->Prop} (h:zk w e size v n xs) (hb:But F w w') (hF:∀k,v.ownBlock=I k->¬F k):zk w' e size v n xs:=
 h.of_block fun k hk=>hb.block k (h.lt k hk) (hF k hk)
theorem zk.form (h:zk w e size v n xs):∃ad cap,v=U ad n cap:=by
 rcases h.2 with ⟨rfl,rfl⟩|⟨g,o,cap,cur,rfl,_⟩
 ·exact⟨J,0,rfl⟩
 ·exact⟨_,_,rfl⟩
theorem zk.shape (h:zk w e size v n xs) (hn:0<n):∃g o cap,v=U (I ⟨g,o,J⟩) n cap/\g<w.heap.size/\n<=cap/\cap<=maxLen:=by
 rcases h.2 with ⟨rfl,rfl⟩|⟨g,o,cap,cur,rfl,hg,h1,h2,_⟩
 ·omega
 ·exact⟨g,o,cap,rfl,(kF.1 hg).1,h1,h2⟩
theorem zk.cell {g o cap:Nat} (h:zk w e size (U (I ⟨g,o,J⟩) n cap) n xs) {j:Nat} (hj:j<n*size):w.cell? ⟨g,o+j,J⟩=xs[j]?:=by
 rcases h.2 with ⟨e,_⟩|⟨g',o',cap',cur,e,hg,h1,h2,h3,h4⟩
 ·cases e
 ·cases e
  rw[cell_of_row w g (o+j) cur _ _ hg,<-h4,List.getElem?_take,if_pos hj,List.getElem?_drop];simp
theorem zk.tail {g o cap:Nat} (h:zk w e size (U (I ⟨g,o,J⟩) n cap) n xs) (hn:0<n) {o':Nat} (ho:o'=o+size\/(cap=1/\o'=o)):
 zk w e size (U (I ⟨g,o',J⟩) (n-1) (cap-1)) (n-1) (xs.drop size):=by
 obtain⟨hl,h⟩:=h;obtain⟨m,rfl⟩:∃m,n=m+1:=⟨n-1,by omega⟩;simp only[kK]
 have hm:(m+1)*size=m*size+size:=by rw[kI,kT]
 refine⟨by rw[kR,hl];omega,?_⟩;rcases h with ⟨e,_⟩|⟨g',p,cap',cur,e,hg,h1,h2,h3,h4⟩
 ·cases e
 ·cases e
  obtain⟨c,rfl⟩:∃c,cap=c+1:=⟨cap-1,by omega⟩
  have hc:(c+1)*size=c*size+size:=by rw[kI,kT]
  refine .inr ⟨g,o',c,cur,rfl,hg,by omega,by omega,?_,?_⟩
  ·rcases ho with rfl|⟨h0,rfl⟩
   ·omega
   ·omega
  ·rcases ho with rfl|⟨h0,rfl⟩
   ·rw[<-h4,kH,List.drop_drop]
    congr 1
    omega
   ·have hc0:m=0:=by omega
    subst hc0
    have:(xs.drop size).length=0:=by rw[kR,hl];omega
    rw[List.length_eq_zero_iff.1 this];simp
end
section
variable {P:Program} (w:C)
theorem jL (t ty e:TypeId) (i:TypeInfo) (ht:P.underlying t=I (.slice e)) (hi:P.info? e=I i)
 (g o sLen sCap:Nat) (cur:Array N) (hg:w.heap[g]?=I (kY cur e (0,0)))
 (a:Addr) (m c:Nat) (news:List N) (hl:news.length=m*i.size) (hnews:∀j u,news[j]?=I u->w.cell? (a.add j)=I u) (h1:∀u ∈ news,u.oneCell'=true)
 (hroom:sLen+m<=sCap) (hfit:o+sLen*i.size+news.length<=cur.size):
 (Builtin.append_ #[t,t] ty #[U (I ⟨g,o,J⟩) sLen sCap,U (I a) m c]).run P w=
   .ok (U (I ⟨g,o,J⟩) (sLen+m) sCap) (w.setRow g (cur.toList.take (o+sLen*i.size)++news++cur.toList.drop (o+sLen*i.size+news.length)).toArray):=by
 have hf:=run_firstCells_some (P:=P) w i.size m a m c news hl hnews;have hst:=run_storeCells_at P g (o+sLen*i.size) e news 0 cur w hg (by simpa using hfit) h1;simp only[kX]at hst;simp[Builtin.append_,run_underlying ht,sizeOf,typeInfo,hi,Builtin.lenOf,hroom,hf,Addr.add_lit,hst]
theorem jr (t ty e:TypeId) (i:TypeInfo) (z:N) (size bytes:Nat) (ht:P.underlying t=I (.slice e)) (hi:P.info? e=I i) (hz:i.zero=I z)
 (hsize:i.size=size) (hby:i.bytes=bytes) (hzs:z.cells.size=size) (hsz:0<size)
 (v:N) (n:Nat) (xs:List N) (hown:zk w e size v n xs)
 (a:Addr) (m c:Nat) (news:List N) (hl:news.length=m*size) (hnews:∀j u,news[j]?=I u->w.cell? (a.add j)=I u) (h1:∀u ∈ news,u.oneCell'=true)
 (hm:0<m) (h63:n+m<=maxLen) (hbytes:(n+m)*bytes<=140737488355328):
 ∃g o cap w',(Builtin.append_ #[t,t] ty #[v,U (I a) m c]).run P w= .ok (U (I ⟨g,o,J⟩) (n+m) cap) w'/\zk w' e size (U (I ⟨g,o,J⟩) (n+m) cap) (n+m) (xs++news)/\
  But (fun j=>v.ownBlock=I j) w w'/\(v.ownBlock=I g\/w.heap.size<=g):=by
 have hlen:(xs++news).length=(n+m)*size:=by rw[O,hown.1,hl,kI]
 rcases hown.2 with ⟨rfl,rfl⟩|⟨g,o,cap,cur,rfl,hg,hnc,hcm,hcs,htake⟩
 ·have hx:xs=[]:=List.eq_nil_of_length_eq_zero (by simpa using hown.1)
  subst hx;obtain⟨v',w',hr,h2,h3,h4⟩:=run_append_own (P:=P) w w.heap.size t ty e i z size bytes ht hi hz hsize hby hzs hsz (U J 0 0) 0 [] (World.ownsRow_nil _ _ _ _) a m c news hl hnews h1 h63 hbytes (Nat.le_refl _);rcases h2.2 with ⟨_,e0⟩|⟨g,cap,cur,rfl,hb,r⟩
  ·omega
  ·exact⟨g,0,cap,w',hr,zk.yhw h2,(But.refl _ w).grown h3 (fun k hk=> .inr hk),.inr hb⟩
 ·by_cases hroom:n+m<=cap
  ·subst hsize
   have e1:(n+m)*i.size=n*i.size+m*i.size:=kI _ _ _;have e2:(n+m)*i.size<=cap*i.size:=kN _ hroom;have hr:=jL (P:=P) w t ty e i ht hi g o n cap cur hg a m c news hl hnews h1 hroom (by omega);refine⟨g,o,cap,_,hr,⟨hlen,.inr ⟨g,o,cap,_,rfl,setRow_heap w g cur _ e _ hg,hroom,hcm,?_,?_⟩⟩,But.setRow (But.refl (fun j=>(Value.slice (I ⟨g,o,J⟩) n cap).ownBlock=I j) w) (g:=g) (.inr rfl) _,.inl rfl⟩
   ·simp only[List.size_toArray,O,q,kR,kU]
    omega
   ·have e3:(cur.toList.take (o+n*i.size)).length=o+n*i.size:=by rw[q,kU];omega
    rw[kV,List.drop_append_of_le_length (by omega),kH,show o+n*i.size-o=n*i.size by omega,htake,<-kV,H (by rw[hlen];omega),M (by rw[hlen];omega)]
  ·obtain⟨v',w',hr,r1,r2⟩:=run_append_arg_grows (P:=P) w t ty e i z size bytes ht hi hz hsize hby hzs hsz ⟨g,o,J⟩ n cap xs hown.1 (fun j u hj=>by
    rw[Addr.add_lit,hown.cell (by have:=(List.getElem?_eq_some_iff.1 hj).1;rw[hown.1]at this;exact this)]
    exact hj) a m c news hl hnews (by omega) h63 hbytes
   rcases r1.2 with ⟨_,e0⟩|⟨g',cap',cur',rfl,hb,r⟩
   ·omega
   ·exact⟨g',0,cap',w',hr,zk.yhw r1,(But.refl _ w).grown r2 (fun k hk=>by cases hk),.inr hb⟩
end
def xC (l:Pg.Ln):List N:=[Z Y l.m.p,Z Y l.m.s,Z Y l.m.f,Z Y l.m.r,kJ l.d]
def zL (L:List Pg.Ln):List N:=L.flatMap xC
theorem qa:∀L:List Pg.Ln,(zL L).length=L.length*5
 | []=>rfl
 | x::r=>by
   have:=qa r;simp[zL,xC]at this ⊢;omega
theorem jQ (x:Pg.Ln) (r:List Pg.Ln):zL (x::r)=xC x++zL r:=by simp[zL]
theorem qV (A B:List Pg.Ln):zL (A++B)=zL A++zL B:=by simp[zL]
theorem yb9 (m:Pg.Ln):zL [m]=xC m:=by simp[zL]
theorem xv (A:List Pg.Ln) (m:Pg.Ln):zL (A++[m])=zL A++xC m:=by rw[qV,yb9]
theorem jK:∀(L:List Pg.Ln) (j i:Nat),j<L.length->i<5->(zL L)[j*5+i]?=(xC (L.getD j .zz))[i]?
 | [],j,_,h,_=>by simp at h
 | x::r,0,i,_,hi=>by
   rw[jQ,List.getElem?_append_left (by simp[xC];omega)];simp
 | x::r,j+1,i,h,hi=>by
   have:=jK r j i (by simpa using h) hi;rw[jQ,List.getElem?_append_right (by simp[xC];omega)];rw[show(j+1)*5+i-(xC x).length=j*5+i by simp[xC];omega,this];simp
theorem jR (L:List Pg.Ln):∀u,u ∈ zL L->u.oneCell'=true:=by
 intro u hu;obtain⟨m,_,hm⟩:=List.mem_flatMap.1 hu;simp[xC]at hm
 rcases hm with rfl|rfl|rfl|rfl|rfl<;>rfl
theorem xH (L:List Pg.Ln) (j:Nat):(zL L).take (j*5)=zL (L.take j)/\(zL L).drop (j*5)=zL (L.drop j):=by
 by_cases hj:j<=L.length
 ·have e:zL L=zL (L.take j)++zL (L.drop j):=by rw[<-qV,List.take_append_drop]
  have hl:(zL (L.take j)).length=j*5:=by rw[qa,q];congr 1;omega
  exact⟨by rw[e,List.take_left' hl],by rw[e,List.drop_left' hl]⟩
 ·have hl:=qa L
  rw[M (by omega),M (l:=L) (by omega),kZ (by omega),kZ (show L.length<=j by omega)];exact⟨rfl,rfl⟩
def qi (w:C) (g o:Nat) (l:Pg.Ln):Prop:=
 w.cell? ⟨g,o,J⟩=I (Z Y l.m.p)/\w.cell? ⟨g,o+1,J⟩=I (Z Y l.m.s)/\w.cell? ⟨g,o+2,J⟩=I (Z Y l.m.f)/\w.cell? ⟨g,o+3,J⟩=I (Z Y l.m.r)/\w.cell? ⟨g,o+4,J⟩=I (kJ l.d)
theorem qi.of {w w':C} {g o:Nat} {l:Pg.Ln} (h:qi w g o l) (hc:∀p,w'.cell? ⟨g,p,J⟩=w.cell? ⟨g,p,J⟩):qi w' g o l:=
 ⟨(hc _).trans h.1,(hc _).trans h.2.1,(hc _).trans h.2.2.1,(hc _).trans h.2.2.2.1,(hc _).trans h.2.2.2.2⟩
theorem qi.below {w w':C} {g o B:Nat} {l:Pg.Ln} (h:qi w g o l) (hb:Below B w w') (hg:g<B):qi w' g o l:=h.of fun p=>hb.cell (p:=⟨g,p,J⟩) hg
def xh (w:C) (ad:Option Addr) (L:List Pg.Ln):Prop:=∀j,j<L.length->∃g o,ad=I ⟨g,o,J⟩/\g<w.heap.size/\qi w g (o+j*5) (L.getD j .zz)
theorem xh.below {w w':C} {ad:Option Addr} {L:List Pg.Ln} (h:xh w ad L) (hb:Below w.heap.size w w'):xh w' ad L:=by
 intro j hj;obtain⟨g,o,e,hg,hm⟩:=h j hj;exact⟨g,o,e,kO hg hb.size,hm.below hb hg⟩
theorem zl {w:C} {e:TypeId} {ad:Option Addr} {n cap:Nat} {L:List Pg.Ln} (h:zk w e 5 (U ad n cap) L.length (zL L)):xh w ad L:=by
 intro j hj;obtain⟨g,o,cap',e,hg,_⟩:=h.shape (by omega);cases e;have hc:=fun i (hi:i<5)=>(h.cell (j:=j*5+i) (by omega)).trans (jK L j i hj hi);have h0:=hc 0 (by omega);have h1:=hc 1 (by omega);have h2:=hc 2 (by omega);have h3:=hc 3 (by omega);have h4:=hc 4 (by omega);simp only[xC,<-Nat.add_assoc,kX]at h0 h1 h2 h3 h4;exact⟨g,o,rfl,hg,by simpa using h0,by simpa using h1,by simpa using h2,by simpa using h3,by simpa using h4⟩
end
end Go.Proofs.YtdphiompijbelaaGreat
