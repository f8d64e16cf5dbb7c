import Derived.Test.YtdphiompijbelaaGreatPageRef
import Derived.Deep.RegionHeld3
set_option linter.all false
set_option maxRecDepth 100000
open Go.Obj renaming cells->kp
open List renaming getElem_mem->D,length_append->ki,take_length->un,length_drop->ur
open Go.Ending renaming returned->K
open Nat renaming lt_of_lt_of_le->O,le_refl->A,le_of_lt->ks
open Go renaming World->Z
open Go.Proofs.Tryz renaming prog->T
open Go.World renaming cell?_of_block->N,frozen?_of_block->Y,ownsRow_nil->V,news_of_block->z
open Bool renaming false->R,true->Q
open Option renaming none->B,some->C
open Go.Value renaming int->J,slice->S,slice->U,pointer->X,tuple->E,bool->H,ownBlock->kO,agg->kh,int->uv
open Go.IntKind renaming i64->I
set_option maxHeartbeats 4000000
namespace Go.Proofs.YtdphiompijbelaaGreat
open Go.RowKit Go.Sort
theorem yc1 {b:Nat} {vb:Value} {L:List Pg.Mp} (q:Int) (hq:Pg.fits q) (w:Z) (h:qQ w b vb L):
 Calls T 83 #[X (C ⟨b,0,B⟩),J I q] w fun e w'=>e=K (J I (Pg.fndN L q))/\Below w.heap.size w w':=by
 obtain⟨ad,cap,rfl⟩:=zF h.row;have Hg:=h.good.len;have HB:Hid _:=h;clear h
 go_enter Tryz.func83,Tryz.ntmps83
 go_wp2_with fail
 go_loopw [5] (fun i wr=>∃j:Nat,j<=L.length/\i=J I j/\Hid ((∀t,t<j->(L.getD t .zz).has q=R)/\Below w.heap.size w wr)) (fun i _=>L.length-(intOf i).toNat)
 case atStart=>exact⟨0,by omega,rfl,⟨fun t ht=>by omega,zR _⟩⟩
 case round=>
  obtain⟨j,hj,rfl,HR⟩:=hrel;have rT:=(HB.out.grow HR.out.2).c0
  have i0:(0:Int)<=(j:Int):=by omega
  by_cases Hf:j<L.length
  ·obtain⟨g,rfl,hg,hm⟩:=xx (HB.out.grow HR.out.2).row j Hf
   obtain⟨k0,k1,k2,k3⟩:=hm
   have i1:(j:Int)<(L.length:Int):=by omega
   have dF:=HB.out.good.ok (L.getD j .zz) (by rw[Pg.yh7 Hf];exact D _);have HC:=qA (L.getD j .zz).p (L.getD j .zz).s (L.getD j .zz).f (L.getD j .zz).r q (Pg.yi1 dF).2.2.1 hq wr;cases hh:(L.getD j .zz).has q
   ·have HN:Hid (∀t,t<j+1->(L.getD t .zz).has q=R):=fun t ht=>by
     by_cases e:t=j
     ·rw[e];exact hh
     ·exact HR.out.1 t (by omega)
    rw[show Pg.over (L.getD j .zz).p (L.getD j .zz).s q=R from hh]at HC;clear hh dF;generalize L.getD j .zz=x at*;obtain⟨p,s,f,r⟩:=x
    go_wp2_with (go_at_call 132;refine HC.mono ?_;rintro e w1 ⟨rfl,Ha⟩;have oN:Hid _:=zT HR.out.2 Ha;clear Ha)
    go_roundw
    case rel=>exact⟨j+1,by omega,by go_num,⟨HN.out,oN.out⟩⟩
    case measure=>simp[intOf];omega
   ·have HF:Hid (Pg.fndN L q=(j:Int)):=by simp[Hid,Pg.fndN,Pg.ylA Hf hh HR.out.1]
    rw[show Pg.over (L.getD j .zz).p (L.getD j .zz).s q=Q from hh]at HC;clear hh dF;generalize L.getD j .zz=x at*;obtain⟨p,s,f,r⟩:=x
    go_wp2_with (go_at_call 132;refine HC.mono ?_;rintro e w1 ⟨rfl,Ha⟩;have oN:Hid _:=zT HR.out.2 Ha;clear Ha)
    go_ret
    exact⟨zE HF.out.symm,oN.out⟩
  ·have i1:¬(j:Int)<(L.length:Int):=by omega
   have HF:Hid (Pg.fndN L q= -1):=by
    have:Pg.fnd L q=B:=Pg.ylz fun t ht=>HR.out.1 t (by omega);simp[Hid,Pg.fndN,this]
   go_wp2_with fail
   go_ret
   exact⟨zE HF.out.symm,HR.out.2⟩
theorem ygt {w:Z} {vb:Value} {L:List Pg.Mp} {t:TypeId} (hr:w.ownsRow 0 39 4 vb L.length (zC L)) (hg:Pg.Good L) (hn:L=[]->vb=S B 0 0):qQ (w.alloc (kp #[vb] t)) w.heap.size vb L:=by
 have hb:=heap_alloc_new w (kp #[vb] t);refine⟨cell_of_row _ _ 0 _ _ _ hb,fun o=>by unfold World.frozen?;simp only[hb];simp,hr.alloc _,fun e=> ?_,hg,hn⟩;have:=(hr.lt _ e).2;omega
theorem yc0 {b:Nat} {vb:Value} {L:List Pg.Mp} (w:Z) (h:qQ w b vb L):
 Calls T 75 #[X (C ⟨b,0,B⟩)] w fun e w'=>∃b' vb',e=K (X (C ⟨b',0,B⟩))/\qQ w' b' vb' L/\Below w.heap.size w w'/\∀k,bkF b' vb' k->w.heap.size<=k:=by
 have Hg:=h.good.len;have rT:=h.c0
 by_cases hL:L=[]
 ·have e:=h.none' hL
  subst e;have hg:=h.good;subst hL;clear h
  go_enter Tryz.func75,Tryz.ntmps75
  go_wp2_with fail
  go_ret
  refine⟨_,S B 0 0,rfl,ygt (V _ _ _ _) hg (fun _=>rfl),zA (zR _) _,fun k hk=> ?_⟩;rcases hk with rfl|hk
  ·exact A _
  ·simp[kO]at hk
 ·have wO:0<L.length:=List.length_pos_iff.2 hL
  obtain⟨g,cap,rfl,_,hgl⟩:=h.row.form wO;obtain⟨q0,sF,rW,rZ,rX⟩:=info_parts qp;have dP:Hid _:=h.row.cells (g:=g) rfl;have Hr:w.ownsRow w.heap.size 39 4 (S B 0 0) 0 []:=V _ _ _ _;have HG:Hid _:=h.good;clear h
  go_enter Tryz.func75,Tryz.ntmps75
  go_wp2_with (first
   | (at_builtin;refine wpList_append_lies _ rfl _ _ 44 rfl w.heap.size 39 q0 _ 4 32 Tryz.underlying44 sF rW rZ rX rfl (by decide) _ _ _ rfl Hr ⟨g,0,B⟩ L.length cap (zC L) rfl (xK L) ?c1 (qn L) wO ?c3 ?c4 (A _) (w.heap.size) rfl ?_))
  case c1=>exact dP.out
  case c3=>unfold maxLen;omega
  case c4=>omega
  intro g3 rC w3 Hy Hq hat pK
  have Gf:w3.ownsRow w.heap.size 39 4 (S (C ⟨g3,0,B⟩) L.length rC) L.length (zC L):=by simpa using Hy
  have mJ:Hid _:=Gf;have He:Hid (Below w.heap.size w w3):=((But.refl (fun _=>False) w).grown Hq fun k hk=>by simp[kO]at hk).below (A _) (fun _ h=>h.elim);clear Hy Hq hat pK Hr Gf
  go_wp2_with fail
  go_ret
  refine⟨_,S (C ⟨g3,0,B⟩) L.length rC,rfl,ygt (qF mJ.out) HG.out (fun e=>absurd e hL),zA He.out _,fun k hk=> ?_⟩;rcases hk with rfl|hk
  ·exact He.out.size
  ·exact(World.ownsRow.lt mJ.out k hk).1
theorem yaa {b:Nat} {vb:Value} {L:List Pg.Mp} (q:Int) (hq:Pg.fits q) (w:Z) (h:qQ w b vb L):
 Calls T 77 #[X (C ⟨b,0,B⟩),J I q] w fun e w'=>e=K (E #[(Pg.yib L q).val,J I (Pg.yhI L q)])/\∃vb',qQ w' b vb' (Pg.yhU L q)/\But (bkF b vb) w w'/\∀k,bkF b vb' k->bkF b vb k\/w.heap.size<=k:=by
 have Hg:=h.good.len;have HX:Hid _:=h;cases gB:Pg.below q 4096
 ·have e1:Pg.yhI L q=1:=by simp[Pg.yhI,gB]
  have e2:Pg.yib L q= .zz:=by simp[Pg.yib,e1]
  have e3:Pg.yhU L q=L:=by simp[Pg.yhU,e1]
  rw[e1,e2,e3]
  have fin:Hid (∀o:Obj,∃vb',qQ (w.alloc o) b vb' L/\But (bkF b vb) w (w.alloc o)/\∀k,bkF b vb' k->bkF b vb k\/w.heap.size<=k):=fun o=>
   ⟨vb,h.grow (zA (zR _) _),But.yhp (zA (zR _) _),fun k hk=> .inl hk⟩
  clear h HX e1 e2 e3;rcases Pg.yjq.1 gB with h0|h0
  ·clear gB
   go_enter Tryz.func77,Tryz.ntmps77
   go_wp2_with fail
   refine bodyPost_ret (v:=E #[kh #[J I 0,J I 0,J I 0,J I 0],J I 1]) ?_ rfl ⟨rfl,?_⟩
   ·simp[results,Tryz.results77,go_sem]
   ·exact fin.out _
  ·have h1:¬q<0:=by omega
   clear gB
   go_enter Tryz.func77,Tryz.ntmps77
   go_wp2_with fail
   refine bodyPost_ret (v:=E #[kh #[J I 0,J I 0,J I 0,J I 0],J I 1]) ?_ rfl ⟨rfl,?_⟩
   ·simp[results,Tryz.results77,go_sem]
   ·exact fin.out _
 ·have h0:¬q<0:=by have:=Pg.zB.1 gB;omega
  have h1:¬4096<=q:=by have:=Pg.zB.1 gB;omega
  have HF:=fun o=>yc1 q hq (w.alloc o) (h.grow (zA (zR _) o))
  cases hf:Pg.fnd L q with
  | none=>
    have e1:Pg.yhI L q=5:=by simp[Pg.yhI,gB,hf]
    have e2:Pg.yib L q= .zz:=by simp[Pg.yib,e1]
    have e3:Pg.yhU L q=L:=by simp[Pg.yhU,e1]
    have e4:Pg.fndN L q= -1:=by simp[Pg.fndN,hf]
    rw[e1,e2,e3];rw[e4]at HF;clear h e1 e2 e3 e4 hf gB
    go_enter Tryz.func77,Tryz.ntmps77
    go_wp2_with fail
    refine(HF _).mono ?_;rintro e w1 ⟨rfl,Ha⟩;have hr:∀o,w1.cell? ⟨w.heap.size,o,B⟩=_:=fun o=>Ha.cell (p:=⟨w.heap.size,o,B⟩) (by simp);have hf:∀o,w1.frozen? ⟨w.heap.size,o,B⟩=_:=fun o=>Ha.frozen (p:=⟨w.heap.size,o,B⟩) (by simp);have hB:Hid (Below w.heap.size w w1):=zT (zA (zR _) _) Ha;clear Ha HF
    go_wp2_with fail
    refine bodyPost_ret (v:=E #[kh #[J I 0,J I 0,J I 0,J I 0],J I 5]) ?_ rfl ⟨rfl,?_⟩
    ·simp[results,Tryz.results77,go_sem,hr]
    ·have Dq:=zp hB.out w.heap.size (A _) (J I 0) (J I 0) (J I 0) (J I 0)
     exact⟨vb,HX.out.grow Dq,But.yhp Dq,fun k hk=> .inl hk⟩
  | some k=>
    have hk:=Pg.ykJ hf
    have e1:Pg.yhI L q=0:=by simp[Pg.yhI,gB,hf]
    have e2:Pg.yib L q=L.getD k .zz:=by simp only[Pg.yib,e1,Pg.at',hf,if_true]
    have e3:Pg.yhU L q=L.eraseIdx k:=by simp only[Pg.yhU,e1,hf,if_true]
    have e4:Pg.fndN L q=(k:Int):=by simp[Pg.fndN,hf]
    rw[e1,e2,e3];rw[e4]at HF;have dU:=hk.1;obtain⟨q0,sF,rW,rZ,rX⟩:=info_parts qp
    have j0:¬(k:Int)<0:=by omega
    have j1:(0:Int)<=(k:Int):=by omega
    have j2:(k:Int)<(L.length:Int):=by omega
    clear h e1 e2 e3 e4 hf gB hk;obtain⟨ad,cap,rfl⟩:=zF HX.out.row
    go_enter Tryz.func77,Tryz.ntmps77
    go_wp2_with fail
    refine(HF _).mono ?_;rintro e w1 ⟨rfl,Ha⟩;have hr:Hid (∀o,w1.cell? ⟨w.heap.size,o,B⟩=_):=fun o=>Ha.cell (p:=⟨w.heap.size,o,B⟩) (by simp);have hf:Hid (∀o,w1.frozen? ⟨w.heap.size,o,B⟩=_):=fun o=>Ha.frozen (p:=⟨w.heap.size,o,B⟩) (by simp);have hB:Hid (Below w.heap.size w w1):=zT (zA (zR _) _) Ha
    have pU:w.heap.size<w1.heap.size:=by have:=Ha.size;simp at this;omega
    clear Ha HF
    go_wp2_with fail
    go_loopw [7,8] (fun v i wr=>∃j:Nat,j<=L.length/\i=J I j/\∃ad cap,∃M:List Pg.Mp,v=S ad M.length cap/\Hid (M=(L.take j).eraseIdx k/\wr.ownsRow w1.heap.size 39 4 (S ad M.length cap) M.length (zC M)/\Below w1.heap.size w1 wr/\(M=[]->U ad M.length cap=S B 0 0))) (fun _ i _=>L.length-(intOf i).toNat)
    case atStart=>exact⟨0,by omega,rfl,B,0,[],rfl,⟨by simp,V _ _ _ _,zR _,fun _=>rfl⟩⟩
    case round=>
     obtain⟨j,hj,rfl,lH,cap2,M,rfl,HR⟩:=hrel;have HW:Hid _:=(HX.out.grow hB.out).grow HR.out.2.2.1;have rT:=HW.out.c0
     have i0:(0:Int)<=(j:Int):=by omega
     have hM:M.length<=4096:=by
      have h1:=HR.out.1;have h2:=List.length_eraseIdx_le (L.take j) k;rw[<-h1]at h2;have:=List.length_take_le j L;omega
     by_cases Hf:j<L.length
     ·have i1:(j:Int)<(L.length:Int):=by omega
      by_cases eZ:j=k
      ·have fin:Hid (M=(L.take (j+1)).eraseIdx k):=by
        show M=(L.take (j+1)).eraseIdx k
        rw[eZ,Pg.erase_take_at dU,<-eZ];have:=HR.out.1;rw[<-eZ]at this;exact this
       have n1:((j:Int) !=(k:Int))=R:=by simp[eZ]
       have n2:((j:Int)==(k:Int))=Q:=by simp[eZ]
       clear eZ
       go_wp2_with fail
       go_roundw
       case rel=>exact⟨j+1,by omega,by go_num,lH,cap2,M,rfl,⟨fin.out,HR.out.2⟩⟩
       case measure=>simp[intOf];omega
      ·have n1:((j:Int) !=(k:Int))=Q:=by simp;omega
       have n2:((j:Int)==(k:Int))=R:=by simp;omega
       obtain⟨g,rfl,hg,hm⟩:=xx HW.out.row j Hf;obtain⟨k0,k1,k2,k3⟩:=hm;have Gs:Hid _:=Pg.erase_take_ne Hf eZ;have Hr:=HR.out.2.1;have Ct:w1.heap.size<=wr.heap.size:=HR.out.2.2.1.size;clear eZ;generalize L.getD j .zz=x at*;obtain⟨p,s,f,r⟩:=x;simp only at k0 k1 k2 k3
       go_wp2_with (first
        | (at_builtin;refine wpList_append_lies _ rfl _ _ 44 rfl w1.heap.size 39 q0 _ 4 32 Tryz.underlying44 sF rW rZ rX rfl (by decide) _ _ _ rfl (Hr.alloc _) ⟨wr.heap.size,0,B⟩ 1 1 [J I p,J I s,J I f,J I r] rfl rfl ?c1 ?c2 (by decide) ?c3 ?c4 ?c5 (wr.heap.size+1) (by simp) ?_))
       case c1=>
        intro j u hj
        match j,hj with
        | 0,hj=>simp at hj;subst hj;simp[Addr.add,go_sem]
        | 1,hj=>simp at hj;subst hj;simp[Addr.add,go_sem]
        | 2,hj=>simp at hj;subst hj;simp[Addr.add,go_sem]
        | 3,hj=>simp at hj;subst hj;simp[Addr.add,go_sem]
       case c2=>intro u hu;simp at hu;rcases hu with rfl|rfl|rfl|rfl<;>rfl
       case c3=>unfold maxLen;omega
       case c4=>omega
       case c5=>simp;omega
       intro g3 rC w3 Hy Hq hat pK
       have fin:Hid (M++[Pg.Mp.mk p s f r]=(L.take (j+1)).eraseIdx k/\w3.ownsRow w1.heap.size 39 4 (S (C ⟨g3,0,B⟩) (M++[Pg.Mp.mk p s f r]).length rC) (M++[Pg.Mp.mk p s f r]).length (zC (M++[Pg.Mp.mk p s f r]))/\Below w1.heap.size w1 w3/\(M++[Pg.Mp.mk p s f r]=[]->U (C ⟨g3,0,B⟩) (M++[Pg.Mp.mk p s f r]).length rC=S B 0 0)):=
        ⟨by rw[Gs.out,<-HR.out.1],by rw[qX];simpa using Hy,j8 HR.out.2.2.1 HR.out.2.1 Hq,fun e=>by simp at e⟩
       clear Hy Hq hat pK Hr
       go_wp2_with fail
       go_roundw
       case rel=>exact⟨j+1,by omega,by go_num,_,rC,M++[Pg.Mp.mk p s f r],by simp,fin.out⟩
       case measure=>simp[intOf];omega
     ·have i1:¬(j:Int)<(L.length:Int):=by omega
      have mU:j=L.length:=by omega
      subst mU
      have kH:M=L.eraseIdx k:=by
       have:=HR.out.1;rw[un]at this;exact this
      obtain⟨g,rfl,hg,hm⟩:=xx HW.out.row k dU;obtain⟨k0,k1,k2,k3⟩:=hm;have nT:=fun o=>(HR.out.2.2.1.cell (p:=⟨w.heap.size,o,B⟩) pU).trans (hr.out o);have Fu:=fun o=>(HR.out.2.2.1.frozen (p:=⟨w.heap.size,o,B⟩) pU).trans (hf.out o);have TT:=HW.out.fb
      have Ho:b≠w.heap.size:=fun e=>by have:=HX.out.lb;omega
      have Ct:w1.heap.size<=wr.heap.size:=HR.out.2.2.1.size
      have n3:b<wr.heap.size:=by have:=HX.out.lb;omega
      have n4:w.heap.size<wr.heap.size:=by omega
      have fin:Hid (∀(o:Obj) (x0 x1 x2 x3:Value),∃vb',qQ ((((((wr.setCell ⟨b,0,B⟩ (S lH M.length cap2)).setCell ⟨w.heap.size,0,B⟩ x0).setCell ⟨w.heap.size,1,B⟩ x1).setCell ⟨w.heap.size,2,B⟩ x2).setCell ⟨w.heap.size,3,B⟩ x3).alloc o) b vb' (L.eraseIdx k)/\But (bkF b (S (C ⟨g,0,B⟩) L.length cap)) w ((((((wr.setCell ⟨b,0,B⟩ (S lH M.length cap2)).setCell ⟨w.heap.size,0,B⟩ x0).setCell ⟨w.heap.size,1,B⟩ x1).setCell ⟨w.heap.size,2,B⟩ x2).setCell ⟨w.heap.size,3,B⟩ x3).alloc o)/\∀k,bkF b vb' k->bkF b (S (C ⟨g,0,B⟩) L.length cap) k\/w.heap.size<=k):=by
       intro o x0 x1 x2 x3;have rR:Below w.heap.size w wr:=zT hB.out HR.out.2.2.1
       have Kg:wr.ownsRow w.heap.size 39 4 (S lH M.length cap2) (L.eraseIdx k).length (zC (L.eraseIdx k)):=by
        rw[<-kH];exact qE HR.out.2.1 (ks pU)
       obtain⟨h1,h2,h3⟩:=HX.out.put rR Kg (HX.out.good.erase k) (fun e=>by rw[<-kH]at e;exact HR.out.2.2.2 e);refine⟨_,(h1.keep (F:=fun k=>k=w.heap.size) (qm (F:=fun k=>k=w.heap.size) (But.refl _ _) w.heap.size (.inr rfl) x0 x1 x2 x3) ?_).grow (zA (zR _) _),(qm h2 _ (.inl (A _)) x0 x1 x2 x3).alloc _,h3⟩;intro t ht e;subst e;rcases ht with e|ht
       ·exact Ho e.symm
       ·have:=(HR.out.2.1.lt _ ht).1
        omega
      clear kH hj;obtain⟨x,hx⟩:∃x,x=L.getD k .zz:=⟨_,rfl⟩;rw[<-hx]at k0 k1 k2 k3;rw[Pg.yh7 dU]at hx;have hx:Hid _:=hx;obtain⟨p,s,f,r⟩:=x;simp only at k0 k1 k2 k3
      go_wp2_with fail
      refine bodyPost_ret (v:=E #[kh #[J I p,J I s,J I f,J I r],J I 0]) ?_ rfl ⟨by rw[<-hx.out];rfl,?_⟩
      ·simp[results,Tryz.results77,go_sem,nT,n4]
      ·exact fin.out _ _ _ _ _
structure ydu (w1 wr:Z) (ad:Option Addr) (cap:Nat) (M:List Pg.Mp):Prop where
 row:wr.ownsRow w1.heap.size 39 4 (S ad M.length cap) M.length (zC M)
 bel:Below w1.heap.size w1 wr
 nil:M=[]->U ad M.length cap=S B 0 0
theorem ydu.push {w1 wr w3:Z} {ad:Option Addr} {cap g3 rC:Nat} {M:List Pg.Mp} {m:Pg.Mp} {o:Obj} (h:ydu w1 wr ad cap M)
 (h3:w3.ownsRow w1.heap.size 39 4 (S (C ⟨g3,0,B⟩) (M.length+1) rC) (M.length+1) (zC M++[J I m.p,J I m.s,J I m.f,J I m.r]))
 (hg:(wr.alloc o).grownBy w3 (U ad M.length cap).ownBlock):ydu w1 w3 (C ⟨g3,0,B⟩) rC (M++[m]):=
 ⟨by rw[qX];simpa using h3,j8 h.bel h.row hg,fun e=>by simp at e⟩
theorem ydu.grow {w1 wr w':Z} {ad:Option Addr} {cap:Nat} {M:List Pg.Mp} (h:ydu w1 wr ad cap M) (hb:Below wr.heap.size wr w'):ydu w1 w' ad cap M:=
 ⟨zl h.row hb,zT h.bel hb,h.nil⟩
theorem zn (w:Z) (n:Nat) (cs:Array Value) (t:TypeId) (i:Nat):((w.drewN n).alloc (kp cs t)).cell? ⟨w.heap.size,i,B⟩=cs[i]?:=by
 have h:=heap_alloc_new (w.drewN n) (kp cs t)
 have e:(w.drewN n).heap.size=w.heap.size:=by simp
 rw[e]at h;exact cell_of_row _ _ i _ _ _ h
theorem zV (w:Z) (cs:Array Value) (t:TypeId) (i:Nat):(w.alloc (kp cs t)).cell? ⟨w.heap.size,i,B⟩=cs[i]?:=zn w 0 cs t i
theorem ya4 {b:Nat} {vb:Value} {L:List Pg.Mp} (m:Pg.Mp) (hm:Pg.fits m.p) (w:Z) (h:qQ w b vb L):
 Calls T 76 #[X (C ⟨b,0,B⟩),m.val] w fun e w'=>e=K (J I (Pg.addC L m))/\∃vb',qQ w' b vb' (Pg.addL L m)/\But (bkF b vb) w w'/\∀k,bkF b vb' k->bkF b vb k\/w.heap.size<=k:=by
 have Hg:=h.good.len;have HX:Hid _:=h;have HM:=qW m.p m.s m.f m.r;have stay:Hid (∀w',Below w.heap.size w w'->∃vb',qQ w' b vb' L/\But (bkF b vb) w w'/\∀k,bkF b vb' k->bkF b vb k\/w.heap.size<=k):=fun w' hb=>⟨vb,h.grow hb,But.yhp hb,fun k hk=> .inl hk⟩
 by_cases hc:m.code=0
 ·rw[show Pg.check m.p m.s m.f m.r=0 from hc]at HM
  obtain⟨q0,sF,rW,rZ,rX⟩:=info_parts qp;obtain⟨ad,cap,rfl⟩:=zF HX.out.row
  have fV:Hid (∀hn:(∀x,x ∈ L->x.meets m=R),Pg.addC L m=0/\Pg.addL L m=Pg.ins m L):=by
   intro hn
   have e:Pg.addC L m=0:=by
    have:(L.any fun x=>x.meets m)=R:=by
     rw[List.any_eq_false];intro x hx;simp[hn x hx]
    simp[Pg.addC,hc,this]
   exact⟨e,by simp[Pg.addL,e]⟩
  have sD:Hid (∀j,j<L.length->(L.getD j .zz).meets m=Q->Pg.addC L m=4/\Pg.addL L m=L):=by
   intro j hj hx;have:(L.any fun x=>x.meets m)=Q:=List.any_eq_true.2 ⟨L.getD j .zz,by rw[Pg.yh7 hj];exact D _,hx⟩
   have e:Pg.addC L m=4:=by simp[Pg.addC,hc,this]
   exact⟨e,by simp[Pg.addL,e]⟩
  have hc:Hid _:=hc;clear h;obtain⟨mp,ms,mf,mr⟩:=m;simp only at HM hm;unfold Pg.Mp.val;simp only
  go_enter Tryz.func76,Tryz.ntmps76
  go_wp2_with fail
  refine(HM _).mono ?_;rintro e w1 ⟨rfl,Ha⟩;have hr:Hid (∀o,w1.cell? ⟨w.heap.size,o,B⟩=_):=fun o=>Ha.cell (p:=⟨w.heap.size,o,B⟩) (by simp);have hB:Hid (Below w.heap.size w w1):=zT (zA (zR _) _) Ha
  have pU:w.heap.size<w1.heap.size:=by have:=Ha.size;simp at this;omega
  clear Ha HM
  go_wp2_with fail
  go_loopw [6,7,8] (fun v t i wr=>∃j:Nat,j<=L.length/\i=J I j/\∃ad cap,∃M:List Pg.Mp,∃pt:Bool,v=S ad M.length cap/\t=H pt/\Hid ((∀t,t<j->(L.getD t .zz).meets ⟨mp,ms,mf,mr⟩=R)/\pt=((L.take j).any fun y=>decide (mp<y.p))/\M=Pg.hlf L ⟨mp,ms,mf,mr⟩ j/\ydu w1 wr ad cap M)) (fun _ _ i _=>L.length-(intOf i).toNat)
  case atStart=>exact⟨0,by omega,rfl,B,0,[],R,rfl,rfl,⟨fun t ht=>by omega,by simp,by simp[Pg.hlf],V _ _ _ _,zR _,fun _=>rfl⟩⟩
  case round=>
   obtain⟨j,hj,rfl,lH,cap2,M,pt,rfl,rfl,HR⟩:=hrel;have HW:Hid _:=(HX.out.grow hB.out).grow HR.out.2.2.2.bel;have rT:=HW.out.c0
   have i0:(0:Int)<=(j:Int):=by omega
   have hM:M.length<=4097:=by
    have h1:=HR.out.2.2.1;have h2:=Pg.hlf_len (L:=L) (m:=⟨mp,ms,mf,mr⟩) (j:=j);rw[<-h1]at h2;omega
   have nT:=fun o=>(HR.out.2.2.2.bel.cell (p:=⟨w.heap.size,o,B⟩) pU).trans (hr.out o)
   by_cases Hf:j<L.length
   ·obtain⟨g,rfl,hg,iB⟩:=xx HW.out.row j Hf
    obtain⟨k0,k1,k2,k3⟩:=iB
    have i1:(j:Int)<(L.length:Int):=by omega
    have dF:=HX.out.good.ok (L.getD j .zz) (by rw[Pg.yh7 Hf];exact D _);have HC:=ydj (L.getD j .zz).p (L.getD j .zz).s (L.getD j .zz).f (L.getD j .zz).r mp ms mf mr (Pg.yi1 dF).2.2.1 hm;have m0:wr.cell? ⟨w.heap.size,0,B⟩=C (J I mp):=(nT 0).trans (zV _ _ _ _);have m1:wr.cell? ⟨w.heap.size,1,B⟩=C (J I ms):=(nT 1).trans (zV _ _ _ _);have m2:wr.cell? ⟨w.heap.size,2,B⟩=C (J I mf):=(nT 2).trans (zV _ _ _ _);have m3:wr.cell? ⟨w.heap.size,3,B⟩=C (J I mr):=(nT 3).trans (zV _ _ _ _)
    have Cs:w.heap.size<wr.heap.size:=by have:=HR.out.2.2.2.bel.size;omega
    have mQ:b<wr.heap.size:=HW.out.lb;have Ct:w1.heap.size<=wr.heap.size:=HR.out.2.2.2.bel.size;have sj:Hid _:=Pg.any_take_succ Hf fun y=>decide (mp<y.p);have HP:Hid (((L.take j).any fun y=>decide (mp<y.p))=Q->Pg.hlf L ⟨mp,ms,mf,mr⟩ (j+1)=Pg.hlf L ⟨mp,ms,mf,mr⟩ j++[L.getD j .zz]):=fun h=>Pg.hlf_put (m:=⟨mp,ms,mf,mr⟩) Hf h;have HN:Hid (((L.take j).any fun y=>decide (mp<y.p))=R->mp<(L.getD j .zz).p->Pg.hlf L ⟨mp,ms,mf,mr⟩ (j+1)=Pg.hlf L ⟨mp,ms,mf,mr⟩ j++[⟨mp,ms,mf,mr⟩]++[L.getD j .zz]):=fun h h'=>Pg.hlf_now (m:=⟨mp,ms,mf,mr⟩) Hf h h';have HO:Hid (((L.take j).any fun y=>decide (mp<y.p))=R->¬mp<(L.getD j .zz).p->Pg.hlf L ⟨mp,ms,mf,mr⟩ (j+1)=Pg.hlf L ⟨mp,ms,mf,mr⟩ j++[L.getD j .zz]):=fun h h'=>Pg.hlf_not (m:=⟨mp,ms,mf,mr⟩) Hf h h';have Sy:Hid ((L.getD j .zz).meets ⟨mp,ms,mf,mr⟩=Q->Pg.addC L ⟨mp,ms,mf,mr⟩=4/\Pg.addL L ⟨mp,ms,mf,mr⟩=L):=fun h=>sD.out j Hf h
    have SS:Hid ((L.getD j .zz).meets ⟨mp,ms,mf,mr⟩=R->∀t,t<j+1->(L.getD t .zz).meets ⟨mp,ms,mf,mr⟩=R):=fun h t ht=>by
     by_cases e:t=j
     ·rw[e];exact h
     ·exact HR.out.1 t (by omega)
    have aI:Hid (Pg.meet (L.getD j .zz).p (L.getD j .zz).s mp ms=(L.getD j .zz).meets ⟨mp,ms,mf,mr⟩):=rfl;clear dF nT;generalize GG:L.getD j .zz=x at*;have KC:Hid _:=GG;clear GG;obtain⟨p,s,f,r⟩:=x;simp only at k0 k1 k2 k3;have r0:=cell_regrown k0;have r1:=cell_regrown k1;have r2:=cell_regrown k2;have r3:=cell_regrown k3;have r4:=cell_regrown rT;have r5:=cell_regrown m0;have r6:=cell_regrown m1;have r7:=cell_regrown m2;have r8:=cell_regrown m3;cases hx:(Pg.Mp.mk p s f r).meets ⟨mp,ms,mf,mr⟩
    ·rw[aI.out,hx]at HC
     have SS:Hid _:=SS.out hx;clear Sy hx aI
     go_wp2_with fail
     refine wp_region_quiet_below (by kernel_rfl) (by kernel_rfl) ?_
     repeat (first
      | go_big_quiet_step ((go_at_call 128;exact Calls.regrown_of (HC _))))
     refine wpQuiet_nil ?_;intro _ pG;obtain⟨⟨dq,osq⟩,rfl⟩:=pG;have Hd:=below_regrown wr dq osq;have s0:=r0 dq osq;have s1:=r1 dq osq;have s2:=r2 dq osq;have s3:=r3 dq osq;have s4:=r4 dq osq;have s5:=r5 dq osq;have s6:=r6 dq osq;have s7:=r7 dq osq;have s8:=r8 dq osq;have fO:Hid _:=HR.out.2.2.2.grow Hd;have KG:=Hd.size;generalize grow (redrawn wr dq) osq=w2 at*;clear r0 r1 r2 r3 r4 r5 r6 r7 r8 k0 k1 k2 k3 m0 m1 m2 m3 rT HC Hd;have Hr:=fun nq=>zl fO.out.row (below_drewN (zR w2) nq);have Mf:Hid (∀nq,ydu w1 (w2.drewN nq) lH cap2 M):=fun nq=>fO.out.grow (below_drewN (zR w2) nq);cases hpt:pt
     ·have uM:((L.take j).any fun y=>decide (mp<y.p))=R:=by rw[<-HR.out.2.1];exact hpt
      by_cases hxp:mp<p
      ·have aZ:Hid (Pg.hlf L ⟨mp,ms,mf,mr⟩ (j+1)=M++[⟨mp,ms,mf,mr⟩]++[Pg.Mp.mk p s f r]):=by
        show Pg.hlf L ⟨mp,ms,mf,mr⟩ (j+1)=M++[⟨mp,ms,mf,mr⟩]++[Pg.Mp.mk p s f r]
        rw[HN.out uM hxp,<-HR.out.2.2.1]
       have Rp:Hid (Q=((L.take (j+1)).any fun y=>decide (mp<y.p))):=by
        show Q=_
        rw[sj.out,uM];simp[hxp]
       clear uM;subst hpt
       go_wp2_with fail
       go_quiet (fail)
       go_wp2_with (first
        | (at_builtin;refine wpList_append_lies _ rfl _ _ 44 rfl w1.heap.size 39 q0 _ 4 32 Tryz.underlying44 sF rW rZ rX rfl (by decide) _ _ _ rfl ((Hr _).alloc _) ⟨w2.heap.size,0,B⟩ 1 1 [J I mp,J I ms,J I mf,J I mr] rfl rfl ?c1 ?c2 (by decide) ?c3 ?c4 ?c5 (w2.heap.size+1) (by simp) ?_))
       case c1=>
        intro j u hj
        match j,hj with
        | 0,hj=>simp at hj;subst hj;exact zn w2 _ _ _ 0
        | 1,hj=>simp at hj;subst hj;exact zn w2 _ _ _ 1
        | 2,hj=>simp at hj;subst hj;exact zn w2 _ _ _ 2
        | 3,hj=>simp at hj;subst hj;exact zn w2 _ _ _ 3
       case c2=>intro u hu;simp at hu;rcases hu with rfl|rfl|rfl|rfl<;>rfl
       case c3=>unfold maxLen;first|omega|(simp;omega)
       case c4=>first|omega|(simp;omega)
       case c5=>first|omega|(simp;omega)
       intro g3 rC w3 Hy Hq hat pK;have Rh:Hid (ydu w1 w3 (C ⟨g3,0,B⟩) rC (M++[Pg.Mp.mk mp ms mf mr])):=(Mf.out _).push (m:=Pg.Mp.mk mp ms mf mr) Hy Hq;have Dc:Hid _:=(HX.out.grow hB.out).grow Rh.out.bel;have t0:=Dc.out.c0;obtain⟨g',e',_,tt⟩:=xx Dc.out.row j Hf;cases e';rw[KC.out]at tt;obtain⟨t1,t2,t3,t4⟩:=tt;simp only at t1 t2 t3 t4
       have fu:w3.ownsRow w1.heap.size 39 4 (S (C ⟨g3,0,B⟩) (M.length+1) rC) (M.length+1) (zC (M++[Pg.Mp.mk mp ms mf mr])):=by simpa using Rh.out.row
       have hws3:w1.heap.size<=w3.heap.size:=Rh.out.bel.size;clear Hy Hq hat pK Hr
       go_wp2_with (first
        | (at_builtin;refine wpList_append_lies _ rfl _ _ 44 rfl w1.heap.size 39 q0 _ 4 32 Tryz.underlying44 sF rW rZ rX rfl (by decide) _ _ _ rfl ((fu).alloc _) ⟨w3.heap.size,0,B⟩ 1 1 [J I p,J I s,J I f,J I r] rfl rfl ?d1 ?d2 (by decide) ?d3 ?d4 ?d5 (w3.heap.size+1) (by simp) ?_))
       case d1=>
        intro j u hj
        match j,hj with
        | 0,hj=>simp at hj;subst hj;exact zV w3 _ _ 0
        | 1,hj=>simp at hj;subst hj;exact zV w3 _ _ 1
        | 2,hj=>simp at hj;subst hj;exact zV w3 _ _ 2
        | 3,hj=>simp at hj;subst hj;exact zV w3 _ _ 3
       case d2=>intro u hu;simp at hu;rcases hu with rfl|rfl|rfl|rfl<;>rfl
       case d3=>unfold maxLen;first|omega|(simp;omega)
       case d4=>first|omega|(simp;omega)
       case d5=>first|omega|(simp;omega)
       intro g4 cap4 w4 nQ gZ wy wJ;have fin:Hid (ydu w1 w4 (C ⟨g4,0,B⟩) cap4 (M++[Pg.Mp.mk mp ms mf mr]++[Pg.Mp.mk p s f r])):=Rh.out.push (m:=Pg.Mp.mk p s f r) (by simpa using nQ) gZ;have aZ:Hid (M++[Pg.Mp.mk mp ms mf mr]++[Pg.Mp.mk p s f r]=Pg.hlf L ⟨mp,ms,mf,mr⟩ (j+1)):=aZ.out.symm;clear nQ gZ wy wJ fu
       go_wp2_with fail
       go_roundw
       case rel=>exact⟨j+1,by omega,by go_num,_,cap4,M++[Pg.Mp.mk mp ms mf mr]++[Pg.Mp.mk p s f r],Q,by simp,rfl,⟨SS.out,Rp.out,aZ.out,fin.out⟩⟩
       case measure=>simp[intOf];omega
      ·have aZ:Hid (M++[Pg.Mp.mk p s f r]=Pg.hlf L ⟨mp,ms,mf,mr⟩ (j+1)):=by
        show M++[Pg.Mp.mk p s f r]=Pg.hlf L ⟨mp,ms,mf,mr⟩ (j+1)
        rw[HO.out uM (by omega),<-HR.out.2.2.1]
       have Rp:Hid (R=((L.take (j+1)).any fun y=>decide (mp<y.p))):=by
        show R=_
        rw[sj.out,uM];simp[hxp]
       have KA:decide (mp<p)=R:=by simpa using hxp
       clear uM;subst hpt
       go_wp2_with fail
       go_quiet (fail)
       go_wp2_with (first
        | (at_builtin;refine wpList_append_lies _ rfl _ _ 44 rfl w1.heap.size 39 q0 _ 4 32 Tryz.underlying44 sF rW rZ rX rfl (by decide) _ _ _ rfl ((Hr _).alloc _) ⟨w2.heap.size,0,B⟩ 1 1 [J I p,J I s,J I f,J I r] rfl rfl ?c1 ?c2 (by decide) ?c3 ?c4 ?c5 (w2.heap.size+1) (by simp) ?_))
       case c1=>
        intro j u hj
        match j,hj with
        | 0,hj=>simp at hj;subst hj;exact zn w2 _ _ _ 0
        | 1,hj=>simp at hj;subst hj;exact zn w2 _ _ _ 1
        | 2,hj=>simp at hj;subst hj;exact zn w2 _ _ _ 2
        | 3,hj=>simp at hj;subst hj;exact zn w2 _ _ _ 3
       case c2=>intro u hu;simp at hu;rcases hu with rfl|rfl|rfl|rfl<;>rfl
       case c3=>unfold maxLen;first|omega|(simp;omega)
       case c4=>first|omega|(simp;omega)
       case c5=>first|omega|(simp;omega)
       intro g3 rC w3 Hy Hq hat pK;have fin:Hid (ydu w1 w3 (C ⟨g3,0,B⟩) rC (M++[Pg.Mp.mk p s f r])):=(Mf.out _).push (m:=Pg.Mp.mk p s f r) Hy Hq;clear Hy Hq hat pK Hr
       go_wp2_with fail
       go_roundw
       case rel=>exact⟨j+1,by omega,by go_num,_,rC,M++[Pg.Mp.mk p s f r],R,by simp,rfl,⟨SS.out,Rp.out,aZ.out,fin.out⟩⟩
       case measure=>simp[intOf];omega
     ·have ow:((L.take j).any fun y=>decide (mp<y.p))=Q:=by rw[<-HR.out.2.1];exact hpt
      have aZ:Hid (M++[Pg.Mp.mk p s f r]=Pg.hlf L ⟨mp,ms,mf,mr⟩ (j+1)):=by
       show M++[Pg.Mp.mk p s f r]=Pg.hlf L ⟨mp,ms,mf,mr⟩ (j+1)
       rw[HP.out ow,<-HR.out.2.2.1]
      have Rp:Hid (Q=((L.take (j+1)).any fun y=>decide (mp<y.p))):=by
       show Q=_
       rw[sj.out,ow];rfl
      clear ow;subst hpt
      go_wp2_with fail
      go_quiet (fail)
      go_wp2_with (first
       | (at_builtin;refine wpList_append_lies _ rfl _ _ 44 rfl w1.heap.size 39 q0 _ 4 32 Tryz.underlying44 sF rW rZ rX rfl (by decide) _ _ _ rfl ((Hr _).alloc _) ⟨w2.heap.size,0,B⟩ 1 1 [J I p,J I s,J I f,J I r] rfl rfl ?c1 ?c2 (by decide) ?c3 ?c4 ?c5 (w2.heap.size+1) (by simp) ?_))
      case c1=>
       intro j u hj
       match j,hj with
       | 0,hj=>simp at hj;subst hj;exact zn w2 _ _ _ 0
       | 1,hj=>simp at hj;subst hj;exact zn w2 _ _ _ 1
       | 2,hj=>simp at hj;subst hj;exact zn w2 _ _ _ 2
       | 3,hj=>simp at hj;subst hj;exact zn w2 _ _ _ 3
      case c2=>intro u hu;simp at hu;rcases hu with rfl|rfl|rfl|rfl<;>rfl
      case c3=>unfold maxLen;first|omega|(simp;omega)
      case c4=>first|omega|(simp;omega)
      case c5=>first|omega|(simp;omega)
      intro g3 rC w3 Hy Hq hat pK;have fin:Hid (ydu w1 w3 (C ⟨g3,0,B⟩) rC (M++[Pg.Mp.mk p s f r])):=(Mf.out _).push (m:=Pg.Mp.mk p s f r) Hy Hq;clear Hy Hq hat pK Hr
      go_wp2_with fail
      go_roundw
      case rel=>exact⟨j+1,by omega,by go_num,_,rC,M++[Pg.Mp.mk p s f r],Q,by simp,rfl,⟨SS.out,Rp.out,aZ.out,fin.out⟩⟩
      case measure=>simp[intOf];omega
    ·rw[aI.out,hx]at HC
     have Sy:Hid _:=Sy.out hx;clear hx aI
     go_wp2_with fail
     refine wp_region_quiet_below (by kernel_rfl) (by kernel_rfl) ?_
     repeat (first
      | go_big_quiet_step ((go_at_call 128;exact Calls.regrown_of (HC _))))
     refine wpQuiet_nil ?_;intro _ pG;obtain⟨⟨dq,osq⟩,rfl⟩:=pG;have fin:Hid _:=stay.out _ (zT (zT hB.out HR.out.2.2.2.bel) (below_regrown wr dq osq))
     go_wp2_with fail
     go_ret
     rw[Sy.out.1,Sy.out.2];exact⟨rfl,fin.out⟩
   ·have i1:¬(j:Int)<(L.length:Int):=by omega
    have mU:j=L.length:=by omega
    subst mU
    have hn:∀x,x ∈ L->x.meets ⟨mp,ms,mf,mr⟩=R:=by
     intro x hx;obtain⟨t,ht,rfl⟩:=List.mem_iff_getElem.1 hx;have:=HR.out.1 t ht;rw[Pg.yh7 ht]at this;exact this
    have CU:=fV.out hn
    have BS:Pg.Good (Pg.ins ⟨mp,ms,mf,mr⟩ L):=by
     have:=HX.out.good.add ⟨mp,ms,mf,mr⟩;rw[CU.2]at this;exact this
    have ru:=Pg.hlf_all (L:=L) (m:=⟨mp,ms,mf,mr⟩);have Gb:=HR.out.2.1;rw[un]at Gb;have HG:Hid _:=CU;clear CU;have rR:Below w.heap.size w wr:=zT hB.out HR.out.2.2.2.bel
    have n3:b<wr.heap.size:=by have:=HX.out.lb;have:=rR.size;omega
    have TT:=HW.out.fb;cases hpt:pt
    ·have kH:M++[Pg.Mp.mk mp ms mf mr]=Pg.ins ⟨mp,ms,mf,mr⟩ L:=by
      rw[ru,<-Gb,hpt,HR.out.2.2.1];rfl
     have Hr:=HR.out.2.2.2.row;have Ct:w1.heap.size<=wr.heap.size:=HR.out.2.2.2.bel.size
     have n4:w.heap.size<wr.heap.size:=by omega
     have m0:wr.cell? ⟨w.heap.size,0,B⟩=C (J I mp):=(nT 0).trans (zV _ _ _ _);have m1:wr.cell? ⟨w.heap.size,1,B⟩=C (J I ms):=(nT 1).trans (zV _ _ _ _);have m2:wr.cell? ⟨w.heap.size,2,B⟩=C (J I mf):=(nT 2).trans (zV _ _ _ _);have m3:wr.cell? ⟨w.heap.size,3,B⟩=C (J I mr):=(nT 3).trans (zV _ _ _ _);subst hpt;clear nT ru Gb hn
     go_wp2_with (first
      | (at_builtin;refine wpList_append_lies _ rfl _ _ 44 rfl w1.heap.size 39 q0 _ 4 32 Tryz.underlying44 sF rW rZ rX rfl (by decide) _ _ _ rfl ((Hr).alloc _) ⟨wr.heap.size,0,B⟩ 1 1 [J I mp,J I ms,J I mf,J I mr] rfl rfl ?c1 ?c2 (by decide) ?c3 ?c4 ?c5 (wr.heap.size+1) (by simp) ?_))
     case c2=>exact⟨rfl,rfl,rfl,rfl⟩
     case c3=>unfold maxLen;first|omega|(simp;omega)
     case c4=>first|omega|(simp;omega)
     case c5=>first|omega|(simp;omega)
     intro g3 rC w3 Hy Hq hat pK;have Rh:Hid (ydu w1 w3 (C ⟨g3,0,B⟩) rC (M++[Pg.Mp.mk mp ms mf mr])):=HR.out.2.2.2.push (m:=Pg.Mp.mk mp ms mf mr) Hy Hq;have Dc:Hid _:=(HX.out.grow hB.out).grow Rh.out.bel;have t0:=Dc.out.c0;have t1:=Dc.out.fb;have fin:Hid _:=HX.out.put (vb':=S (C ⟨g3,0,B⟩) (M.length+1) rC) (L':=Pg.ins ⟨mp,ms,mf,mr⟩ L) (zT hB.out Rh.out.bel) (by rw[<-kH];have:=qE Rh.out.row (ks pU);simpa using this) BS (fun e=>by rw[<-kH]at e;simp at e);clear Hy Hq hat pK Hr BS kH rR
     go_wp2_with fail
     go_ret
     rw[HG.out.1,HG.out.2];exact⟨rfl,_,fin.out⟩
    ·have kH:M=Pg.ins ⟨mp,ms,mf,mr⟩ L:=by
      rw[ru,<-Gb,hpt,HR.out.2.2.1];rfl
     have fin:Hid _:=HX.out.put (vb':=S lH M.length cap2) (L':=Pg.ins ⟨mp,ms,mf,mr⟩ L) rR (by rw[<-kH];exact qE HR.out.2.2.2.row (ks pU)) BS (fun e=>by rw[<-kH]at e;exact HR.out.2.2.2.nil e);clear BS ru Gb kH rR hn;subst hpt
     go_wp2_with fail
     go_ret
     rw[HG.out.1,HG.out.2];exact⟨rfl,_,fin.out⟩
 ·have e1:Pg.addC L m=m.code:=by simp[Pg.addC,hc]
  have e2:Pg.addL L m=L:=by simp[Pg.addL,e1,hc]
  rw[e1,e2]
  have hn:(Pg.check m.p m.s m.f m.r !=0)=Q:=by
   have h0:¬Pg.check m.p m.s m.f m.r=0:=hc
   simpa using h0
  have pX:Hid (Pg.check m.p m.s m.f m.r=m.code):=rfl;clear h hc e1 e2;obtain⟨p,s,f,r⟩:=m;unfold Pg.Mp.val;simp only at HM hn pX ⊢;generalize Pg.check p s f r=c at*
  go_enter Tryz.func76,Tryz.ntmps76
  go_wp2_with fail
  refine(HM _).mono ?_;rintro e w1 ⟨rfl,Ha⟩;have hB:Hid (Below w.heap.size w w1):=zT (zA (zR _) _) Ha;clear Ha HM
  go_wp2_with fail
  go_ret
  exact⟨zE pX.out,stay.out _ hB.out⟩
theorem yfY {w w1:Z} {b:Nat} {vb vb1:Value} {L1:List Pg.Mp} (Hf:∀k,bkF b vb k->k<w.heap.size) (hb:But (bkF b vb) w w1) (h1:qQ w1 b vb1 L1) (hF:∀k,bkF b vb1 k->bkF b vb k\/w.heap.size<k) (x0 x1 x2 x3:Value):
 qQ ((((w1.setCell ⟨w.heap.size,0,B⟩ x0).setCell ⟨w.heap.size,1,B⟩ x1).setCell ⟨w.heap.size,2,B⟩ x2).setCell ⟨w.heap.size,3,B⟩ x3) b vb1 L1/\But (bkF b vb) w ((((w1.setCell ⟨w.heap.size,0,B⟩ x0).setCell ⟨w.heap.size,1,B⟩ x1).setCell ⟨w.heap.size,2,B⟩ x2).setCell ⟨w.heap.size,3,B⟩ x3):=by
 refine⟨h1.keep (F:=fun k=>k=w.heap.size) (qm (F:=fun k=>k=w.heap.size) (But.refl _ _) w.heap.size (.inr rfl) x0 x1 x2 x3) fun k hk e=> ?_,qm hb _ (.inl (A _)) x0 x1 x2 x3⟩;subst e;rcases hF _ hk with h|h
 ·have:=Hf _ h
  omega
 ·omega
theorem yaA {b:Nat} {vb:Value} {L:List Pg.Mp} (q r:Int) (hq:Pg.fits q) (w:Z) (h:qQ w b vb L):
 Calls T 78 #[X (C ⟨b,0,B⟩),J I q,J I r] w fun e w'=>e=K (E #[(Pg.yiV L q r).val,J I (Pg.yie L q r)])/\∃vb',qQ w' b vb' (Pg.yir L q r)/\But (bkF b vb) w w'/\∀k,bkF b vb' k->bkF b vb k\/w.heap.size<=k:=by
 have HX:Hid _:=h
 by_cases sU:Pg.below q 4096=Q/\Pg.below r 8=Q
 ·obtain⟨gB,mQ⟩:=sU
  have q0:¬q<0:=by have:=Pg.zB.1 gB;omega
  have q1:¬4096<=q:=by have:=Pg.zB.1 gB;omega
  have r0:¬r<0:=by have:=Pg.zB.1 mQ;omega
  have r1:¬7<r:=by have:=Pg.zB.1 mQ;omega
  have HD:=fun o=>yaa q hq (w.alloc o) (h.grow (zA (zR _) o))
  cases hf:Pg.fnd L q with
  | none=>
    have e1:Pg.yhI L q=5:=by simp[Pg.yhI,gB,hf]
    have e2:Pg.yib L q= .zz:=by simp[Pg.yib,e1]
    have e3:Pg.yhU L q=L:=by simp[Pg.yhU,e1]
    have e4:Pg.yie L q r=5:=by simp[Pg.yie,mQ,e1]
    have e5:Pg.yiV L q r= .zz:=by simp[Pg.yiV,e4]
    have e6:Pg.yir L q r=L:=by simp[Pg.yir,e4]
    rw[e4,e5,e6];rw[e1,e2,e3]at HD;clear h e1 e2 e3 e4 e5 e6 hf gB mQ
    go_enter Tryz.func78,Tryz.ntmps78
    go_wp2_with fail
    refine(HD _).mono ?_;rintro e w1 ⟨rfl,vb1,h1,Ha,tO⟩
    have gm:¬bkF b vb w.heap.size:=fun hk=>by have:=HX.out.lt hk;omega
    have hr:∀o,w1.cell? ⟨w.heap.size,o,B⟩=_:=fun o=>Ha.cell (a:=⟨w.heap.size,o,B⟩) (by simp) gm;have hf:∀o,w1.frozen? ⟨w.heap.size,o,B⟩=_:=fun o=>Ha.frozen (a:=⟨w.heap.size,o,B⟩) (by simp) gm
    have pU:w.heap.size<w1.heap.size:=by have:=Ha.size;simp at this;omega
    have pJ:Hid _:=Ha;have H1:Hid _:=h1;have tO:Hid _:=tO;clear Ha h1 HD;unfold Pg.Mp.val;simp only
    go_wp2_with fail
    refine bodyPost_ret (v:=E #[kh #[J I 0,J I 0,J I 0,J I 0],J I 5]) ?_ rfl ⟨rfl,?_⟩
    ·simp[results,Tryz.results78,go_sem,hr,pU]
    ·obtain⟨c1,c2⟩:=yfY (w:=w) (fun k hk=>HX.out.lt hk) (((But.refl _ w).alloc _).trans pJ.out (fun i hi hg=>hg)) H1.out (fun k hk=>(tO.out k hk).imp id (fun h=>by simp at h;omega)) (J I 0) (J I 0) (J I 0) (J I 0)
     exact⟨vb1,c1.grow (zA (zR _) _),c2.alloc _,fun k hk=>(tO.out k hk).imp id (fun h=>by simp at h;omega)⟩
  | some k=>
    have hk:=Pg.ykJ hf
    have e1:Pg.yhI L q=0:=by simp[Pg.yhI,gB,hf]
    have e2:Pg.yib L q=L.getD k .zz:=by simp only[Pg.yib,e1,Pg.at',hf,if_true]
    have e3:Pg.yhU L q=L.eraseIdx k:=by simp only[Pg.yhU,e1,hf,if_true]
    have e4:Pg.yie L q r=0:=by simp[Pg.yie,mQ,e1]
    have e5:Pg.yiV L q r=(L.getD k .zz).rts r:=by simp only[Pg.yiV,e4,Pg.at',hf,if_true]
    have e6:Pg.yir L q r=L.set k ((L.getD k .zz).rts r):=by simp only[Pg.yir,e4,hf,if_true]
    obtain⟨p1,p2⟩:=Pg.ykX h.good hk.1 mQ;have Fx:Pg.fits (L.getD k .zz).p:=(Pg.yi1 (h.good.ok _ (by rw[Pg.yh7 hk.1];exact D _))).2.2.1;rw[e4,e5,e6];rw[e1,e2,e3]at HD;clear h e1 e2 e3 e4 e5 e6 hf gB mQ hk;generalize L.set k ((L.getD k .zz).rts r)=L2 at*;generalize L.eraseIdx k=L1 at*;generalize L.getD k .zz=y at*;obtain⟨mp,ms,mf,mr⟩:=y;simp only[Pg.Mp.rts]at p1 p2 Fx ⊢;have HA:=fun w vb h=>ya4 (b:=b) (vb:=vb) (L:=L1) (Pg.Mp.mk mp ms mf r) Fx w h;rw[p1,p2]at HA;unfold Pg.Mp.val at HA HD ⊢;simp only at HA HD ⊢;clear p1 p2
    go_enter Tryz.func78,Tryz.ntmps78
    go_wp2_with fail
    refine(HD _).mono ?_;rintro e w1 ⟨rfl,vb1,h1,Ha,tO⟩
    have gm:¬bkF b vb w.heap.size:=fun hk=>by have:=HX.out.lt hk;omega
    have hr:Hid (∀o,w1.cell? ⟨w.heap.size,o,B⟩=_):=fun o=>Ha.cell (a:=⟨w.heap.size,o,B⟩) (by simp) gm;have hf:Hid (∀o,w1.frozen? ⟨w.heap.size,o,B⟩=_):=fun o=>Ha.frozen (a:=⟨w.heap.size,o,B⟩) (by simp) gm
    have pU:w.heap.size<w1.heap.size:=by have:=Ha.size;simp at this;omega
    have pJ:Hid (But (bkF b vb) w w1):=((But.refl _ w).alloc _).trans Ha (fun i hi hg=>hg);have H1:Hid _:=h1;have tO:Hid (∀k,bkF b vb1 k->bkF b vb k\/w.heap.size<k):=fun k hk=>(tO k hk).imp id (fun h=>by simp at h;omega);clear Ha h1 HD
    go_wp2_with fail
    refine(HA _ _ (H1.out.grow (zA (zR _) _))).mono ?_;rintro e w2 ⟨rfl,GU,h2,Hd,dA⟩
    have Ph:¬bkF b vb1 w.heap.size:=fun hk=>by
     rcases tO.out _ hk with h|h
     ·exact gm h
     ·omega
    have FX:¬bkF b vb1 w1.heap.size:=fun hk=>by have:=H1.out.lt hk;omega
    have tF:∀o,w2.cell? ⟨w.heap.size,o,B⟩=_:=fun o=>(Hd.cell (a:=⟨w.heap.size,o,B⟩) (by simp;omega) Ph).trans ((Below.cell (p:=⟨w.heap.size,o,B⟩) (zA (zR w1) _) pU).trans (hr.out o));have oh:∀o,w2.frozen? ⟨w.heap.size,o,B⟩=_:=fun o=>(Hd.frozen (a:=⟨w.heap.size,o,B⟩) (by simp;omega) Ph).trans ((Below.frozen (p:=⟨w.heap.size,o,B⟩) (zA (zR w1) _) pU).trans (hf.out o));have si:∀o,w2.cell? ⟨w1.heap.size,o,B⟩=_:=fun o=>Hd.cell (a:=⟨w1.heap.size,o,B⟩) (by simp) FX
    have fin:Hid (∀x0 x1 x2 x3,∃vb',qQ ((((w2.setCell ⟨w.heap.size,0,B⟩ x0).setCell ⟨w.heap.size,1,B⟩ x1).setCell ⟨w.heap.size,2,B⟩ x2).setCell ⟨w.heap.size,3,B⟩ x3) b vb' L2/\But (bkF b vb) w ((((w2.setCell ⟨w.heap.size,0,B⟩ x0).setCell ⟨w.heap.size,1,B⟩ x1).setCell ⟨w.heap.size,2,B⟩ x2).setCell ⟨w.heap.size,3,B⟩ x3)/\∀k,bkF b vb' k->bkF b vb k\/w.heap.size<=k):=by
     intro x0 x1 x2 x3;have tH:But (bkF b vb) w w2:=(pJ.out.alloc _).trans Hd (fun i hi hg=>(tO.out i hg).elim id (fun h=>by omega));have hF:∀k,bkF b GU k->bkF b vb k\/w.heap.size<k:=fun k hk=>(dA k hk).elim (tO.out k) (fun h=> .inr (by simp at h;omega));obtain⟨c1,c2⟩:=yfY (w:=w) (fun k hk=>HX.out.lt hk) tH h2 hF x0 x1 x2 x3;exact⟨GU,c1,c2,fun k hk=>(hF k hk).imp id ks⟩
    clear Hd h2 dA HA gm Ph FX
    go_wp2_with fail
    refine bodyPost_ret (v:=E #[kh #[J I mp,J I ms,J I mf,J I r],J I 0]) ?_ rfl ⟨rfl,?_⟩
    ·simp[results,Tryz.results78,go_sem,tF]
    ·exact fin.out _ _ _ _
 ·have e4:Pg.yie L q r=1:=by
   unfold Pg.yie Pg.yhI;cases h1:Pg.below r 8
   ·rfl
   ·cases h2:Pg.below q 4096
    ·rfl
    ·exact absurd ⟨h2,h1⟩ sU
  have e5:Pg.yiV L q r= .zz:=by simp[Pg.yiV,e4]
  have e6:Pg.yir L q r=L:=by simp[Pg.yir,e4]
  rw[e4,e5,e6]
  have fin:Hid (∀o:Obj,∃vb',qQ (w.alloc o) b vb' L/\But (bkF b vb) w (w.alloc o)/\∀k,bkF b vb' k->bkF b vb k\/w.heap.size<=k):=fun o=>
   ⟨vb,h.grow (zA (zR _) _),But.yhp (zA (zR _) _),fun k hk=> .inl hk⟩
  have sU:¬((0<=q/\q<4096)/\(0<=r/\r<8)):=fun h=>sU ⟨Pg.zB.2 h.1,Pg.zB.2 h.2⟩;clear h HX e4 e5 e6
  by_cases q0:q<0
  ·clear sU
   go_enter Tryz.func78,Tryz.ntmps78
   go_wp2_with fail
   refine bodyPost_ret (v:=E #[kh #[J I 0,J I 0,J I 0,J I 0],J I 1]) ?_ rfl ⟨rfl,fin.out _⟩;simp[results,Tryz.results78,go_sem]
  ·by_cases q1:4096<=q
   ·clear sU
    go_enter Tryz.func78,Tryz.ntmps78
    go_wp2_with fail
    refine bodyPost_ret (v:=E #[kh #[J I 0,J I 0,J I 0,J I 0],J I 1]) ?_ rfl ⟨rfl,fin.out _⟩;simp[results,Tryz.results78,go_sem]
   ·by_cases r0:r<0
    ·clear sU
     go_enter Tryz.func78,Tryz.ntmps78
     go_wp2_with fail
     refine bodyPost_ret (v:=E #[kh #[J I 0,J I 0,J I 0,J I 0],J I 1]) ?_ rfl ⟨rfl,fin.out _⟩;simp[results,Tryz.results78,go_sem]
    ·have r1:7<r:=by omega
     clear sU
     go_enter Tryz.func78,Tryz.ntmps78
     go_wp2_with fail
     refine bodyPost_ret (v:=E #[kh #[J I 0,J I 0,J I 0,J I 0],J I 1]) ?_ rfl ⟨rfl,fin.out _⟩;simp[results,Tryz.results78,go_sem]
theorem vM:(Tryz.prog.info? 121).map (fun i=>(i.zero,i.size,i.bytes))=C (C (kh #[J I 0,J I 0,J I 0,J I 0,H R]),5,40):=by kernel_rfl
structure vl (w:Z) (b:Nat) (vb:Value) (L:List Pg.Ln):Prop where
 c0:w.cell? ⟨b,0,B⟩=C vb
 fb:∀p,w.frozen? ⟨b,p,B⟩=R
 row:zm w 121 5 vb L.length (zL L)
 nb:vb.ownBlock≠C b
 kept:Pg.Kept L
namespace vl
variable {w w' W:Z} {b:Nat} {vb v':Value} {L L':List Pg.Ln}
theorem lb (h:vl w b vb L):b<w.heap.size:=World.block_lt_of_cell? _ _ h.c0
theorem lt (h:vl w b vb L) {k:Nat} (hk:bkF b vb k):k<w.heap.size:=by
 rcases hk with rfl|hk
 ·exact h.lb
 ·exact h.row.lt k hk
theorem keep (h:vl w b vb L) {F:Nat->Prop} (hb:But F w w') (hF:∀k,bkF b vb k->¬F k):vl w' b vb L:=by
 have kb:=hb.block b h.lb (hF b (.inl rfl));exact⟨(N kb).trans h.c0,fun p=>(Y kb).trans (h.fb p),h.row.but hb fun k hk=>hF k (.inr hk),h.nb,h.kept⟩
theorem grow (h:vl w b vb L) (hb:Below w.heap.size w w'):vl w' b vb L:=h.keep (F:=fun _=>False) (But.yhp hb) (fun _ _=>id)
theorem put (h:vl w b vb L) (hb:But (fun j=>vb.ownBlock=C j) w W) (hr:zm W 121 5 v' L'.length (zL L')) (hv:∀j,v'.ownBlock=C j->vb.ownBlock=C j\/w.heap.size<=j) (hg:Pg.Kept L'):
 vl (W.setCell ⟨b,0,B⟩ v') b v' L'/\Chg b 0 (bkF b vb) w (W.setCell ⟨b,0,B⟩ v')/\(∀k,bkF b v' k->bkF b vb k\/w.heap.size<=k):=by
 have hl:=h.lb;have kb:W.heap[b]?=w.heap[b]?:=hb.block b hl h.nb;have hc:W.cell? ⟨b,0,B⟩=C vb:=(N (a:=⟨b,0,B⟩) kb).trans h.c0;have Ho:v'.ownBlock≠C b:=fun e=>(hv b e).elim h.nb (fun h=>by omega);refine⟨⟨World.cell?_setCell_same _ _ _ hc,fun p=> ?_,?_,Ho,hg⟩,⟨?_,fun p hp=> ?_⟩,fun k hk=> ?_⟩
 ·have:=(Y (a:=⟨b,p,B⟩) kb).trans (h.fb p)
  simpa using this
 ·exact hr.of_block fun k hk=>Below.heap_setCell _ _ _ _ (fun e=>Ho (by rw[hk];exact congrArg C e))
 ·exact(hb.mono (G:=bkF b vb) fun i _ hi=> .inr hi).setCell (a:=⟨b,0,B⟩) (.inr (.inl rfl)) _
 ·rw[World.cell?_setCell_other _ _ _ _ (fun e=>hp (by injection e with _ e;exact e.symm))]
  exact N (a:=⟨b,p,B⟩) kb
 ·rcases hk with rfl|hk
  ·exact .inl (.inl rfl)
  ·exact(hv k hk).imp .inr id
end vl
theorem jU {b:Nat} {vb:Value} {L:List Pg.Ln} (q:Int) (hq:Pg.fits q) (w:Z) (h:vl w b vb L):
 Calls T 101 #[X (C ⟨b,0,B⟩),J I q] w fun e w'=>e=K (J I (Pg.yjc L q))/\Below w.heap.size w w':=by
 obtain⟨ad,cap,rfl⟩:=h.row.form;have Hg:=h.kept.le;have HB:Hid _:=h;clear h
 go_enter Tryz.func101,Tryz.ntmps101
 go_wp2_with fail
 go_loopw [5] (fun i wr=>∃j:Nat,j<=L.length/\i=J I j/\Hid ((∀t,t<j->(L.getD t .zz).has q=R)/\Below w.heap.size w wr)) (fun i _=>L.length-(intOf i).toNat)
 case atStart=>exact⟨0,by omega,rfl,⟨fun t ht=>by omega,zR _⟩⟩
 case round=>
  obtain⟨j,hj,rfl,HR⟩:=hrel;have rT:=(HB.out.grow HR.out.2).c0
  have i0:(0:Int)<=(j:Int):=by omega
  by_cases Hf:j<L.length
  ·obtain⟨g,o,rfl,hg,hm⟩:=zt (HB.out.grow HR.out.2).row j Hf
   obtain⟨k0,k1,k2,k3,k4⟩:=hm
   have i1:(j:Int)<(L.length:Int):=by omega
   have HC:=qA (L.getD j .zz).m.p (L.getD j .zz).m.s (L.getD j .zz).m.f (L.getD j .zz).m.r q (HB.out.kept.fits Hf) hq wr;cases hh:(L.getD j .zz).has q
   ·have HN:Hid (∀t,t<j+1->(L.getD t .zz).has q=R):=fun t ht=>by
     by_cases e:t=j
     ·rw[e];exact hh
     ·exact HR.out.1 t (by omega)
    rw[show Pg.over (L.getD j .zz).m.p (L.getD j .zz).m.s q=R from hh]at HC;clear hh;generalize L.getD j .zz=x at*;obtain⟨⟨p,s,f,r⟩,d⟩:=x
    go_wp2_with (go_at_call 132;refine HC.mono ?_;rintro e w1 ⟨rfl,Ha⟩;have oN:Hid _:=zT HR.out.2 Ha;clear Ha)
    go_roundw
    case rel=>exact⟨j+1,by omega,by go_num,⟨HN.out,oN.out⟩⟩
    case measure=>simp[intOf];omega
   ·have HF:Hid (Pg.yjc L q=(j:Int)):=by
     show Pg.yjc L q=(j:Int)
     unfold Pg.yjc Pg.kFnd;rw[Pg.ykN (P:=fun l=>l.has q) Hf hh HR.out.1]
    rw[show Pg.over (L.getD j .zz).m.p (L.getD j .zz).m.s q=Q from hh]at HC;clear hh;generalize L.getD j .zz=x at*;obtain⟨⟨p,s,f,r⟩,d⟩:=x
    go_wp2_with (go_at_call 132;refine HC.mono ?_;rintro e w1 ⟨rfl,Ha⟩;have oN:Hid _:=zT HR.out.2 Ha;clear Ha)
    go_ret
    exact⟨zE HF.out.symm,oN.out⟩
  ·have i1:¬(j:Int)<(L.length:Int):=by omega
   have HF:Hid (Pg.yjc L q= -1):=by
    show Pg.yjc L q= -1
    unfold Pg.yjc Pg.kFnd;rw[Pg.ykM (P:=fun l=>l.has q) fun t ht=>HR.out.1 t (by omega)]
   go_wp2_with fail
   go_ret
   exact⟨zE HF.out.symm,HR.out.2⟩
theorem yaP {b:Nat} {vb:Value} {L:List Pg.Ln} (m:Pg.Mp) (hm:Pg.fits m.p) (w:Z) (h:vl w b vb L):
 Calls T 110 #[X (C ⟨b,0,B⟩),m.val] w fun e w'=>e=K (J I ((L.length:Int)-((Pg.yiq L m).length:Int)))/\∃vb',vl w' b vb' (Pg.yiq L m)/\Chg b 0 (bkF b vb) w w'/\∀k,bkF b vb' k->bkF b vb k\/w.heap.size<=k:=by
 have Hg:=h.kept.le;have HX:Hid _:=h;obtain⟨q0,sF,rW,rZ,rX⟩:=info_parts vM;obtain⟨ad,cap,rfl⟩:=h.row.form;obtain⟨w1,uN⟩:∃w1,w1=w.alloc (kp #[J I m.p,J I m.s,J I m.f,J I m.r] 39):=⟨_,rfl⟩
 have hB:Hid (Below w.heap.size w w1):=by rw[uN];exact zA (zR _) _
 have pU:w.heap.size<w1.heap.size:=by rw[uN];simp
 have WQ:Hid (ybG w1 w.heap.size 0 m):=by rw[uN];exact⟨by simp[go_sem],by simp[go_sem],by simp[go_sem],by simp[go_sem]⟩
 have rY:=h.lb;have Wq:Hid (Pg.yiq L m=L.filter (fun l=> !l.meets m)):=rfl;have dU:(Pg.yiq L m).length<=6:=(h.kept.drop m).le;have EW:Hid _:=h.kept.drop m;generalize Pg.yiq L m=LD at*;clear h;obtain⟨mp,ms,mf,mr⟩:=m;simp only at uN;simp only[Pg.Mp.val]
 go_enter Tryz.func110,Tryz.ntmps110
 go_wp2_with fail
 rw[<-uN];clear uN
 go_loopw [5,6] (fun v i wr=>∃j:Nat,j<=L.length/\i=J I j/\∃ad cap,∃M:List Pg.Ln,v=S ad M.length cap/\M.length<=j/\Hid (M=(L.take j).filter (fun l=> !l.meets ⟨mp,ms,mf,mr⟩)/\wr.ownsRow w1.heap.size 121 5 (S ad M.length cap) M.length (zL M)/\Below w1.heap.size w1 wr)) (fun _ i _=>L.length-(intOf i).toNat)
 case atStart=>exact⟨0,by omega,rfl,B,0,[],rfl,by simp,⟨by simp,V _ _ _ _,zR _⟩⟩
 case round=>
  obtain⟨j,hj,rfl,lH,cap2,M,rfl,hM,HR⟩:=hrel;have HW:Hid _:=(HX.out.grow hB.out).grow HR.out.2.2;have rT:=HW.out.c0
  have i0:(0:Int)<=(j:Int):=by omega
  by_cases Hf:j<L.length
  ·obtain⟨g,o,rfl,hg,iB⟩:=zt HW.out.row j Hf
   obtain⟨k0,k1,k2,k3,k4⟩:=iB
   have i1:(j:Int)<(L.length:Int):=by omega
   have HC:=ydj (L.getD j .zz).m.p (L.getD j .zz).m.s (L.getD j .zz).m.f (L.getD j .zz).m.r mp ms mf mr (HX.out.kept.fits Hf) hm;obtain⟨m0,m1,m2,m3⟩:=WQ.out.below HR.out.2.2 pU;simp only[Nat.zero_add]at m0 m1 m2 m3
   have Cs:w.heap.size<wr.heap.size:=by have:=HR.out.2.2.size;omega
   have mQ:b<wr.heap.size:=HW.out.lb;have Ct:w1.heap.size<=wr.heap.size:=HR.out.2.2.size;have HY:Hid ((!(L.getD j .zz).meets ⟨mp,ms,mf,mr⟩)=Q->(L.take (j+1)).filter (fun l=> !l.meets ⟨mp,ms,mf,mr⟩)=(L.take j).filter (fun l=> !l.meets ⟨mp,ms,mf,mr⟩)++[L.getD j .zz]):=fun h=>Pg.yiE (P:=fun l=> !l.meets ⟨mp,ms,mf,mr⟩) Hf h;have HN:Hid ((!(L.getD j .zz).meets ⟨mp,ms,mf,mr⟩)=R->(L.take (j+1)).filter (fun l=> !l.meets ⟨mp,ms,mf,mr⟩)=(L.take j).filter (fun l=> !l.meets ⟨mp,ms,mf,mr⟩)):=fun h=>Pg.yiu (P:=fun l=> !l.meets ⟨mp,ms,mf,mr⟩) Hf h;have aI:Hid (Pg.meet (L.getD j .zz).m.p (L.getD j .zz).m.s mp ms=(L.getD j .zz).meets ⟨mp,ms,mf,mr⟩):=rfl;generalize L.getD j .zz=x at*;obtain⟨⟨p,s,f,r⟩,d⟩:=x;simp only at k0 k1 k2 k3 k4;have r0:=cell_regrown k0;have r1:=cell_regrown k1;have r2:=cell_regrown k2;have r3:=cell_regrown k3;have r4:=cell_regrown rT;have r5:=cell_regrown m0;have r6:=cell_regrown m1;have r7:=cell_regrown m2;have r8:=cell_regrown m3;cases hx:(Pg.Ln.mk ⟨p,s,f,r⟩ d).meets ⟨mp,ms,mf,mr⟩
   ·rw[aI.out,hx]at HC
    have HY:Hid _:=HY.out (by rw[hx];rfl);clear hx aI HN
    go_wp2_with fail
    refine wp_region_quiet_below (by kernel_rfl) (by kernel_rfl) ?_
    repeat (first
     | go_big_quiet_step ((go_at_call 128;exact Calls.regrown_of (HC _))))
    refine wpQuiet_nil ?_;intro _ pG;obtain⟨⟨dq,osq⟩,rfl⟩:=pG;have Hd:=below_regrown wr dq osq;have fO:Hid (Below w1.heap.size w1 (grow (redrawn wr dq) osq)):=zT HR.out.2.2 Hd;have s0:=r0 dq osq;have s1:=r1 dq osq;have s2:=r2 dq osq;have s3:=r3 dq osq;have s4:=r4 dq osq;have s5:=cell_later Hd k4;have Hr:=zl HR.out.2.1 Hd;have KG:=Hd.size;have HO:Hid ((grow (redrawn wr dq) osq).ownsRow w1.heap.size 121 5 (S lH M.length cap2) M.length (zL M)):=Hr;generalize grow (redrawn wr dq) osq=w2 at*;clear r0 r1 r2 r3 r4 r5 r6 r7 r8 k0 k1 k2 k3 k4 m0 m1 m2 m3 rT HC Hd
    go_wp2_with (first
     | (at_builtin;refine wpList_append_lies _ rfl _ _ 63 rfl w1.heap.size 121 q0 _ 5 40 Tryz.underlying63 sF rW rZ rX rfl (by decide) _ _ _ rfl (Hr.alloc _) ⟨w2.heap.size,0,B⟩ 1 1 [J I p,J I s,J I f,J I r,H d] rfl rfl ?c1 ?c2 (by decide) ?c3 ?c4 ?c5 (w2.heap.size+1) (by simp) ?_))
    case c1=>exact fun j u hj=>z (heap_alloc_new w2 _) j u hj
    case c2=>intro u hu;simp at hu;rcases hu with rfl|rfl|rfl|rfl|rfl<;>rfl
    case c3=>unfold maxLen;omega
    case c4=>omega
    case c5=>simp;omega
    intro g3 rC w3 Hy Hq hat pK
    have fin:Hid (M++[Pg.Ln.mk ⟨p,s,f,r⟩ d]=(L.take (j+1)).filter (fun l=> !l.meets ⟨mp,ms,mf,mr⟩)/\w3.ownsRow w1.heap.size 121 5 (S (C ⟨g3,0,B⟩) (M++[Pg.Ln.mk ⟨p,s,f,r⟩ d]).length rC) (M++[Pg.Ln.mk ⟨p,s,f,r⟩ d]).length (zL (M++[Pg.Ln.mk ⟨p,s,f,r⟩ d]))/\Below w1.heap.size w1 w3):=
     ⟨by rw[HY.out,<-HR.out.1],by rw[xN,ki];exact Hy,j8 fO.out HO.out Hq⟩
    clear Hy Hq hat pK Hr
    go_wp2_with fail
    go_roundw
    case rel=>exact⟨j+1,by omega,by go_num,_,rC,M++[Pg.Ln.mk ⟨p,s,f,r⟩ d],by simp,by simp;omega,fin.out⟩
    case measure=>simp[intOf];omega
   ·rw[aI.out,hx]at HC
    have HN:Hid _:=HN.out (by rw[hx];rfl);clear hx aI HY
    go_wp2_with fail
    refine wp_region_quiet_below (by kernel_rfl) (by kernel_rfl) ?_
    repeat (first
     | go_big_quiet_step ((go_at_call 128;exact Calls.regrown_of (HC _))))
    refine wpQuiet_nil ?_;intro _ pG;obtain⟨⟨dq,osq⟩,rfl⟩:=pG;have Hd:=below_regrown wr dq osq;have fO:Hid (Below w1.heap.size w1 (grow (redrawn wr dq) osq)):=zT HR.out.2.2 Hd;have HO:Hid ((grow (redrawn wr dq) osq).ownsRow w1.heap.size 121 5 (S lH M.length cap2) M.length (zL M)):=zl HR.out.2.1 Hd;generalize grow (redrawn wr dq) osq=w2 at*;clear r0 r1 r2 r3 r4 r5 r6 r7 r8 k0 k1 k2 k3 k4 m0 m1 m2 m3 rT HC Hd
    go_wp2_with fail
    go_roundw
    case rel=>exact⟨j+1,by omega,by go_num,_,cap2,M,rfl,by omega,by rw[HN.out];exact HR.out.1,HO.out,fO.out⟩
    case measure=>simp[intOf];omega
  ·have i1:¬(j:Int)<(L.length:Int):=by omega
   have kH:M=LD:=by rw[HR.out.1,Wq.out,List.take_of_length_le (by omega)]
   have TT:=HW.out.fb 0;have mQ:b<wr.heap.size:=HW.out.lb;have HF:Hid _:=HX.out.put (W:=wr) (L':=M) (v':=S lH M.length cap2) ((But.yhp (zT hB.out HR.out.2.2))) (zm.yjA HR.out.2.1) (fun j hj=> .inr (by have:=(HR.out.2.1.lt j hj).1;omega)) (by rw[kH];exact EW.out)
   go_wp2_with fail
   go_ret
   obtain⟨f1,f2,f3⟩:=HF.out;rw[kH]at f1 f2 f3;exact⟨rfl,_,f1,f2,f3⟩
theorem vl.yig {w:Z} {b g o cap:Nat} {L:List Pg.Ln} (h:vl w b (S (C ⟨g,o,B⟩) L.length cap) L) (h0:0<L.length) {o':Nat} (ho:o'=o+5\/(cap=1/\o'=o)):
 vl (w.setCell ⟨b,0,B⟩ (S (C ⟨g,o',B⟩) (L.length-1) (cap-1))) b (S (C ⟨g,o',B⟩) (L.length-1) (cap-1)) (L.drop 1)/\Chg b 0 (bkF b (S (C ⟨g,o,B⟩) L.length cap)) w (w.setCell ⟨b,0,B⟩ (S (C ⟨g,o',B⟩) (L.length-1) (cap-1)))/\(∀k,bkF b (S (C ⟨g,o',B⟩) (L.length-1) (cap-1)) k->bkF b (S (C ⟨g,o,B⟩) L.length cap) k\/w.heap.size<=k):=by
 have ht:=h.row.tail h0 ho;have e:=(xY L 1).2;rw[show 1*5=5 from rfl]at e;rw[e]at ht;exact h.put (But.refl _ w) (by rw[ur];exact ht) (fun j hj=> .inl hj) h.kept.tail
theorem yer {b:Nat} {vb:Value} {L:List Pg.Ln} (l:Pg.Ln) (hm:Pg.fits l.m.p) (w:Z) (h:vl w b vb L):
 Calls T 58 #[X (C ⟨b,0,B⟩),l.val] w fun e w'=>e=K (H (l.m.code==0))/\∃vb',vl w' b vb' (Pg.kPut L l)/\Chg b 0 (bkF b vb) w w'/\∀k,bkF b vb' k->bkF b vb k\/w.heap.size<=k:=by
 have HX:Hid _:=h;have Li:∀k,bkF b vb k->k<w.heap.size:=fun k hk=>h.lt hk;have sN:=qW l.m.p l.m.s l.m.f l.m.r;have rY:b<w.heap.size:=h.lb
 by_cases H6:l.m.code=0
 ·have eF:Pg.check l.m.p l.m.s l.m.f l.m.r=0:=H6
  rw[eF]at sN
  have hr:(l.m.code==0)=Q:=by simp[H6]
  have aL:Hid (Pg.Kept (Pg.kPut L l)):=h.kept.put l;have Tj:Hid ((Pg.yiq L l.m).length<=6):=(h.kept.drop l.m).le;have HD:=fun w' (hb:Below w.heap.size w w')=>yaP l.m hm w' (h.grow hb);rw[hr];rw[Pg.ykP H6]at aL ⊢;clear h H6 eF hr;generalize Pg.yiq L l.m=L1 at*;obtain⟨L2,aY⟩:∃L2,L2=Pg.yi4 L1:=⟨_,rfl⟩;rw[<-aY]at aL
  have SN:Hid (L2.length<=5):=by rw[aY];exact Pg.yju Tj.out
  have fO:Hid (L2=Pg.yi4 L1):=aY;clear aY;generalize bkF b vb=F at*;obtain⟨⟨mp,ms,mf,mr⟩,d⟩:=l;simp only[Pg.Ln.val,Pg.Mp.val]at*
  go_enter Tryz.func58,Tryz.ntmps58
  go_wp2_with fail
  refine(sN _).mono ?_;rintro e w1 ⟨rfl,Ha⟩;have iN:∀p,w1.cell? ⟨w.heap.size,p,B⟩=_:=fun p=>Ha.cell (p:=⟨w.heap.size,p,B⟩) (by simp);have bJ:Below w.heap.size w w1:=zT (zA (zR _) _) Ha
  have rQ:w.heap.size<w1.heap.size:=by have:=Ha.size;simp at this;omega
  have H9:Hid _:=bJ;clear Ha bJ sN
  go_wp2_with fail
  refine(HD _ H9.out).mono ?_;rintro e w2 ⟨rfl,GU,h2,tY,dA⟩
  have tL:¬F w.heap.size:=fun hf=>by have:=Li _ hf;omega
  have nX:∀p,w2.cell? ⟨w.heap.size,p,B⟩=_:=fun p=>(tY.but.cell (a:=⟨w.heap.size,p,B⟩) rQ tL).trans (iN p);have pR:w.heap.size<w2.heap.size:=O rQ tY.but.size;have lD:Hid (Chg b 0 F w w2):=(Chg.yhp (o:=0) H9.out rY).trans tY (fun i _ hi=>hi);have dA:Hid (∀k,bkF b GU k->F k\/w.heap.size<k):=fun k hk=>(dA k hk).imp id (fun h=>by omega);obtain⟨lH,cap2,rfl⟩:=h2.row.form;have c20:=h2.c0;have KH:=h2.lb;have Dj:=h2.fb 0;clear tY HD iN HX
  by_cases h6:L1.length=6
  ·have i6:((L1.length:Int)==6)=Q:=by simp[h6]
   have eR:L1.drop 1=L2:=by rw[fO.out];simp[Pg.yi4,h6]
   have eL:L1.length-1=L2.length:=by rw[<-eR,ur]
   obtain⟨g2,o2,cp,e,fH,RA,lX⟩:=h2.row.shape (by omega);cases e;have H2:Hid _:=h2
   have j1:(1:Int)<=(L1.length:Int):=by omega
   have j2:¬(cap2=1):=by omega
   have j3:cap2<=9223372036854775807:=by unfold maxLen at lX;omega
   obtain⟨e1,e2,e3⟩:=H2.out.yig (by omega) (o':=o2+5) (.inl rfl);rw[eR]at e1;rw[eL]at e1 e2 e3;obtain⟨w3,uO⟩:∃w3,w3=w2.setCell ⟨b,0,B⟩ (S (C ⟨g2,o2+5,B⟩) L2.length (cap2-1)):=⟨_,rfl⟩;rw[<-uO]at e1 e2;have Pj:¬bkF b (S (C ⟨g2,o2,B⟩) L1.length cap2) w.heap.size:=fun hf=>(dA.out _ hf).elim tL (fun h=>by omega);have nY:∀p,w3.cell? ⟨w.heap.size,p,B⟩=_:=fun p=>(e2.but.cell (a:=⟨w.heap.size,p,B⟩) pR Pj).trans (nX p);have iP:w.heap.size<w3.heap.size:=O pR e2.but.size;have aG:Hid (Chg b 0 F w w3):=lD.out.trans e2 (fun i hi hg=>(dA.out i hg).elim id (fun h=>by omega));have mi:Hid (∀k,bkF b (S (C ⟨g2,o2+5,B⟩) L2.length (cap2-1)) k->F k\/w.heap.size<=k):=fun k hk=>(e3 k hk).elim (fun h=>(dA.out k h).imp id (fun h=>by omega)) (fun h=> .inr (by omega));have x0:w3.cell? ⟨w.heap.size,0,B⟩=C (J I mp):=(nY 0).trans (by simp[go_sem]);have x1:w3.cell? ⟨w.heap.size,1,B⟩=C (J I ms):=(nY 1).trans (by simp[go_sem]);have x2:w3.cell? ⟨w.heap.size,2,B⟩=C (J I mf):=(nY 2).trans (by simp[go_sem]);have x3:w3.cell? ⟨w.heap.size,3,B⟩=C (J I mr):=(nY 3).trans (by simp[go_sem]);have x4:w3.cell? ⟨w.heap.size,4,B⟩=C (H d):=(nY 4).trans (by simp[go_sem]);have t3:Hid _:=e1;clear nY nX h2 e2 e3 e1 fH lX h6
   go_wp2_with fail
   rw[<-uO];have t3:=t3.out;clear c20 uO Dj;obtain⟨gN,rC,Ea⟩:∃gN rC,U (C ⟨g2,o2+5,B⟩) L2.length (cap2-1)=S gN L2.length rC:=⟨_,_,rfl⟩;rw[Ea]at t3 mi;clear Ea;have Hr:=t3.row;have r0:=t3.c0;have rf:=t3.fb 0;have bv:=t3.lb;have lX:=t3.nb;have ik:L2.length<=5:=SN.out;have Tp:Hid _:=t3;have mo:Hid (Pg.Kept (L2++[⟨⟨mp,ms,mf,mr⟩,d⟩])):=aL.out;obtain⟨q0,sF,rW,rZ,rX⟩:=info_parts vM
   have sZ:∀u,u ∈ [uv I mp,J I ms,J I mf,J I mr,H d]->u.oneCell'=Q:=by
    intro u hu;simp at hu;rcases hu with rfl|rfl|rfl|rfl|rfl<;>rfl
   have dV:L2.length+1<=maxLen:=by unfold maxLen;omega
   have si:(L2.length+1)*40<=140737488355328:=by omega
   have uI:w.heap.size<w3.heap.size:=iP;have fq:zm (w3.alloc (kp #[J I mp,J I ms,J I mf,J I mr,H d] 121)).drew 121 5 (S gN L2.length rC) L2.length (zL L2):=Hr.but (F:=fun _=>False) (((But.refl _ w3).alloc _).drew) (fun _ _=>id);obtain⟨g6,o6,cap6,w6,bB,hO,Dv,hA⟩:=jL (P:=T) (w3.alloc (kp #[J I mp,J I ms,J I mf,J I mr,H d] 121)).drew 63 63 121 q0 _ 5 40 Tryz.underlying63 sF rW rZ rX rfl (by decide) _ _ _ fq ⟨w3.heap.size,0,B⟩ 1 1 [J I mp,J I ms,J I mf,J I mr,H d] rfl (fun j u hj=>z (heap_alloc_new w3 _) j u hj) sZ (by decide) dV si;have lJ:But (fun j=>(U gN L2.length rC).ownBlock=C j) w3 w6:=((But.refl _ w3).alloc _).drew.trans Dv (fun _ _ h=>h);have sP:w6.heap[b]?=w3.heap[b]?:=lJ.block b bv lX;have e9:w6.cell? ⟨b,0,B⟩=C (S gN L2.length rC):=(N sP).trans r0;have Bz:w6.frozen? ⟨b,0,B⟩=R:=(Y sP).trans rf
   have kY:zm w6 121 5 (S (C ⟨g6,o6,B⟩) (L2.length+1) cap6) (L2++[Pg.Ln.mk ⟨mp,ms,mf,mr⟩ d]).length (zL (L2++[Pg.Ln.mk ⟨mp,ms,mf,mr⟩ d])):=by
    rw[xN,ki];exact hO
   have HF:Hid _:=Tp.out.put lJ kY (fun j hj=>by
    rcases hA with h|h
    ·exact .inl (h.trans hj)
    ·exact .inr (by simp[kO]at hj;simp at h;omega)) mo.out
   have Lp:b<w6.heap.size:=O bv lJ.size;clear t3 iP kY lJ hO hA Dv sP Hr fq
   go_wp2_with fail
   go_region_law (refine zw rfl (.tmp 31) (.tmp 33) 63 63 rfl (S gN L2.length rC) (S (C ⟨w3.heap.size,0,B⟩) 1 1) (by simp[Act.eval]) (by simp[Act.eval]) bB ?_)
   all_goals
    go_wp2_with fail
    go_ret
    obtain⟨f1,f2,f3⟩:=HF.out;refine⟨rfl,_,by rw[<-fO.out];exact f1,aG.out.trans f2 (fun i hi hg=>(mi.out i hg).elim id (fun h=>by omega)),fun k hk=>(f3 k hk).elim (mi.out k) (fun h=> .inr (by omega))⟩
  ·have i6:((L1.length:Int)==6)=R:=by
    have:¬((L1.length:Int)=6):=by omega
    simpa using this
   have eR:L1=L2:=by rw[fO.out];simp[Pg.yi4,h6]
   rw[eR]at h2 c20 i6 dA;clear eR;have aG:Hid _:=lD.out;have mi:Hid (∀k,bkF b (S lH L2.length cap2) k->F k\/w.heap.size<=k):=fun k hk=>(dA.out k hk).imp id (fun h=>by omega);have t3:Hid _:=h2;have x0:w2.cell? ⟨w.heap.size,0,B⟩=C (J I mp):=(nX 0).trans (by simp[go_sem]);have x1:w2.cell? ⟨w.heap.size,1,B⟩=C (J I ms):=(nX 1).trans (by simp[go_sem]);have x2:w2.cell? ⟨w.heap.size,2,B⟩=C (J I mf):=(nX 2).trans (by simp[go_sem]);have x3:w2.cell? ⟨w.heap.size,3,B⟩=C (J I mr):=(nX 3).trans (by simp[go_sem]);have x4:w2.cell? ⟨w.heap.size,4,B⟩=C (H d):=(nX 4).trans (by simp[go_sem]);have iP:w.heap.size<w2.heap.size:=pR;clear nX h2 KH
   go_wp2_with fail
   clear c20 Dj;have t3:=t3.out;generalize w2=w3 at*;generalize lH=gN at*;generalize cap2=rC at*;have Hr:=t3.row;have r0:=t3.c0;have rf:=t3.fb 0;have bv:=t3.lb;have lX:=t3.nb;have ik:L2.length<=5:=SN.out;have Tp:Hid _:=t3;have mo:Hid (Pg.Kept (L2++[⟨⟨mp,ms,mf,mr⟩,d⟩])):=aL.out;obtain⟨q0,sF,rW,rZ,rX⟩:=info_parts vM
   have sZ:∀u,u ∈ [uv I mp,J I ms,J I mf,J I mr,H d]->u.oneCell'=Q:=by
    intro u hu;simp at hu;rcases hu with rfl|rfl|rfl|rfl|rfl<;>rfl
   have dV:L2.length+1<=maxLen:=by unfold maxLen;omega
   have si:(L2.length+1)*40<=140737488355328:=by omega
   have uI:w.heap.size<w3.heap.size:=iP;have fq:zm (w3.alloc (kp #[J I mp,J I ms,J I mf,J I mr,H d] 121)).drew 121 5 (S gN L2.length rC) L2.length (zL L2):=Hr.but (F:=fun _=>False) (((But.refl _ w3).alloc _).drew) (fun _ _=>id);obtain⟨g6,o6,cap6,w6,bB,hO,Dv,hA⟩:=jL (P:=T) (w3.alloc (kp #[J I mp,J I ms,J I mf,J I mr,H d] 121)).drew 63 63 121 q0 _ 5 40 Tryz.underlying63 sF rW rZ rX rfl (by decide) _ _ _ fq ⟨w3.heap.size,0,B⟩ 1 1 [J I mp,J I ms,J I mf,J I mr,H d] rfl (fun j u hj=>z (heap_alloc_new w3 _) j u hj) sZ (by decide) dV si;have lJ:But (fun j=>(U gN L2.length rC).ownBlock=C j) w3 w6:=((But.refl _ w3).alloc _).drew.trans Dv (fun _ _ h=>h);have sP:w6.heap[b]?=w3.heap[b]?:=lJ.block b bv lX;have e9:w6.cell? ⟨b,0,B⟩=C (S gN L2.length rC):=(N sP).trans r0;have Bz:w6.frozen? ⟨b,0,B⟩=R:=(Y sP).trans rf
   have kY:zm w6 121 5 (S (C ⟨g6,o6,B⟩) (L2.length+1) cap6) (L2++[Pg.Ln.mk ⟨mp,ms,mf,mr⟩ d]).length (zL (L2++[Pg.Ln.mk ⟨mp,ms,mf,mr⟩ d])):=by
    rw[xN,ki];exact hO
   have HF:Hid _:=Tp.out.put lJ kY (fun j hj=>by
    rcases hA with h|h
    ·exact .inl (h.trans hj)
    ·exact .inr (by simp[kO]at hj;simp at h;omega)) mo.out
   have Lp:b<w6.heap.size:=O bv lJ.size;clear t3 iP kY lJ hO hA Dv sP Hr fq
   go_wp2_with fail
   go_region_law (refine zw rfl (.tmp 31) (.tmp 33) 63 63 rfl (S gN L2.length rC) (S (C ⟨w3.heap.size,0,B⟩) 1 1) (by simp[Act.eval]) (by simp[Act.eval]) bB ?_)
   all_goals
    go_wp2_with fail
    go_ret
    obtain⟨f1,f2,f3⟩:=HF.out;refine⟨rfl,_,by rw[<-fO.out];exact f1,aG.out.trans f2 (fun i hi hg=>(mi.out i hg).elim id (fun h=>by omega)),fun k hk=>(f3 k hk).elim (mi.out k) (fun h=> .inr (by omega))⟩
 ·have hr:(l.m.code==0)=R:=by simp[H6]
  have Ho:(Pg.check l.m.p l.m.s l.m.f l.m.r !=0)=Q:=by
   have:Pg.check l.m.p l.m.s l.m.f l.m.r≠0:=H6
   simpa using this
  rw[hr,Pg.ylm H6];clear H6 hr h;obtain⟨⟨mp,ms,mf,mr⟩,d⟩:=l;simp only at sN Ho;simp only[Pg.Ln.val];generalize Pg.check mp ms mf mr=x at*
  go_enter Tryz.func58,Tryz.ntmps58
  go_wp2_with fail
  refine(sN _).mono ?_;rintro e w1 ⟨rfl,Ha⟩;have HB:Hid (Below w.heap.size w w1):=zT (zA (zR _) _) Ha;clear Ha
  go_wp2_with fail
  go_ret
  exact⟨rfl,_,HX.out.grow HB.out,Chg.yhp HB.out rY,fun k hk=> .inl hk⟩
end Go.Proofs.YtdphiompijbelaaGreat
