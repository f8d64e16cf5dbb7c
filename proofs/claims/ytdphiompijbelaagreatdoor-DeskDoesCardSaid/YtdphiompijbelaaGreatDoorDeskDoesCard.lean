
/-
  DeskDoes: the law answers true for all lists of lines a and b: every Do of the desk is as the document says, one behind the other (the law asks this of lists of at most 350 lines and 20000 bytes). Conditions: the row's own, with the package variables that it lists laid as the program's text lays them (the tied card).
-/
import Derived.Test.YtdphiompijbelaaGreatDoorDeskDoes
import Derived.Test.YtdphiompijbelaaGreatDoorDeskDoesB
import Derived.Test.YtdphiompijbelaaGreatDoorCards
import Derived.Test.YtdphiompijbelaaGreatDoorTie
import Derived.Lay
import Derived.SevenTiedAt
set_option linter.all false
set_option maxRecDepth 100000
open Bool renaming false->M,true->kO
open List renaming all_eq_true->U
open Option renaming some->V,none->O
open Go renaming Value->kp
open Go.Value renaming slice->N
open Go.Proofs.Tryz renaming prog->J
namespace Go.Proofs.YtdphiompijbelaaGreatDoor
open Go.Proofs.Tryz Pg
open Go.ChangeShapes Go.WideShapes Go.ChangeAt Go.RowKit Go.Joins
set_option maxRecDepth 100000 in
theorem deskDoes_lifted(g:Os)(b:g.Started)(hk:Type)(a:TypeId×kp->hk):ReturnsInHanded {} Tryz.checked g 3 .any (λw k=>(Rows.deskDoesSpec.pre a J Tryz.f3 [] M w k/\laidMetH J laidAll w)/\sizedMet a J Tryz.f3 (OpenSpec.ofChange Rows.deskDoesSpec) M w k) (Rows.deskDoesSpec.post a J Tryz.f3 M kO M M):=by refine returnsInHanded_of_change_and (C:=Tryz.checked) (X:=λw _=>laidMetH J laidAll w) (λ_ _ _ hh h=>h.of_heap hh) own b κ func3 (ChangeSpec.witness_shaped (enc:=a) (C:=Tryz.checked) (os:=g) (X:=λw _=>laidMetH J laidAll w) M (World.laidAll J g laidAll) #[N O 0 0,N O 0 0] 8 (World.laidAll_os _ _ _) (World.shaped_of_ZipB κ κ) κ κ κ (by rw[MakeChecks.laidMetH_plain _ _ _ κ];exact laidMet_laidAll _ κ κ)) ?_;intro W d k s gs i y F _ l hL _;have m:∀(j:Nat) t v,Tryz.f3.params[j]?=V t->k[j]?=V v->Value.okWide J W .any d t v:=y;have T:=F;obtain⟨p,q,f,hV,rfl,Tp,gI⟩:=F;have D:DataW.TrodAll a J W 0 (λ_=>kO) kO Tryz.f3.params.toList k.toList s p:=f;rw[Tryz.params3]at D m l;obtain⟨L,vs0,o,ds0,p0,q0,u,rfl,rfl,z,r0⟩:=trodAll_cons D;obtain⟨K,vs1,r,ds1,p1,q1,rfl,rfl,rfl,S,r1⟩:=trodAll_cons r0;obtain⟨rfl,rfl,rfl⟩:=trodAll_nil r1;obtain rfl:k=#[L,K]:=by{cases k;simp_all};obtain⟨rfl,rfl⟩:=trodVars_none hV;have rD:∀n ∈ o.weights J 22,n<=reachBytes:=λn x=>by{have:=DataW.weights_mem_each (P:=J) (ts:=[22,22]++Rows.deskDoesSpec.plain.varTypes J) (ds:=[o,r]++[]) (j:=0) rfl rfl n x;exact of_decide_eq_true (U.1 l n this)};have rT:∀n ∈ r.weights J 22,n<=reachBytes:=λn x=>by{have:=DataW.weights_mem_each (P:=J) (ts:=[22,22]++Rows.deskDoesSpec.plain.varTypes J) (ds:=[o,r]++[]) (j:=1) rfl rfl n x;exact of_decide_eq_true (U.1 l n this)};obtain⟨ax,la,ca,qa,rfl,f1,f2,f3⟩:=yeo (m 0 22 L rfl rfl) z rD;obtain⟨ay,lb,cb,qb,rfl,g1,g2,g3⟩:=yeo (m 1 22 K rfl rfl) S rT;clear f y l;refine(deskDoes_walk W (ycV hL) ax la ca qa f1 ay lb cb qb g1).mono λe W' ⟨he,c⟩=> ?_;subst he;exact⟨_,rfl,_,_,_,[],_,[],T,trodAll_mk1 (shut_bool underlying4 _),(trodAll_cons_mk (yiQ κ (of_decide_eq_true κ) z c) (trodAll_cons_mk (yiQ κ (of_decide_eq_true κ) S c) trodAll_mk0)),rfl,c.frame _,λh=>by cases h⟩
theorem deskDoes_over:Rows.DeskDoesSaid:=OpenClaim.holds_of_wide 3 Tryz.f3 rfl rfl rfl rfl rfl rfl rfl ⟨rfl,rfl,rfl,rfl,rfl⟩ rfl rfl rfl rfl rfl κ func3 ddB (of_decide_eq_true κ) (by unfold Func.isWrapper;first|(rw[iP (by decide+kernel)];kernel_rfl)|(rw[iN (by decide+kernel)];exact⟨rfl,rfl⟩)) (λa h w k _=>deskDoes_lifted a h w k)
set_option maxHeartbeats 8000000 in
theorem deskDoesCard_proved:Rows.DeskDoesCardSaid:= Claim7.holds_tied_plain_at .later [] [.data, .data, .data, .data, .sentinel, .sentinel, .pinned] kO (kO, "55fdf0ecde7b4683b6c2ef235d49e61bd620d165e981ee8d336092ed852e0984") kO deskDoes_over (fun _ h=>by cases h) (by as_aux_lemma=>kernel_rfl) (fun _ h=>by cases h) deskDoes_row_tie rfl ⟨rfl,rfl⟩ (by as_aux_lemma=>kernel_rfl) rfl (fun f w a k=>by obtain rfl : f = 3 := Option.some.inj ((show Tryz.prog.funcNamed "wayleave/wayleavelaw.DeskDoes" = V 3 by kernel_rfl).symm.trans a) |>.symm;obtain rfl:w=Tryz.f3:=(Option.some.inj (Tryz.func3.symm.trans k)).symm;exact⟨(by as_aux_lemma=>kernel_rfl),fun j t ht=>by rw[Tryz.params3]at ht;have b:t ∈ [22,22]:=by{simpa using Array.mem_of_getElem? ht};have c:([22,22].all fun u=> !Tryz.prog.wantsStandIn u)=kO:=(by as_aux_lemma=>kernel_rfl);exact(show Tryz.prog.wantsStandIn t=M by simpa using U.1 c t b)⟩) (by as_aux_lemma=>kernel_rfl)
#print axioms deskDoesCard_proved
end Go.Proofs.YtdphiompijbelaaGreatDoor
