import Derived.Test.YtkhnelgommaioaaGreatChecked
import Derived.Test.YtkhnelgommaioaaGreatMemLay
import Derived.Deep.AppendLies
import Derived.Test.YtkhnelgommaioaaGreatFrames
import Derived.Test.YtkhnelgommaioaaGreatWalkE
namespace Go.Proofs.YtkhnelgommaioaaGreat
open Go.RowKit Go.Sort
set_option linter.unusedVariables false
set_option maxRecDepth 100000
namespace Pg.Fs
end Pg.Fs
namespace Side
variable {w0 w w':World} {bf bm g0 g1:Nat} {vb vb':Value} {F F':Nat->Prop} {Sf Sm S':Pg.Fs}
end Side
theorem way_place (S:Pg.Fs) (p:Int):∀(lv:Nat) (t:Int) (a i:Nat),i<(Pg.thr S (Pg.onW p) lv t a).1.length->i<=lv/\(plcs (Pg.thr S (Pg.onW p) lv t a).1).getD i 0=(Pg.ix p (lv-i):Nat):=by
 intro lv
 induction lv with
 | zero=>
   intro t a i hi
   rw[Pg.thr_way]at hi ⊢
   split at hi
   ·simp at hi
   ·rename_i h1
    rw[if_neg h1]
    split at hi
    ·rename_i h2
     rw[if_pos h2]
     simp at hi
     subst hi
     exact⟨by omega,by simp[plcs,Pg.spt]⟩
    ·rename_i h2
     obtain⟨m,hm⟩:=Pg.rEn_on (S:=S) (t:=t) (i:=Pg.ix p 0) (lv:=0) (by simpa using h2)
     omega
 | succ lv ih=>
   intro t a i hi
   rw[Pg.thr_way]at hi ⊢
   split at hi
   ·simp at hi
   ·rename_i h1
    rw[if_neg h1]
    split at hi
    ·rename_i h2
     rw[if_pos h2]
     simp at hi
     subst hi
     exact⟨by omega,by simp[plcs,Pg.spt]⟩
    ·rename_i h2
     rw[if_neg h2]
     simp only at hi ⊢
     cases i with
     | zero=>exact⟨by omega,by simp[plcs,Pg.spt]⟩
     | succ i=>
       have h3:=ih (Pg.rEn S t (Pg.ix p (lv+1)) (lv+1)).f ((a+Pg.ix p (lv+1))*8) i (by simpa[Pg.sub]using hi)
       refine⟨by omega,?_⟩
       rw[show lv+1-(i+1)=lv-i by omega]
       simpa[plcs,Pg.sub]using h3.2
theorem find_place (S:Pg.Fs) (t p:Int) {i:Nat} (hi:i<(fndX S t p).length):Pg.below p 4096=true/\i<=3/\(plcs (fndX S t p)).getD i 0=Pg.index p (3-(i:Int)):=by
 unfold fndX at hi ⊢
 split at hi
 ·rename_i h
  rw[if_pos h]
  obtain⟨h1,h2⟩:=way_place S p 3 t 0 i hi
  refine⟨h.1,h1,?_⟩
  rw[h2,show(3-(i:Int))=((3-i:Nat):Int) by omega,Pg.index_ix h.1 (by omega)]
 ·simp at hi
theorem fndX_len (S:Pg.Fs) (t p:Int):(fndX S t p).length<=4680:=by
 unfold fndX
 split
 ·exact Pg.thr_len S (Pg.onW p) 3 t 0
 ·simp
end Go.Proofs.YtkhnelgommaioaaGreat
