import Derived.WalkKit
import Derived.WalkLawsBesides
import Derived.WalkSmall
import Derived.WalkSpells
import Derived.BigQuiet
import Derived.Lib.QuietBelow
namespace Go.Proofs.YtkhnelgommaioaaGreat
open Go.RowKit
namespace Pg
def r8 (x:Int):Nat:=(BitVec.ofInt 64 x).toNat%8
theorem and_small (n m:Nat) (h:m<8):n&&&m=(n%8)&&&m:=by
 have h7:m=7&&&m:=by
  have:m=0\/m=1\/m=2\/m=3\/m=4\/m=5\/m=6\/m=7:=by omega
  rcases this with h|h|h|h|h|h|h|h<;>subst h<;>decide
 have e:n&&&7=n%8:=Nat.and_two_pow_sub_one_eq_mod n 3
 rw[<-e,Nat.and_assoc,<-h7]
theorem ofInt_small (y:Nat) (h:y<8):(BitVec.ofInt 64 (y:Int)).toNat=y:=by
 rw[BitVec.toNat_ofInt];omega
theorem wrap_i64_small (n:Nat) (h:n<8):IntKind.i64.wrap (n:Int)=n:=by
 simp[IntKind.wrap,IntKind.bits,IntKind.signed];omega
theorem and_lt8 (a m:Nat) (h:m<8):a&&&m<8:=Nat.lt_of_le_of_lt Nat.and_le_right h
theorem band_small (x:Int) (m:Nat) (h:m<8):bits .and .i64 x (m:Int)=((r8 x&&&m:Nat):Int):=by
 unfold bits r8
 show IntKind.i64.wrap ((BitVec.ofInt 64 x&&&BitVec.ofInt 64 (m:Int)).toNat:Int)=_
 rw[BitVec.toNat_and,ofInt_small m h,and_small _ m h]
 exact wrap_i64_small _ (and_lt8 _ m h)
theorem u64_of_wrap64 (n:Int) (h0:0<=n) (h1:n<18446744073709551616):IntKind.u64.wrap (wrap64 n)=n:=by
 simp only[IntKind.wrap,IntKind.bits,IntKind.signed,wrap64,Bool.false_and,Bool.false_eq_true,if_false]
 omega
def below (n e:Int):Bool:=decide (0<=n)&&decide (n<e)
def span (s:Int):Int:=if s=0 then 1 else if s=1 then 8 else if s=2 then 64 else 0
def isKind (k:Int):Bool:=k==0||k==1||k==2
def check (p s f r:Int):Int:=
 if span s=0 then 2
 else if (!below p 4096|| !below f 1048576|| !below r 8)=true then 1
 else if p%span s=0/\f%span s=0 then 0 else 3
def over (mp ms p:Int):Bool:=decide (mp<=p)&&decide (p-mp<span ms)
def meet (ap az bp bz:Int):Bool:=over ap az bp||over bp bz ap
def asks (k:Int) (u:Bool):Nat:=(if k=1 then 1 else if k=2 then 4 else 0)+(if u then 2 else 0)
def may (r k:Int) (u:Bool):Bool:=(r8 r&&&asks k u)==asks k u
def zK (p k:Int):Int:=if isKind k=true then(if below p 4096=true then 0 else 1)else 2
def index (p l:Int):Int:=if (below p 4096&&below l 4)=true then p/8^l.toNat%8 else-1
def aEnd (r k:Int) (u:Bool):Int:=if may r k u=true then 0 else 2
def aFrame (p f r q k:Int) (u:Bool):Int:=if may r k u=true then wrap64 (f+wrap64 (q-p))else 0
def aRights (r k:Int) (u:Bool):Int:=if may r k u=true then r else 0
def fits (n:Int):Prop:= -9223372036854775808<=n/\n<=9223372036854775807
theorem asks_lt (k:Int) (u:Bool):asks k u<8:=by
 unfold asks;repeat (any_goals split)
 all_goals omega
theorem span_cases (s:Int):(s=0/\span s=1)\/(s=1/\span s=8)\/(s=2/\span s=64)\/(s≠0/\s≠1/\s≠2/\span s=0):=by
 unfold span;split<;>(try split)<;>(try split)<;>omega
theorem span_bd (s:Int):0<=span s/\span s<=64:=by
 rcases span_cases s with h|h|h|h<;>omega
theorem fits_wf {n:Int} (h:(Lit.int .i64 n).wf=true):fits n:=by
 simp only[Lit.wf,IntKind.min,IntKind.max,IntKind.signed,IntKind.bits,Bool.and_eq_true,decide_eq_true_eq,if_true]at h
 unfold fits;omega
theorem over_no {p s q:Int} (h:decide (p<=q)=false):over p s q=false:=by simp[over,h]
theorem over_yes {p s q:Int} (hp:fits p) (hq:fits q) (h:p<=q):decide (IntKind.u64.wrap (wrap64 (q-p))<span s)=over p s q:=by
 unfold fits at hp hq
 rw[u64_of_wrap64 _ (by omega) (by omega)]
 simp[over,h]
theorem may_eq (r k:Int) (u:Bool):(bits .and .i64 r (asks k u:Int)==(asks k u:Int))=may r k u:=by
 rw[band_small r _ (asks_lt k u)]
 unfold may
 rw[Bool.eq_iff_iff]
 simp only[beq_iff_eq]
 exact Int.ofNat_inj
theorem check_kind {p s f r:Int} (h:span s=0):check p s f r=2:=by simp[check,h]
theorem check_range {p s f r:Int} (h:span s≠0) (hb:(!below p 4096|| !below f 1048576|| !below r 8)=true):check p s f r=1:=by
 simp only[check,h,if_false,hb,if_true]
theorem check_align {p s f r:Int} (h:span s≠0) (h1:below p 4096=true) (h2:below f 1048576=true) (h3:below r 8=true):
 check p s f r=if p%span s=0/\f%span s=0 then 0 else 3:=by
 simp[check,h,h1,h2,h3]
theorem zB {n e:Int}:below n e=true ↔ 0<=n/\n<e:=by simp[below]
theorem check_zero {p s f r:Int} (h:check p s f r=0):span s≠0/\0<=p/\p<4096/\0<=f/\f<1048576/\0<=r/\r<8/\p%span s=0/\f%span s=0:=by
 unfold check at h
 split at h
 ·omega
 ·split at h
  ·omega
  ·split at h
   ·rename_i h1 h2 h3
    simp[below]at h2
    refine⟨h1,?_⟩
    obtain⟨h3a,h3b⟩:=h3
    omega
   ·omega
def sameUpto (p q:Int):Nat->Bool
 | 0=>true
 | k+1=>sameUpto p q k&&(index p (k:Int)==index q (k:Int))
def cnt (np ns mp:Int):Nat->Int
 | 0=>0
 | j+1=>cnt np ns mp j+(if over np ns (mp+(j:Int))=true then 1 else 0)
theorem cnt_eq (np ns mp:Int) (j:Nat):cnt np ns mp j=max 0 (min (mp+j) (np+span ns)-max mp np):=by
 have hs:=(span_bd ns).1
 induction j with
 | zero=>simp only[cnt];omega
 | succ j ih=>
   simp only[cnt,ih]
   have e:(over np ns (mp+(j:Int))=true) ↔ (np<=mp+j/\mp+j-np<span ns):=by simp[over]
   by_cases h:np<=mp+(j:Int)/\mp+(j:Int)-np<span ns
   ·rw[if_pos (e.2 h)];omega
   ·rw[if_neg (fun x=>h (e.1 x))];omega
theorem meet_eq (a s b t:Int):meet a s b t=decide ((a<=b/\b-a<span s)\/(b<=a/\a-b<span t)):=by
 rw[Bool.eq_iff_iff];simp[meet,over]
theorem meets {mp ms mf mr np ns nf nr:Int} (h:check mp ms mf mr=0) (h':check np ns nf nr=0):
 (cnt np ns mp (span ms).toNat=0/\meet mp ms np ns=false/\meet np ns mp ms=false)\/
 (0<cnt np ns mp (span ms).toNat/\cnt np ns mp (span ms).toNat=min (span ms) (span ns)/\meet mp ms np ns=true/\meet np ns mp ms=true):=by
 obtain⟨z0,z1,z2,_,_,_,_,z3,_⟩:=check_zero h
 obtain⟨y0,y1,y2,_,_,_,_,y3,_⟩:=check_zero h'
 rw[cnt_eq,meet_eq,meet_eq]
 simp only[decide_eq_false_iff_not,decide_eq_true_eq]
 rcases span_cases ms with ⟨_,hv⟩|⟨_,hv⟩|⟨_,hv⟩|⟨_,_,_,hv⟩<;>rcases span_cases ns with ⟨_,hw⟩|⟨_,hw⟩|⟨_,hw⟩|⟨_,_,_,hw⟩
 all_goals
  rw[hv]at z0 z3
  rw[hw]at y0 y3
  rw[hv,hw]
  omega
theorem below_not {n e:Int}:below n e=false ↔ n<0\/e<=n:=by simp[below];omega
end Pg
open Go.RowKit Go.Sort
set_option linter.unusedVariables false
theorem bcell {W w1:World} (hb:Below W.heap.size W w1):(∀b o,b<W.heap.size->w1.cell? ⟨b,o,none⟩=W.cell? ⟨b,o,none⟩)/\(∀b o,b<W.heap.size->w1.frozen? ⟨b,o,none⟩=W.frozen? ⟨b,o,none⟩):=
 ⟨fun b o h=>hb.cell (p:=⟨b,o,none⟩) h,fun b o h=>hb.frozen (p:=⟨b,o,none⟩) h⟩
theorem zT {w w1 w2:World} (h:Below w.heap.size w w1) (hb:Below w1.heap.size w1 w2):Below w.heap.size w w2:=h.trans (hb.mono h.size)
theorem zA {w w1:World} (h:Below w.heap.size w w1) (o:Obj):Below w.heap.size w (w1.alloc o):=h.alloc h.size o
theorem zR (w:World):Below w.heap.size w w:=Below.refl _ _
theorem below_of_same {P:Program} {f:FuncId} {args:Array Value} {w:World} {v:Value}
 (h:Calls P f args w fun e w'=>e= .returned v/\w'=w):Calls P f args w fun e w'=>e= .returned v/\Below w.heap.size w w':=
 h.mono fun _ _ ⟨he,hw⟩=>⟨he,hw▸zR w⟩
theorem later3 {w w':World} {b:Nat} {v0 v1 v2:Value} (hb:Below w.heap.size w w')
 (h:w.cell? ⟨b,0,none⟩=some v0/\w.cell? ⟨b,1,none⟩=some v1/\w.cell? ⟨b,2,none⟩=some v2):
 w'.cell? ⟨b,0,none⟩=some v0/\w'.cell? ⟨b,1,none⟩=some v1/\w'.cell? ⟨b,2,none⟩=some v2:=
 ⟨cell_later hb h.1,cell_later hb h.2.1,cell_later hb h.2.2⟩
theorem later4 {w w':World} {b:Nat} {v0 v1 v2 v3:Value} (hb:Below w.heap.size w w')
 (h:w.cell? ⟨b,0,none⟩=some v0/\w.cell? ⟨b,1,none⟩=some v1/\w.cell? ⟨b,2,none⟩=some v2/\w.cell? ⟨b,3,none⟩=some v3):
 w'.cell? ⟨b,0,none⟩=some v0/\w'.cell? ⟨b,1,none⟩=some v1/\w'.cell? ⟨b,2,none⟩=some v2/\w'.cell? ⟨b,3,none⟩=some v3:=
 ⟨cell_later hb h.1,cell_later hb h.2.1,cell_later hb h.2.2.1,cell_later hb h.2.2.2⟩
theorem frozen_later {w w':World} {a:Addr} {v:Value} (hb:Below w.heap.size w w') (h:w.cell? a=some v) (hf:w.frozen? a=false):w'.frozen? a=false:=
 (hb.frozen (World.block_lt_of_cell? _ _ h)).trans hf
theorem later6 {w w':World} {b:Nat} {v0 v1 v2 v3 v4 v5:Value} (hb:Below w.heap.size w w')
 (h:w.cell? ⟨b,0,none⟩=some v0/\w.cell? ⟨b,1,none⟩=some v1/\w.cell? ⟨b,2,none⟩=some v2/\w.cell? ⟨b,3,none⟩=some v3/\w.cell? ⟨b,4,none⟩=some v4/\w.cell? ⟨b,5,none⟩=some v5):
 w'.cell? ⟨b,0,none⟩=some v0/\w'.cell? ⟨b,1,none⟩=some v1/\w'.cell? ⟨b,2,none⟩=some v2/\w'.cell? ⟨b,3,none⟩=some v3/\w'.cell? ⟨b,4,none⟩=some v4/\w'.cell? ⟨b,5,none⟩=some v5:=
 ⟨cell_later hb h.1,cell_later hb h.2.1,cell_later hb h.2.2.1,cell_later hb h.2.2.2.1,cell_later hb h.2.2.2.2.1,cell_later hb h.2.2.2.2.2⟩
theorem stored6 {w w':World} {b:Nat} {u0 u1 u2 u3 u4 u5 v0 v1 v2 v3 v4 v5:Value} (hB:Below w.heap.size w w') (hbl:w.heap.size<=b) (h:w'.cell? ⟨b,0,none⟩=some u0/\w'.cell? ⟨b,1,none⟩=some u1/\w'.cell? ⟨b,2,none⟩=some u2/\w'.cell? ⟨b,3,none⟩=some u3/\w'.cell? ⟨b,4,none⟩=some u4/\w'.cell? ⟨b,5,none⟩=some u5):
 Below w.heap.size w ((((((w'.setCell ⟨b,0,none⟩ v0).setCell ⟨b,1,none⟩ v1).setCell ⟨b,2,none⟩ v2).setCell ⟨b,3,none⟩ v3).setCell ⟨b,4,none⟩ v4).setCell ⟨b,5,none⟩ v5)/\
 (((((((w'.setCell ⟨b,0,none⟩ v0).setCell ⟨b,1,none⟩ v1).setCell ⟨b,2,none⟩ v2).setCell ⟨b,3,none⟩ v3).setCell ⟨b,4,none⟩ v4).setCell ⟨b,5,none⟩ v5).cell? ⟨b,0,none⟩=some v0/\((((((w'.setCell ⟨b,0,none⟩ v0).setCell ⟨b,1,none⟩ v1).setCell ⟨b,2,none⟩ v2).setCell ⟨b,3,none⟩ v3).setCell ⟨b,4,none⟩ v4).setCell ⟨b,5,none⟩ v5).cell? ⟨b,1,none⟩=some v1/\((((((w'.setCell ⟨b,0,none⟩ v0).setCell ⟨b,1,none⟩ v1).setCell ⟨b,2,none⟩ v2).setCell ⟨b,3,none⟩ v3).setCell ⟨b,4,none⟩ v4).setCell ⟨b,5,none⟩ v5).cell? ⟨b,2,none⟩=some v2/\((((((w'.setCell ⟨b,0,none⟩ v0).setCell ⟨b,1,none⟩ v1).setCell ⟨b,2,none⟩ v2).setCell ⟨b,3,none⟩ v3).setCell ⟨b,4,none⟩ v4).setCell ⟨b,5,none⟩ v5).cell? ⟨b,3,none⟩=some v3/\((((((w'.setCell ⟨b,0,none⟩ v0).setCell ⟨b,1,none⟩ v1).setCell ⟨b,2,none⟩ v2).setCell ⟨b,3,none⟩ v3).setCell ⟨b,4,none⟩ v4).setCell ⟨b,5,none⟩ v5).cell? ⟨b,4,none⟩=some v4/\((((((w'.setCell ⟨b,0,none⟩ v0).setCell ⟨b,1,none⟩ v1).setCell ⟨b,2,none⟩ v2).setCell ⟨b,3,none⟩ v3).setCell ⟨b,4,none⟩ v4).setCell ⟨b,5,none⟩ v5).cell? ⟨b,5,none⟩=some v5)/\
 (∀c o v,c≠b->w'.cell? ⟨c,o,none⟩=some v->((((((w'.setCell ⟨b,0,none⟩ v0).setCell ⟨b,1,none⟩ v1).setCell ⟨b,2,none⟩ v2).setCell ⟨b,3,none⟩ v3).setCell ⟨b,4,none⟩ v4).setCell ⟨b,5,none⟩ v5).cell? ⟨c,o,none⟩=some v)/\
 (∀c o,((((((w'.setCell ⟨b,0,none⟩ v0).setCell ⟨b,1,none⟩ v1).setCell ⟨b,2,none⟩ v2).setCell ⟨b,3,none⟩ v3).setCell ⟨b,4,none⟩ v4).setCell ⟨b,5,none⟩ v5).frozen? ⟨c,o,none⟩=w'.frozen? ⟨c,o,none⟩):=by
 refine⟨(((((hB.setCell hbl _).setCell hbl _).setCell hbl _).setCell hbl _).setCell hbl _).setCell hbl _,?_,?_,?_⟩
 ·simp[go_sem,h]
 ·intro c o v _ hv
  simp[go_sem,hv]
 ·intro c o
  simp[go_sem]
theorem ret_int {k:IntKind} {a b:Int} (h:a=b):Ending.returned (.int k a)= .returned (.int k b):=by rw[h]
theorem ret_bool {a b:Bool} (h:a=b):Ending.returned (.bool a)= .returned (.bool b):=by rw[h]
theorem wrap_i64_in {n:Int} (h0: -9223372036854775808<=n) (h1:n<=9223372036854775807):IntKind.i64.wrap n=n:=by
 rw[IntKind.wrap_i64]
 omega
theorem alloc3 (w:World) (a b c:Obj):(((w.alloc a).alloc b).alloc c).heap[w.heap.size]?=some a/\(((w.alloc a).alloc b).alloc c).heap[w.heap.size+1]?=some b/\(((w.alloc a).alloc b).alloc c).heap[w.heap.size+1+1]?=some c:=by
 have s1:(w.alloc a).heap.size=w.heap.size+1:=by simp
 have s2:((w.alloc a).alloc b).heap.size=w.heap.size+1+1:=by simp
 refine⟨?_,?_,?_⟩
 ·rw[Below.heap_alloc _ _ _ (by omega),Below.heap_alloc _ _ _ (by omega)]
  exact heap_alloc_new w a
 ·rw[Below.heap_alloc _ _ _ (by omega),<-s1]
  exact heap_alloc_new (w.alloc a) b
 ·rw[<-s2]
  exact heap_alloc_new ((w.alloc a).alloc b) c
structure But (F:Nat->Prop) (w w':World):Prop where
 os:w'.os=w.os
 tape:w'.tape=w.tape
 output:w'.output=w.output
 size:w.heap.size<=w'.heap.size
 block:∀k,k<w.heap.size->¬F k->w'.heap[k]?=w.heap[k]?
namespace But
variable {F G:Nat->Prop} {w w1 w2:World}
theorem refl (F:Nat->Prop) (w:World):But F w w:=⟨rfl,rfl,rfl,Nat.le_refl _,fun _ _ _=>rfl⟩
theorem trans (h:But F w w1) (k:But G w1 w2) (hG:∀i,i<w.heap.size->G i->F i):But F w w2:=
 ⟨k.os.trans h.os,k.tape.trans h.tape,k.output.trans h.output,Nat.le_trans h.size k.size,
  fun i hi hF=>(k.block i (Nat.lt_of_lt_of_le hi h.size) (fun hg=>hF (hG i hi hg))).trans (h.block i hi hF)⟩
theorem mono (h:But F w w1) (hG:∀i,i<w.heap.size->F i->G i):But G w w1:=
 ⟨h.os,h.tape,h.output,h.size,fun i hi hg=>h.block i hi (fun hf=>hg (hG i hi hf))⟩
theorem alloc (h:But F w w1) (o:Obj):But F w (w1.alloc o):=
 ⟨h.os,h.tape,h.output,Nat.le_trans h.size (by simp),fun i hi hF=>(Below.heap_alloc w1 o i (Nat.lt_of_lt_of_le hi h.size)).trans (h.block i hi hF)⟩
theorem drew (h:But F w w1):But F w w1.drew:=⟨h.os,h.tape,h.output,h.size,h.block⟩
theorem setCell (h:But F w w1) {a:Addr} (ha:w.heap.size<=a.block\/F a.block) (v:Value):But F w (w1.setCell a v):=by
 have hb:Below 0 w1 (w1.setCell a v):=(Below.refl 0 w1).setCell (Nat.zero_le _) v
 refine⟨hb.os.trans h.os,hb.tape.trans h.tape,hb.output.trans h.output,Nat.le_trans h.size hb.size,fun i hi hF=> ?_⟩
 refine(Below.heap_setCell w1 a v i ?_).trans (h.block i hi hF)
 rintro rfl
 rcases ha with h'|h'
 ·omega
 ·exact hF h'
theorem grown (h:But F w w1) {row:Option Nat} (hg:w1.grownBy w2 row) (hr:∀k,row=some k->w.heap.size<=k\/F k):But F w w2:=
 ⟨hg.os.trans h.os,hg.tape.trans h.tape,hg.output.trans h.output,Nat.le_trans h.size hg.size,fun i hi hF=>
  (hg.block i (Nat.lt_of_lt_of_le hi h.size) (fun e=>(hr i e.symm).elim (fun h'=>by omega) hF)).trans (h.block i hi hF)⟩
theorem cell (h:But F w w1) {a:Addr} (ha:a.block<w.heap.size) (hF:¬F a.block):w1.cell? a=w.cell? a:=World.cell?_of_block (h.block a.block ha hF)
theorem frozen (h:But F w w1) {a:Addr} (ha:a.block<w.heap.size) (hF:¬F a.block):w1.frozen? a=w.frozen? a:=World.frozen?_of_block (h.block a.block ha hF)
theorem below (h:But F w w1) {B:Nat} (hB:B<=w.heap.size) (hF:∀k,F k->B<=k):Below B w w1:=
 ⟨h.os,h.tape,h.output,h.size,fun k hk=>h.block k (by omega) (fun hf=>by have:=hF k hf;omega)⟩
theorem of_below (h:Below w.heap.size w w1):But F w w1:=⟨h.os,h.tape,h.output,h.size,fun k hk _=>h.block k hk⟩
end But
end Go.Proofs.YtkhnelgommaioaaGreat
