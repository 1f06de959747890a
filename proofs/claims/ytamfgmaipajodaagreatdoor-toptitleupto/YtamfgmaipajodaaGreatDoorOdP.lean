/-
 With how many marks a text begins: norm.marks.
-/
import Derived.Test.YtamfgmaipajodaaGreatDoorNmIns
import Derived.Test.YtamfgmaipajodaaGreatDoorCnThru
import Derived.Test.YtamfgmaipajodaaGreatDoorVLib
import Derived.Test.YtamfgmaipajodaaGreatDoorRows
import Derived.Sort.Lot0
import Derived.Test.YtamfgmaipajodaaGreatDoorCnMath
set_option maxHeartbeats 0
set_option linter.unusedSimpArgs false
set_option linter.unusedVariables false
namespace Go.Proofs.YtamfgmaipajodaaGreatDoor
open Go.RowKit Go.Shelf
set_option maxRecDepth 20000
namespace Nm
def isM (r:Int):Bool:= !decide (cls r=0)
def lead (l:List Int):Nat:=(l.takeWhile isM).length
theorem zun (l:List Int):lead l<=l.length:=(List.takeWhile_prefix isM).length_le
theorem zr7 {l:List Int}(h:∀r∈l,isM r=true):lead l=l.length:=by
 unfold lead
 have e:∀k:List Int,(∀r∈k,isM r=true)->k.takeWhile isM=k:=by
  intro k
  induction k with
  | nil=>intro _;rfl
  | cons x k ih=>intro hk;rw[List.takeWhile_cons_of_pos (hk x List.mem_cons_self),ih fun r hr=>hk r (List.mem_cons_of_mem _ hr)]
 rw[e l h]
theorem zuo {l:List Int}{j:Nat}{x:Int}(hx:l[j]?=some x)(h:∀r∈l.take j,isM r=true)(h0:isM x=false):lead l=j:=by
 have hj:=(qL.1 hx).1
 have e:l=l.take j++x::l.drop (j+1):=by
  have h2:=(qL.1 hx).2;rw[<- h2,<- List.drop_eq_getElem_cons hj,List.take_append_drop]
 unfold lead;rw[e,List.takeWhile_append_of_pos h,List.takeWhile_cons_of_neg (by simp[h0]),List.append_nil,List.length_take];omega
theorem zpo (l:List Int):l.take (lead l)=l.takeWhile isM:=by
 have h:=List.takeWhile_append_dropWhile (p:=isM) (l:=l);unfold lead;generalize l.takeWhile isM=a at h ⊢;rw[<- h,List.take_left]
theorem zpp (l:List Int):l.drop (lead l)=l.dropWhile isM:=by
 have h:=List.takeWhile_append_dropWhile (p:=isM) (l:=l);unfold lead;generalize l.dropWhile isM=b at h ⊢;generalize l.takeWhile isM=a at h ⊢;rw[<- h,List.drop_left]
end Nm
theorem zmm (r:Int)(w:World):Calls Tryz.prog 103 #[.int .i32 r] w fun e w'=>e= .returned (.bool (Nm.isM r))/\w'=w:=by
 have H1:Hid (∀r X,Calls Tryz.prog 49 #[.int .i32 r] X fun e w'=>e= .returned (.int .i64 (Nm.cls r))/\w'=X):=fun r X=>zcz r X
 have HM:Hid (Nm.isM r= !decide (Nm.cls r=0)):=(rfl:Nm.isM r=_);generalize Nm.isM r=b at HM ⊢;generalize Nm.cls=f at H1 HM
 go_enter Tryz.func103,Tryz.ntmps103
 go_wp2_with fail
 refine(H1.out r _).mono ?_;rintro e w1 ⟨rfl,rfl⟩;go_wp2;go_ret;exact⟨L.zak (by rw[HM.out,Bool.eq_iff_iff];simp),rfl⟩
theorem zhr (r:Int)(w:World):Calls Tryz.prog 102 #[.int .i32 r] w fun e w'=>e= .returned (.bool (!Nm.isM r))/\w'=w:=by
 have H1:Hid (∀r X,Calls Tryz.prog 103 #[.int .i32 r] X fun e w'=>e= .returned (.bool (Nm.isM r))/\w'=X):=fun r X=>zmm r X
 generalize Nm.isM=f at H1
 go_enter Tryz.func102,Tryz.ntmps102
 go_wp2_with fail
 refine(H1.out r _).mono ?_;rintro e w1 ⟨rfl,rfl⟩;go_wp2;go_ret;exact⟨rfl,rfl⟩
theorem zjh (w:World)(v:Value)(l:List Int)(R:L.Rd w v .i32 l)(hl:l.length<=1000000) :
  Calls Tryz.prog 55 #[v] w fun e w'=>e= .returned (.int .i64 (Nm.lead l))/\Below w.heap.size w w':=by
 have eg:∀args w,(callFunc 102 args).run Tryz.prog w= .ok (.enter 102 args) w:=enters_of Tryz.func102 (by kernel_rfl) rfl
 have HC:Hid (Calls Tryz.prog 67 #[v,.func (.func 102) #[] #[]] w fun e w'=>∃i:Int,e= .returned (.int .i64 i)/\Cn.Idx l (fun r=> !Nm.isM r) i/\Below w.heap.size w w') :=
  zeu w v l R (by omega) _ #[] _ eg fun W r _ _=>(zhr r W).mono fun e w' ⟨h1,h2⟩=>⟨h1,h2▸qR _⟩
 obtain⟨ao,cap,rfl,_,_⟩:=R
 go_enter Tryz.func55,Tryz.ntmps55
 go_wp2_with fail
 refine HC.out.mono ?_;rintro e w1 ⟨i,rfl,hi,b1⟩;have HB:Hid (Below w.heap.size w w1):=b1;clear b1 HC;rcases hi with ⟨rfl,h⟩|⟨j,x,rfl,hx,h1,h2⟩
 ·have HL:Hid (Nm.lead l=l.length):=Nm.zr7 fun r hr=>by have:=h r hr;simpa using this
  clear h;go_wp2;go_ret;exact⟨by rw[HL.out];rfl,HB.out⟩
 ·have HL:Hid (Nm.lead l=j):=Nm.zuo hx (fun r hr=>by have:=h2 r hr;simpa using this) (by simpa using h1);clear h1 h2 hx;go_wp2;go_ret;exact⟨by rw[HL.out];rfl,HB.out⟩
end Go.Proofs.YtamfgmaipajodaaGreatDoor
namespace Go.Proofs.YtamfgmaipajodaaGreatDoor.Nm
theorem zj6 (r:Int):0<=cls r:=by
 unfold cls
 repeat' split
 all_goals omega
theorem zus {r:Int}:isM r=true↔0<cls r:=by
 unfold isM;have:=zj6 r;simp;omega
def insV:List Int->Int->List Int
 | [],x=> [x]
 | y::r,x=>if 0<cls x/\cls x<cls y then y::insV r x else x::y::r
def insR (out:List Int) (x:Int):List Int:=(insV out.reverse x).reverse
def ssort (M:List Int):List Int:=M.foldl insR []
theorem zk3:∀(r:List Int) (x:Int),(insV r x).length=r.length+1
 | [],x=>rfl
 | y::r,x=>by rw[insV];split <;> simp[zk3 r x]
theorem zsf (out:List Int)(x:Int):(insR out x).length=out.length+1:=by unfold insR;rw[List.length_reverse,zk3,List.length_reverse]
theorem zg4:∀(M out:List Int),(M.foldl insR out).length=out.length+M.length
 | [],out=>by simp
 | x::M,out=>by rw[List.foldl_cons,zg4 M,zsf,List.length_cons];omega
theorem zpv {x:Int}(h:cls x=0):∀r:List Int,insV r x=x::r
 | []=>rfl
 | y::r=>by rw[insV,if_neg (by omega)]
theorem zpx {x:Int}(h:cls x=0)(A:List Int):insR A x=A++ [x]:=by unfold insR;rw[zpv h];simp
theorem zk4 {c x:Int}(hc:cls c=0)(P:List Int):∀B:List Int,insV (B++c::P) x=insV B x++c::P
 | []=>by
  rw[List.nil_append];show (if 0<cls x/\cls x<cls c then c::insV P x else x::c::P)=_;rw[if_neg (by have:=zj6 x;omega)];rfl
 | y::B=>by
  rw[List.cons_append,insV,insV];split
  ·rw[zk4 hc P B];rfl
  ·rfl
def Ends (A:List Int):Prop:=A= []∨∃A0 c,A=A0++ [c]/\cls c=0
theorem zsg {A:List Int}(h:Ends A)(B:List Int)(x:Int):insR (A++B) x=A++insR B x:=by
 rcases h with rfl | ⟨A0,c,rfl,hc⟩
 ·simp
 ·unfold insR;have e:(A0++ [c]++B).reverse=B.reverse++c::A0.reverse:=by simp
  rw[e,zk4 hc];simp
theorem zk7 {A:List Int}(h:Ends A):∀(M B:List Int),M.foldl insR (A++B)=A++M.foldl insR B
 | [],B=>rfl
 | x::M,B=>by rw[List.foldl_cons,List.foldl_cons,zsg h,zk7 h M]
theorem zsm {A:List Int}(h:Ends A)(M:List Int):M.foldl insR A=A++ssort M:=by
 have:=zk7 h M []
 rwa [List.append_nil] at this
theorem zf6 (x:Int):∀r:List Int,∃B A,r=B++A/\insV r x=B++x::A/\(∀y∈B,0<cls x/\cls x<cls y)/\(A= []∨∃z A0,A=z::A0/\¬(0<cls x/\cls x<cls z))
 | []=>⟨[],[],rfl,rfl,fun y hy=>(by (cases hy)),.inl rfl⟩
 | y::r=>by
  by_cases h:0<cls x/\cls x<cls y
  ·obtain⟨B,A,h1,h2,h3,h4⟩:=zf6 x r;refine⟨y::B,A,by rw[h1];rfl,by rw[insV,if_pos h,h2];rfl,fun z hz=> ?_,h4⟩;rcases List.mem_cons.1 hz with rfl | hz
   ·exact h
   ·exact h3 z hz
  ·exact⟨[],y::r,rfl,by rw[insV,if_neg h];rfl,fun y hy=>by (cases hy),.inr ⟨y,r,rfl,h⟩⟩
theorem zm1 (out:List Int)(x:Int):∃A B,out=A++B/\insR out x=A++x::B/\(∀y∈B,0<cls x/\cls x<cls y)/\(A= []∨∃A0 z,A=A0++ [z]/\¬(0<cls x/\cls x<cls z)):=by
 obtain⟨B,A,h1,h2,h3,h4⟩:=zf6 x out.reverse;refine⟨A.reverse,B.reverse,?_,?_,fun y hy=>h3 y (List.mem_reverse.1 hy),?_⟩
 ·have:=congrArg List.reverse h1;simpa using this
 ·unfold insR;rw[h2];simp
 ·rcases h4 with rfl | ⟨z,A0,rfl,h⟩
  ·exact .inl rfl
  ·exact .inr ⟨A0.reverse,z,by simp,h⟩
theorem zpy {out:List Int}{x:Int}(hx:0<cls x)(h:Srt out):Srt (insR out x)/\Eqv (out++ [x]) (insR out x):=by
 obtain⟨A,B,rfl,e,h3,h4⟩:=zm1 out x;rw[e];refine⟨zjc h (fun u hu=> ?_) fun u hu=>(h3 u hu).2,zjd fun u hu=>(h3 u hu).2⟩;rcases h4 with rfl | ⟨A0,z,rfl,h5⟩
 ·cases hu
 ·rcases List.mem_append.1 hu with h6 | h6
  ·have:=h.parts.1.ahead h6;omega
  ·simp at h6;subst h6;omega
theorem zh7:∀(M out:List Int),(∀x∈M,0<cls x)->Srt out->Srt (M.foldl insR out)/\Eqv (out++M) (M.foldl insR out)
 | [],out,_,h=>⟨h,by rw[List.append_nil];exact Eqv.refl _⟩
 | x::M,out,hM,h=>by
  obtain⟨h1,h2⟩:=zpy (hM x List.mem_cons_self) h;obtain⟨h3,h4⟩:=zh7 M (insR out x) (fun y hy=>hM y (List.mem_cons_of_mem _ hy)) h1;refine⟨h3,?_⟩;have e:out++x::M=(out++ [x])++M:=by simp
  rw[e,List.foldl_cons];exact(h2.app (Eqv.refl M)).trans h4
theorem zrc {M S:List Int}(hM:∀x∈M,isM x=true)(h1:Srt S)(h2:Eqv M S):S=ssort M:=by
 obtain⟨h3,h4⟩:=zh7 M [] (fun x hx=>zus.1 (hM x hx)) Srt.nil;rw[List.nil_append] at h4;exact uniq h1 h3 (h2.symm.trans h4)
theorem zlx (l:List Int):∀x∈l.takeWhile isM,isM x=true:=by
 intro x hx
 induction l with
 | nil=>cases hx
 | cons y l ih =>
  rw[List.takeWhile_cons] at hx;split at hx
  ·rcases List.mem_cons.1 hx with rfl | hx
   ·assumption
   ·exact ih hx
  ·cases hx
theorem zqj {l t:List Int}{c:Int}(h:l.dropWhile isM=c::t):cls c=0:=by
 induction l with
 | nil=>cases h
 | cons y l ih =>
  rw[List.dropWhile_cons] at h;split at h
  ·exact ih h
  ·rename_i hy
   cases h;unfold isM at hy;simpa using hy
end Go.Proofs.YtamfgmaipajodaaGreatDoor.Nm
namespace Go.Proofs.YtamfgmaipajodaaGreatDoor
namespace Nm
def apartF (l:List Int):List Int×Int:=if K.textE l≠0 then ([],K.textE l) else if 4000<(l.flatMap fl).length then ([],4) else ((l.flatMap fl).foldl insR [],0)
theorem zsn (l:List Int):(l.flatMap fl).length<=3*l.length:=by
 induction l with
 | nil=>simp
 | cons r l ih=>have:=zvo r;rw[List.flatMap_cons,List.length_append,List.length_cons];omega
theorem zix {l:List Int}(h:K.textE l=0):l.length<=4000/\∀r∈l,0<=r/\r<=1114111:=by
 unfold K.textE at h;split at h
 ·cases h
 ·split at h
  ·rename_i h1 h2
   refine⟨by omega,fun r hr=> ?_⟩;have h3:=List.all_eq_true.1 h2 r hr;unfold M.right at h3;have:=of_decide_eq_true h3;omega
  ·cases h
theorem zih (l:List Int):(apartF l).1.length<=4000:=by
 unfold apartF;split
 ·simp
 ·split
  ·simp
  ·rw[zg4,List.length_nil];omega
end Nm
end Go.Proofs.YtamfgmaipajodaaGreatDoor
namespace Go.Proofs.YtamfgmaipajodaaGreatDoor.Od
open Go.Sort
class Ck where
 cls:Int->Int
 ok:Int->Prop
 kb:Nat
export Ck (cls ok)
variable [Ck]
def cmp (x y:Int):Int:=if cls x<cls y then -1 else if cls y<cls x then 1 else 0
theorem zic {x y:Int}:cmp x y<0↔cls x<cls y:=by
 unfold cmp
 by_cases h:cls x<cls y
 ·simp[h]
 ·rw[if_neg h];split <;> simp[h]
def Srt (l:List Int):Prop:=l.Pairwise fun a b=>cls a<=cls b
def Eqv (a b:List Int):Prop:=∀c,a.filter (fun x=>cls x==c)=b.filter (fun x=>cls x==c)
theorem Eqv.refl (a:List Int):Eqv a a:=fun _=>rfl
theorem Eqv.symm {a b:List Int}(h:Eqv a b):Eqv b a:=fun c=>(h c).symm
theorem Eqv.trans {a b c:List Int}(h:Eqv a b)(h':Eqv b c):Eqv a c:=fun z=>(h z).trans (h' z)
theorem Eqv.app {a b c d:List Int}(h:Eqv a b)(h':Eqv c d):Eqv (a++c) (b++d):=fun z=>by rw[List.filter_append,List.filter_append,h z,h' z]
theorem Eqv.rot {U V:List Int}(h:∀x∈U,∀y∈V,cls y<cls x):Eqv (U++V) (V++U):=fun c=>by
 rw[List.filter_append,List.filter_append]
 by_cases hu:∃x∈U,cls x=c
 ·obtain⟨x,hx,rfl⟩:=hu;have:V.filter (fun y=>cls y==cls x)= []:=List.filter_eq_nil_iff.2 fun y hy=>by have:=h x hx y hy;simp;omega
  rw[this];simp
 ·have:U.filter (fun y=>cls y==c)= []:=List.filter_eq_nil_iff.2 fun y hy=>by simp;intro e;exact hu ⟨y,hy,e⟩
  rw[this];simp
theorem Eqv.mem {a b:List Int}(h:Eqv a b){x:Int}(hx:x∈a):x∈b:=by
 have h1:x∈a.filter (fun y=>cls y==cls x):=List.mem_filter.2 ⟨hx,by simp⟩;rw[h] at h1;exact(List.mem_filter.1 h1).1
theorem uniq:∀ {a b:List Int},Srt a->Srt b->Eqv a b->a=b
 | [],b,_,_,h=>by
  cases b with
  | nil=>rfl
  | cons y b=>exact absurd (h.symm.mem (List.mem_cons_self ..)) (by simp)
 | x::a,[],_,_,h=>absurd (h.mem (List.mem_cons_self ..)) (by simp)
 | x::a,y::b,ha,hb,h=>by
  have ha':=List.pairwise_cons.1 ha;have hb':=List.pairwise_cons.1 hb
  have h1:cls y<=cls x:=by
   rcases List.mem_cons.1 (h.mem (List.mem_cons_self ..)) with e | e
   ·rw[e];exact Int.le_refl _
   ·exact hb'.1 x e
  have h2:cls x<=cls y:=by
   rcases List.mem_cons.1 (h.symm.mem (List.mem_cons_self ..)) with e | e
   ·rw[e];exact Int.le_refl _
   ·exact ha'.1 y e
  have e:cls x=cls y:=by omega
  have h3:=h (cls x);rw[List.filter_cons_of_pos (by simp),List.filter_cons_of_pos (by simp[e])] at h3;obtain⟨rfl,_⟩:=List.cons.inj h3;congr 1;refine uniq ha'.2 hb'.2 fun c=> ?_
  have h4:=h c
  by_cases hc:cls x=c
  ·rw[List.filter_cons_of_pos (by simp[hc]),List.filter_cons_of_pos (by simp[hc])] at h4;exact(List.cons.inj h4).2
  ·rw[List.filter_cons_of_neg (by simp[hc]),List.filter_cons_of_neg (by simp[hc])] at h4;exact h4
theorem Srt.app {a b:List Int}(ha:Srt a)(hb:Srt b)(h:∀x∈a,∀y∈b,cls x<=cls y):Srt (a++b):=List.pairwise_append.2 ⟨ha,hb,h⟩
theorem Srt.parts {a b:List Int}(h:Srt (a++b)):Srt a/\Srt b/\∀x∈a,∀y∈b,cls x<=cls y:=List.pairwise_append.1 h
theorem Srt.one (x:Int):Srt [x]:=List.pairwise_singleton _ _
theorem Srt.nil:Srt []:=List.Pairwise.nil
theorem Srt.ahead {a b:List Int}{y:Int}(h:Srt (a++y::b)){x:Int}(hx:x∈a):cls x<=cls y:=h.parts.2.2 x hx y (List.mem_cons_self ..)
theorem Srt.behind {a b:List Int}{y:Int}(h:Srt (a++y::b)){x:Int}(hx:x∈b):cls y<=cls x:=(List.pairwise_cons.1 h.parts.2.1).1 x hx
end Go.Proofs.YtamfgmaipajodaaGreatDoor.Od
namespace Go.Proofs.YtamfgmaipajodaaGreatDoor.Od
abbrev K3:=List Int×List Int×List Int
def g01 (r:Int):Int:=if Cn.low r=r then 0 else 1
def kstep (k:K3) (r:Int):K3:=if 0<Nm.cls r then (k.1,k.2.1++ [r],k.2.2) else (k.1++ [Cn.low r],k.2.1++ [0],k.2.2++ [g01 r])
def keyL (t:List Int):K3:=t.foldl kstep ([],[],[])
def keyF (l:List Int):K3×Int:=if (Nm.apartF l).2≠0 then (([],[],[]),(Nm.apartF l).2) else (keyL (Nm.apartF l).1,0)
theorem zpq (k:K3)(r:Int):(kstep k r).1.length<=k.1.length+1/\(kstep k r).2.1.length<=k.2.1.length+1/\(kstep k r).2.2.length<=k.2.2.length+1:=by
 unfold kstep;split <;> simp
theorem ze5:∀(t:List Int) (k:K3),(t.foldl kstep k).1.length<=k.1.length+t.length/\(t.foldl kstep k).2.1.length<=k.2.1.length+t.length/\(t.foldl kstep k).2.2.length<=k.2.2.length+t.length
 | [],k=>by simp
 | r::t,k=>by
  have h1:=ze5 t (kstep k r);have h2:=zpq k r;simp only[List.foldl_cons,List.length_cons];omega
theorem zup (l:List Int)(h:(Nm.apartF l).1.length<=4000):(keyF l).1.1.length<=4000/\(keyF l).1.2.1.length<=4000/\(keyF l).1.2.2.length<=4000:=by
 unfold keyF;split
 ·simp
 ·have:=ze5 (Nm.apartF l).1 ([],[],[]);unfold keyL;simp only[List.length_nil] at this ⊢;omega
def cmpL:List Int->List Int->Int
 | [],[]=>0
 | [],_::_=> -1
 | _::_,[]=>1
 | x::a,y::b=>if x<y then -1 else if y<x then 1 else cmpL a b
def cmpK (a b:K3):Int:=if cmpL a.1 b.1≠0 then cmpL a.1 b.1 else if cmpL a.2.1 b.2.1≠0 then cmpL a.2.1 b.2.1 else cmpL a.2.2 b.2.2
def rank (ks:List K3) (x:K3):Int:=(ks.countP fun k=>decide (cmpK k x<0):Nat)
abbrev ckOf (ks:List K3) (kb:Nat):Ck:=⟨fun x=>match ks[x.toNat]? with | some k=>rank ks k | none=>0,fun x=>0<=x/\x<ks.length,kb⟩
def places (n:Nat):List Int:=(List.range n).map fun k:Nat=>(k:Int)
def badN:Nat->List (List Int)->Int×Int
 | _,[]=>(0,0)
 | k,t::r=>if (keyF t).2≠0 then ((keyF t).2,(k:Int)) else badN (k+1) r
def keysL (l:List (List Int)):List K3:=l.map fun t=>(keyF t).1
def cmpF (a b:List Int):Int×Int:=if (keyF a).2≠0 then (0,(keyF a).2) else if (keyF b).2≠0 then (0,(keyF b).2) else (cmpK (keyF a).1 (keyF b).1,0)
def wrongS (l:List (List Int)):Int×Int:=if 100<l.length then (5,0) else badN 0 l
end Go.Proofs.YtamfgmaipajodaaGreatDoor.Od
