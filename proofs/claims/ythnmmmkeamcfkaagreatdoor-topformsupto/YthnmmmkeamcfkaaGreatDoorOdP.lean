import Derived.Test.YthnmmmkeamcfkaaGreatDoorNmIns
import Derived.Test.YthnmmmkeamcfkaaGreatDoorMSets
set_option maxHeartbeats 0
set_option linter.unusedSimpArgs false
set_option linter.unusedVariables false
namespace Go.Proofs.YthnmmmkeamcfkaaGreatDoor
open Go.Proofs.Tryz
section
open Go.RowKit Go.Shelf
set_option maxRecDepth 20000
namespace Nm
def isM (r:Int):Bool:= !decide (cls r=0)
def lead (l:List Int):Nat:=(l.takeWhile isM).length
theorem zkk (l:List Int):lead l<=l.length:=(List.takeWhile_prefix isM).length_le
theorem zt8 {l:List Int}(h:∀r∈l,isM r=true):lead l=l.length:=by
 unfold lead
 have e:∀k:List Int,(∀r∈k,isM r=true)->k.takeWhile isM=k:=by
  intro k
  induction k with
  | nil=>intro _;rfl
  | cons x k ih=>intro hk;rw[List.takeWhile_cons_of_pos (hk x List.mem_cons_self),ih fun r hr=>hk r (List.mem_cons_of_mem _ hr)]
 rw[e l h]
theorem zwv {l:List Int}{j:Nat}{x:Int}(hx:l[j]?=some x)(h:∀r∈l.take j,isM r=true)(h0:isM x=false):lead l=j:=by
 have hj:=(qL.1 hx).1
 have e:l=l.take j++x::l.drop (j+1):=by
  have h2:=(qL.1 hx).2;rw[<- h2,<- List.drop_eq_getElem_cons hj,List.take_append_drop]
 unfold lead;rw[e,List.takeWhile_append_of_pos h,List.takeWhile_cons_of_neg (by simp[h0]),List.append_nil,List.length_take];omega
theorem zfp (l:List Int):l.take (lead l)=l.takeWhile isM:=by
 have h:=List.takeWhile_append_dropWhile (p:=isM) (l:=l);unfold lead;generalize l.takeWhile isM=a at h ⊢;rw[<- h,List.take_left]
theorem zca (l:List Int):l.drop (lead l)=l.dropWhile isM:=by
 have h:=List.takeWhile_append_dropWhile (p:=isM) (l:=l);unfold lead;generalize l.dropWhile isM=b at h ⊢;generalize l.takeWhile isM=a at h ⊢;rw[<- h,List.drop_left]
end Nm
theorem zn0 (r:Int)(w:World):Calls prog 99 #[.int .i32 r] w fun e w'=>e= .returned (.bool (Nm.isM r))/\w'=w:=by
 have H1:=qH <| fun r X=>zcj r X
 have HM:Hid (Nm.isM r= !decide (Nm.cls r=0)):=(rfl:Nm.isM r=_);generalize Nm.isM r=b at HM ⊢;generalize Nm.cls=f at H1 HM
 go_enter func99,ntmps99
 go_wp2_with fail
 refine(H1.out r _).mono ?_;rintro e w1 ⟨rfl,rfl⟩;go_wp2;go_ret;exact⟨L.zak (by rw[HM.out,Bool.eq_iff_iff];simp),rfl⟩
theorem zit (r:Int)(w:World):Calls prog 98 #[.int .i32 r] w fun e w'=>e= .returned (.bool (!Nm.isM r))/\w'=w:=by
 have H1:=qH <| fun r X=>zn0 r X
 generalize Nm.isM=f at H1
 go_enter func98,ntmps98
 go_wp2_with fail
 refine(H1.out r _).mono ?_;rintro e w1 ⟨rfl,rfl⟩;go_wp2;go_ret;exact⟨rfl,rfl⟩
theorem zdf (w:World)(v:Value)(l:List Int)(R:L.Rd w v .i32 l)(hl:l.length<=1000000) :
  Calls prog 49 #[v] w fun e w'=>e= .returned (.int .i64 (Nm.lead l))/\Below w.heap.size w w':=by
 have eg:∀args w,(callFunc 98 args).run prog w= .ok (.enter 98 args) w:=enters_of func98 (by kernel_rfl) rfl
 have HC:Hid (Calls prog 65 #[v,.func (.func 98) #[] #[]] w fun e w'=>∃i:Int,e= .returned (.int .i64 i)/\Cn.Idx l (fun r=> !Nm.isM r) i/\Below w.heap.size w w') :=
  zfd w v l R (by omega) _ #[] _ eg fun W r _ _=>(zit r W).mono fun e w' ⟨h1,h2⟩=>⟨h1,h2▸qR _⟩
 obtain⟨ao,cap,rfl,_,_⟩:=R
 go_enter func49,ntmps49
 go_wp2_with fail
 refine HC.out.mono ?_;rintro e w1 ⟨i,rfl,hi,b1⟩;have HB:=qH b1;clear b1 HC;rcases hi with ⟨rfl,h⟩|⟨j,x,rfl,hx,h1,h2⟩
 ·have HL:=qH <| Nm.zt8 fun r hr=>by have:=h r hr;simpa using this
  clear h;go_wp2;go_ret;exact⟨by rw[HL.out];rfl,HB.out⟩
 ·have HL:=qH <| Nm.zwv hx (fun r hr=>by have:=h2 r hr;simpa using this) (by simpa using h1);clear h1 h2 hx;go_wp2;go_ret;exact⟨by rw[HL.out];rfl,HB.out⟩
end
namespace Nm
theorem zh4 (r:Int):0<=cls r:=by
 unfold cls
 repeat' split
 all_goals omega
theorem zko {r:Int}:isM r=true↔0<cls r:=by
 unfold isM;have:=zh4 r;simp;omega
def insV:List Int->Int->List Int
 | [],x=> [x]
 | y::r,x=>if 0<cls x/\cls x<cls y then y::insV r x else x::y::r
def insR (out:List Int) (x:Int):List Int:=(insV out.reverse x).reverse
def ssort (M:List Int):List Int:=M.foldl insR []
theorem zl5:∀(r:List Int) (x:Int),(insV r x).length=r.length+1
 | [],x=>rfl
 | y::r,x=>by rw[insV];split <;> simp[zl5 r x]
theorem zuo (out:List Int)(x:Int):(insR out x).length=out.length+1:=by unfold insR;rw[List.length_reverse,zl5,List.length_reverse]
theorem zew:∀(M out:List Int),(M.foldl insR out).length=out.length+M.length
 | [],out=>by simp
 | x::M,out=>by rw[List.foldl_cons,zew M,zuo,List.length_cons];omega
theorem zrn {x:Int}(h:cls x=0):∀r:List Int,insV r x=x::r
 | []=>rfl
 | y::r=>by rw[insV,if_neg (by omega)]
theorem zi5 {x:Int}(h:cls x=0)(A:List Int):insR A x=A++ [x]:=by unfold insR;rw[zrn h];simp
theorem zl6 {c x:Int}(hc:cls c=0)(P:List Int):∀B:List Int,insV (B++c::P) x=insV B x++c::P
 | []=>by
  rw[List.nil_append];show (if 0<cls x/\cls x<cls c then c::insV P x else x::c::P)=_;rw[if_neg (by have:=zh4 x;omega)];rfl
 | y::B=>by
  rw[List.cons_append,insV,insV];split
  ·rw[zl6 hc P B];rfl
  ·rfl
def Ends (A:List Int):Prop:=A= []∨∃A0 c,A=A0++ [c]/\cls c=0
theorem zup {A:List Int}(h:Ends A)(B:List Int)(x:Int):insR (A++B) x=A++insR B x:=by
 rcases h with rfl | ⟨A0,c,rfl,hc⟩
 ·simp
 ·unfold insR;have e:(A0++ [c]++B).reverse=B.reverse++c::A0.reverse:=by simp
  rw[e,zl6 hc];simp
theorem zl8 {A:List Int}(h:Ends A):∀(M B:List Int),M.foldl insR (A++B)=A++M.foldl insR B
 | [],B=>rfl
 | x::M,B=>by rw[List.foldl_cons,List.foldl_cons,zup h,zl8 h M]
theorem zl7 {A:List Int}(h:Ends A)(M:List Int):M.foldl insR A=A++ssort M:=by
 have:=zl8 h M []
 rwa [List.append_nil] at this
theorem zgt (x:Int):∀r:List Int,∃B A,r=B++A/\insV r x=B++x::A/\(∀y∈B,0<cls x/\cls x<cls y)/\(A= []∨∃z A0,A=z::A0/\¬(0<cls x/\cls x<cls z))
 | []=>⟨[],[],rfl,rfl,fun y hy=>(by (cases hy)),.inl rfl⟩
 | y::r=>by
  by_cases h:0<cls x/\cls x<cls y
  ·obtain⟨B,A,h1,h2,h3,h4⟩:=zgt x r;refine⟨y::B,A,by rw[h1];rfl,by rw[insV,if_pos h,h2];rfl,fun z hz=> ?_,h4⟩;rcases List.mem_cons.1 hz with rfl | hz
   ·exact h
   ·exact h3 z hz
  ·exact⟨[],y::r,rfl,by rw[insV,if_neg h];rfl,fun y hy=>by (cases hy),.inr ⟨y,r,rfl,h⟩⟩
theorem zoh (out:List Int)(x:Int):∃A B,out=A++B/\insR out x=A++x::B/\(∀y∈B,0<cls x/\cls x<cls y)/\(A= []∨∃A0 z,A=A0++ [z]/\¬(0<cls x/\cls x<cls z)):=by
 obtain⟨B,A,h1,h2,h3,h4⟩:=zgt x out.reverse;refine⟨A.reverse,B.reverse,?_,?_,fun y hy=>h3 y (List.mem_reverse.1 hy),?_⟩
 ·have:=congrArg List.reverse h1;simpa using this
 ·unfold insR;rw[h2];simp
 ·rcases h4 with rfl | ⟨z,A0,rfl,h⟩
  ·exact .inl rfl
  ·exact .inr ⟨A0.reverse,z,by simp,h⟩
theorem zrp {out:List Int}{x:Int}(hx:0<cls x)(h:Srt out):Srt (insR out x)/\Eqv (out++ [x]) (insR out x):=by
 obtain⟨A,B,rfl,e,h3,h4⟩:=zoh out x;rw[e];refine⟨zc9 h (fun u hu=> ?_) fun u hu=>(h3 u hu).2,zda fun u hu=>(h3 u hu).2⟩;rcases h4 with rfl | ⟨A0,z,rfl,h5⟩
 ·cases hu
 ·rcases List.mem_append.1 hu with h6 | h6
  ·have:=h.parts.1.ahead h6;omega
  ·simp at h6;subst h6;omega
theorem zjb:∀(M out:List Int),(∀x∈M,0<cls x)->Srt out->Srt (M.foldl insR out)/\Eqv (out++M) (M.foldl insR out)
 | [],out,_,h=>⟨h,by rw[List.append_nil];exact Eqv.refl _⟩
 | x::M,out,hM,h=>by
  obtain⟨h1,h2⟩:=zrp (hM x List.mem_cons_self) h;obtain⟨h3,h4⟩:=zjb M (insR out x) (fun y hy=>hM y (List.mem_cons_of_mem _ hy)) h1;refine⟨h3,?_⟩;have e:out++x::M=(out++ [x])++M:=by simp
  rw[e,List.foldl_cons];exact(h2.app (Eqv.refl M)).trans h4
theorem zlk {M S:List Int}(hM:∀x∈M,isM x=true)(h1:Srt S)(h2:Eqv M S):S=ssort M:=by
 obtain⟨h3,h4⟩:=zjb M [] (fun x hx=>zko.1 (hM x hx)) Srt.nil;rw[List.nil_append] at h4;exact uniq h1 h3 (h2.symm.trans h4)
theorem zb5 (l:List Int):∀x∈l.takeWhile isM,isM x=true:=by
 intro x hx
 induction l with
 | nil=>cases hx
 | cons y l ih =>
  rw[List.takeWhile_cons] at hx;split at hx
  ·rcases List.mem_cons.1 hx with rfl | hx
   ·assumption
   ·exact ih hx
  ·cases hx
theorem zsd {l t:List Int}{c:Int}(h:l.dropWhile isM=c::t):cls c=0:=by
 induction l with
 | nil=>cases h
 | cons y l ih =>
  rw[List.dropWhile_cons] at h;split at h
  ·exact ih h
  ·rename_i hy
   cases h;unfold isM at hy;simpa using hy
end Nm
section
namespace Nm
def apartF (l:List Int):List Int×Int:=if K.textE l≠0 then ([],K.textE l) else if 4000<(l.flatMap fl).length then ([],4) else ((l.flatMap fl).foldl insR [],0)
theorem zuw (l:List Int):(l.flatMap fl).length<=3*l.length:=by
 induction l with
 | nil=>simp
 | cons r l ih=>have:=zxs r;rw[List.flatMap_cons,List.length_append,List.length_cons];omega
theorem zpr {l:List Int}(h:K.textE l=0):l.length<=4000/\∀r∈l,0<=r/\r<=1114111:=by
 unfold K.textE at h;split at h
 ·cases h
 ·split at h
  ·rename_i h1 h2
   refine⟨by omega,fun r hr=> ?_⟩;have h3:=List.all_eq_true.1 h2 r hr;unfold M.right at h3;have:=of_decide_eq_true h3;omega
  ·cases h
theorem zcf (l:List Int):(apartF l).1.length<=4000:=by
 unfold apartF;split
 ·simp
 ·split
  ·simp
  ·rw[zew,List.length_nil];omega
end Nm
end
namespace Od
open Go.Sort
class Ck where
 cls:Int->Int
 ok:Int->Prop
 kb:Nat
export Ck (cls ok)
variable [Ck]
def cmp (x y:Int):Int:=if cls x<cls y then -1 else if cls y<cls x then 1 else 0
theorem zd7 {x y:Int}:cmp x y<0↔cls x<cls y:=by
 unfold cmp
 by_cases h:cls x<cls y
 ·simp[h]
 ·rw[if_neg h];split <;> simp[h]
def Srt (l:List Int):Prop:=l.Pairwise fun a b=>cls a<=cls b
def Eqv (a b:List Int):Prop:=∀c,a.filter (fun x=>cls x==c)=b.filter (fun x=>cls x==c)
theorem Eqv.refl (a:List Int):Eqv a a:=fun _=>rfl
theorem Eqv.symm {a b:List Int}(h:Eqv a b):Eqv b a:=fun c=>(h c).symm
theorem Eqv.trans {a b c:List Int}(h:Eqv a b)(h':Eqv b c):Eqv a c:=fun z=>(h z).trans (h' z)
theorem Eqv.app {a b c d:List Int}(h:Eqv a b)(h':Eqv c d):Eqv (a++c) (b++d):=fun z=>by rw[List.filter_append,List.filter_append,h z,h' z]
theorem Eqv.rot {U V:List Int}(h:∀x∈U,∀y∈V,cls y<cls x):Eqv (U++V) (V++U):=fun c=>by
 rw[List.filter_append,List.filter_append]
 by_cases hu:∃x∈U,cls x=c
 ·obtain⟨x,hx,rfl⟩:=hu;have:V.filter (fun y=>cls y==cls x)= []:=List.filter_eq_nil_iff.2 fun y hy=>by have:=h x hx y hy;simp;omega
  rw[this];simp
 ·have:U.filter (fun y=>cls y==c)= []:=List.filter_eq_nil_iff.2 fun y hy=>by simp;intro e;exact hu ⟨y,hy,e⟩
  rw[this];simp
theorem Eqv.mem {a b:List Int}(h:Eqv a b){x:Int}(hx:x∈a):x∈b:=by
 have h1:x∈a.filter (fun y=>cls y==cls x):=List.mem_filter.2 ⟨hx,by simp⟩;rw[h] at h1;exact(List.mem_filter.1 h1).1
theorem uniq:∀ {a b:List Int},Srt a->Srt b->Eqv a b->a=b
 | [],b,_,_,h=>by
  cases b with
  | nil=>rfl
  | cons y b=>exact absurd (h.symm.mem (List.mem_cons_self ..)) (by simp)
 | x::a,[],_,_,h=>absurd (h.mem (List.mem_cons_self ..)) (by simp)
 | x::a,y::b,ha,hb,h=>by
  have ha':=List.pairwise_cons.1 ha;have hb':=List.pairwise_cons.1 hb
  have h1:cls y<=cls x:=by
   rcases List.mem_cons.1 (h.mem (List.mem_cons_self ..)) with e | e
   ·rw[e];exact Int.le_refl _
   ·exact hb'.1 x e
  have h2:cls x<=cls y:=by
   rcases List.mem_cons.1 (h.symm.mem (List.mem_cons_self ..)) with e | e
   ·rw[e];exact Int.le_refl _
   ·exact ha'.1 y e
  have e:cls x=cls y:=by omega
  have h3:=h (cls x);rw[List.filter_cons_of_pos (by simp),List.filter_cons_of_pos (by simp[e])] at h3;obtain⟨rfl,_⟩:=List.cons.inj h3;congr 1;refine uniq ha'.2 hb'.2 fun c=> ?_
  have h4:=h c
  by_cases hc:cls x=c
  ·rw[List.filter_cons_of_pos (by simp[hc]),List.filter_cons_of_pos (by simp[hc])] at h4;exact(List.cons.inj h4).2
  ·rw[List.filter_cons_of_neg (by simp[hc]),List.filter_cons_of_neg (by simp[hc])] at h4;exact h4
theorem Srt.app {a b:List Int}(ha:Srt a)(hb:Srt b)(h:∀x∈a,∀y∈b,cls x<=cls y):Srt (a++b):=List.pairwise_append.2 ⟨ha,hb,h⟩
theorem Srt.parts {a b:List Int}(h:Srt (a++b)):Srt a/\Srt b/\∀x∈a,∀y∈b,cls x<=cls y:=List.pairwise_append.1 h
theorem Srt.one (x:Int):Srt [x]:=List.pairwise_singleton _ _
theorem Srt.nil:Srt []:=List.Pairwise.nil
theorem Srt.ahead {a b:List Int}{y:Int}(h:Srt (a++y::b)){x:Int}(hx:x∈a):cls x<=cls y:=h.parts.2.2 x hx y (List.mem_cons_self ..)
theorem Srt.behind {a b:List Int}{y:Int}(h:Srt (a++y::b)){x:Int}(hx:x∈b):cls y<=cls x:=(List.pairwise_cons.1 h.parts.2.1).1 x hx
end Od
namespace Od
abbrev K3:=List Int×List Int×List Int
def g01 (r:Int):Int:=if Cn.low r=r then 0 else 1
def kstep (k:K3) (r:Int):K3:=if 0<Nm.cls r then (k.1,k.2.1++ [r],k.2.2) else (k.1++ [Cn.low r],k.2.1++ [0],k.2.2++ [g01 r])
def keyL (t:List Int):K3:=t.foldl kstep ([],[],[])
def keyF (l:List Int):K3×Int:=if (Nm.apartF l).2≠0 then (([],[],[]),(Nm.apartF l).2) else (keyL (Nm.apartF l).1,0)
theorem zrh (k:K3)(r:Int):(kstep k r).1.length<=k.1.length+1/\(kstep k r).2.1.length<=k.2.1.length+1/\(kstep k r).2.2.length<=k.2.2.length+1:=by
 unfold kstep;split <;> simp
theorem zfq:∀(t:List Int) (k:K3),(t.foldl kstep k).1.length<=k.1.length+t.length/\(t.foldl kstep k).2.1.length<=k.2.1.length+t.length/\(t.foldl kstep k).2.2.length<=k.2.2.length+t.length
 | [],k=>by simp
 | r::t,k=>by
  have h1:=zfq t (kstep k r);have h2:=zrh k r;simp only[List.foldl_cons,List.length_cons];omega
theorem zwy (l:List Int)(h:(Nm.apartF l).1.length<=4000):(keyF l).1.1.length<=4000/\(keyF l).1.2.1.length<=4000/\(keyF l).1.2.2.length<=4000:=by
 unfold keyF;split
 ·simp
 ·have:=zfq (Nm.apartF l).1 ([],[],[]);unfold keyL;simp only[List.length_nil] at this ⊢;omega
def cmpL:List Int->List Int->Int
 | [],[]=>0
 | [],_::_=> -1
 | _::_,[]=>1
 | x::a,y::b=>if x<y then -1 else if y<x then 1 else cmpL a b
theorem zh3:∀a b:List Int,cmpL a b= -1∨cmpL a b=0∨cmpL a b=1
 | [],[]=>by simp[cmpL]
 | [],_::_=>by simp[cmpL]
 | _::_,[]=>by simp[cmpL]
 | x::a,y::b=>by
  rw[cmpL];split
  ·simp
  ·split
   ·simp
   ·exact zh3 a b
theorem zex:∀a b:List Int,cmpL b a= -cmpL a b
 | [],[]=>by simp[cmpL]
 | [],_::_=>by simp[cmpL]
 | _::_,[]=>by simp[cmpL]
 | x::a,y::b=>by
  rw[cmpL,cmpL];have:=zex a b
  repeat' split
  all_goals omega
theorem cmpL_eq:∀ {a b:List Int},cmpL a b=0->a=b
 | [],[],_=>rfl
 | [],_::_,h=>by simp[cmpL] at h
 | _::_,[],h=>by simp[cmpL] at h
 | x::a,y::b,h=>by
  rw[cmpL] at h;split at h
  ·cases h
  ·split at h
   ·cases h
   ·rw[cmpL_eq h,show x=y by omega]
theorem zjh (a:List Int):cmpL a a=0:=by
 induction a with
 | nil=>rfl
 | cons x a ih=>rw[cmpL,if_neg (Int.lt_irrefl _),if_neg (Int.lt_irrefl _),ih]
theorem zc0:∀ {a b c:List Int},cmpL a b<0->cmpL b c<0->cmpL a c<0
 | [],[],c,h,_=>by simp[cmpL] at h
 | [],_::_,[],_,h=>by simp[cmpL] at h
 | [],_::_,_::_,_,_=>by simp[cmpL]
 | _::_,[],c,h,_=>by simp[cmpL] at h
 | _::_,_::_,[],_,h=>by simp[cmpL] at h
 | x::a,y::b,z::c,h1,h2=>by
  rw[cmpL] at h1 h2 ⊢
  by_cases e1:x<y
  ·by_cases e2:y<z
   ·rw[if_pos (by omega)];decide
   ·rw[if_neg e2] at h2
    by_cases e3:z<y
    ·rw[if_pos e3] at h2;omega
    ·rw[if_pos (by omega)];decide
  ·rw[if_neg e1] at h1
   by_cases e3:y<x
   ·rw[if_pos e3] at h1;omega
   ·rw[if_neg e3] at h1;have e:x=y:=by omega
    subst e
    by_cases e2:x<z
    ·rw[if_pos e2];decide
    ·rw[if_neg e2] at h2 ⊢
     by_cases e4:z<x
     ·rw[if_pos e4] at h2;omega
     ·rw[if_neg e4] at h2 ⊢;exact zc0 h1 h2
def cmpK (a b:K3):Int:=if cmpL a.1 b.1≠0 then cmpL a.1 b.1 else if cmpL a.2.1 b.2.1≠0 then cmpL a.2.1 b.2.1 else cmpL a.2.2 b.2.2
theorem zu5 (a b:K3):cmpK a b= -1∨cmpK a b=0∨cmpK a b=1:=by
 unfold cmpK;split
 ·exact zh3 _ _
 ·split <;> exact zh3 _ _
theorem zu6 (a b:K3):cmpK b a= -cmpK a b:=by
 unfold cmpK;rw[zex a.1,zex a.2.1,zex a.2.2]
 repeat' split
 all_goals omega
theorem zw9 {a b:K3}(h:cmpK a b=0):a=b:=by
 unfold cmpK at h;split at h
 ·contradiction
 ·rename_i h1
  split at h
  ·contradiction
  ·rename_i h2
   exact Prod.ext (cmpL_eq (by omega)) (Prod.ext (cmpL_eq (by omega)) (cmpL_eq h))
theorem zop {a b c:K3}(h1:cmpK a b<0)(h2:cmpK b c<0):cmpK a c<0:=by
 unfold cmpK at h1 h2 ⊢
 by_cases x1:cmpL a.1 b.1=0
 ·rw[cmpL_eq x1];rw[if_neg (by omega)] at h1
  by_cases y1:cmpL b.1 c.1=0
  ·rw[if_neg (by omega)] at h2 ⊢
   by_cases x2:cmpL a.2.1 b.2.1=0
   ·rw[cmpL_eq x2];rw[if_neg (by omega)] at h1
    by_cases y2:cmpL b.2.1 c.2.1=0
    ·rw[if_neg (by omega)] at h2 ⊢;exact zc0 h1 h2
    ·rw[if_pos y2] at h2 ⊢;exact h2
   ·rw[if_pos x2] at h1
    by_cases y2:cmpL b.2.1 c.2.1=0
    ·rw[<- cmpL_eq y2,if_pos x2];exact h1
    ·rw[if_pos y2] at h2;have:=zc0 h1 h2;rw[if_pos (by omega)];exact this
  ·rw[if_pos y1] at h2 ⊢;exact h2
 ·rw[if_pos x1] at h1
  by_cases y1:cmpL b.1 c.1=0
  ·rw[<- cmpL_eq y1,if_pos x1];exact h1
  ·rw[if_pos y1] at h2;have:=zc0 h1 h2;rw[if_pos (by omega)];exact this
def rank (ks:List K3) (x:K3):Int:=(ks.countP fun k=>decide (cmpK k x<0):Nat)
theorem zje {α:Type}{p q:α->Bool}:∀ {l:List α},(∀x∈l,p x=true->q x=true)->(∃x∈l,q x=true/\p x=false)->l.countP p<l.countP q
 | [],_,h=>by obtain⟨x,hx,_⟩:=h;cases hx
 | y::l,h1,⟨x,hx,h2,h3⟩=>by
  have hm:=List.countP_mono_left fun z hz=>h1 z (List.mem_cons_of_mem _ hz)
  rcases List.mem_cons.1 hx with rfl | hx
  ·rw[List.countP_cons_of_pos h2,List.countP_cons_of_neg (by simp[h3])];omega
  ·have ih:=zje (fun z hz=>h1 z (List.mem_cons_of_mem _ hz)) ⟨x,hx,h2,h3⟩
   by_cases hp:p y=true
   ·rw[List.countP_cons_of_pos hp,List.countP_cons_of_pos (h1 y List.mem_cons_self hp)];omega
   ·rw[List.countP_cons_of_neg hp];have:=List.countP_le_length (p:=q) (l:= [y])
    by_cases hq:q y=true
    ·rw[List.countP_cons_of_pos hq];omega
    ·rw[List.countP_cons_of_neg hq];omega
theorem zqf {ks:List K3}{x y:K3}(hx:x∈ks)(h:cmpK x y<0):rank ks x<rank ks y:=by
 unfold rank
 have:=zje (l:=ks) (p:=fun k=>decide (cmpK k x<0)) (q:=fun k=>decide (cmpK k y<0)) (fun k _ hk=>by
  have:=of_decide_eq_true hk
  exact decide_eq_true (zop this h)) ⟨x,hx,decide_eq_true h,by
  have:cmpK x x=0:=by unfold cmpK;simp[zjh]
  simp[this]⟩
 omega
theorem ztr {ks:List K3}{x y:K3}(hx:x∈ks)(hy:y∈ks):(if rank ks x<rank ks y then -1 else if rank ks y<rank ks x then 1 else 0)=cmpK x y:=by
 have hn:=zu6 x y;rcases zu5 x y with h | h | h
 ·rw[if_pos (zqf hx (by omega)),h]
 ·rw[zw9 h,if_neg (Int.lt_irrefl _),if_neg (Int.lt_irrefl _)];unfold cmpK;simp[zjh]
 ·have:=zqf (ks:=ks) hy (show cmpK y x<0 by omega);rw[if_neg (by omega),if_pos this,h]
abbrev ckOf (ks:List K3) (kb:Nat):Ck:=⟨fun x=>match ks[x.toNat]? with | some k=>rank ks k | none=>0,fun x=>0<=x/\x<ks.length,kb⟩
theorem zxz {ks:List K3}{kb:Nat}{x y:Int}{k1 k2:K3}(h1:ks[x.toNat]?=some k1)(h2:ks[y.toNat]?=some k2):@cmp (ckOf ks kb) x y=cmpK k1 k2:=by
 have e1:(ckOf ks kb).cls x=rank ks k1:=by show (match ks[x.toNat]? with | some k=>rank ks k | none=>0)=_;rw[h1]
 have e2:(ckOf ks kb).cls y=rank ks k2:=by show (match ks[y.toNat]? with | some k=>rank ks k | none=>0)=_;rw[h2]
 have h:=ztr (List.mem_of_getElem? h1) (List.mem_of_getElem? h2);rw[<- e1,<- e2] at h;exact h
def places (n:Nat):List Int:=(List.range n).map fun k:Nat=>(k:Int)
theorem zni (n:Nat):(places n).length=n:=by simp[places]
theorem zdb (n:Nat):places (n+1)=places n++ [(n:Int)]:=by simp[places,List.range_succ]
theorem znh {n:Nat}{x:Int}(h:x∈places n):0<=x/\x<n:=by
 obtain⟨k,hk,rfl⟩:=List.mem_map.1 h;have:=List.mem_range.1 hk;omega
def badN:Nat->List (List Int)->Int×Int
 | _,[]=>(0,0)
 | k,t::r=>if (keyF t).2≠0 then ((keyF t).2,(k:Int)) else badN (k+1) r
theorem zmk:∀(l:List (List Int)) (k:Nat),(∀u∈l,(keyF u).2=0)->badN k l=(0,0)
 | [],k,_=>rfl
 | t::r,k,h=>by
  rw[badN,if_neg (by rw[h t List.mem_cons_self];simp),zmk r (k+1) fun u hu=>h u (List.mem_cons_of_mem _ hu)]
theorem zvs:∀(l:List (List Int)) (k j:Nat) (t:List Int),(∀i u,i<j->l[i]?=some u->(keyF u).2=0)->l[j]?=some t->(keyF t).2≠0->badN k l=((keyF t).2,((k+j:Nat):Int))
 | [],k,j,t,_,h,_=>by simp at h
 | u::r,k,0,t,_,h,h2=>by
  simp at h;subst h;rw[badN,if_pos h2];rfl
 | u::r,k,j+1,t,h1,h,h2=>by
  rw[badN,if_neg (by rw[h1 0 u (by omega) rfl];simp),zvs r (k+1) j t (fun i v hi hv=>h1 (i+1) v (by omega) (by simpa using hv)) (by simpa using h) h2];congr 2;omega
def keysL (l:List (List Int)):List K3:=l.map fun t=>(keyF t).1
def cmpF (a b:List Int):Int×Int:=if (keyF a).2≠0 then (0,(keyF a).2) else if (keyF b).2≠0 then (0,(keyF b).2) else (cmpK (keyF a).1 (keyF b).1,0)
def wrongS (l:List (List Int)):Int×Int:=if 100<l.length then (5,0) else badN 0 l
end Od
