import Derived.Test.YthnmmmkeamcfkaaGreatDoorSLib
import Derived.Deep.SlicePairs
import Derived.Test.YthnmmmkeamcfkaaGreatDoorCards
import Derived.Test.YthnmmmkeamcfkaaGreatDoorTie
import Derived.Deep.DeepHandedRow
import Derived.Lib.LaidTab
import Derived.SevenTiedAt
import Derived.Stop.LaidErr
import Derived.Laws.RangeAny
import Derived.Lib.DecodeN
namespace Go.Proofs.YthnmmmkeamcfkaaGreatDoor
section
open Go.ChangeShapes Go.WideShapes Go.ChangeAt Go.RowKit
theorem wf_i32 {n:Int}(h:(Lit.int .i32 n).wf=true): -2147483648<=n/\n<=2147483647:=by
 simp only[Lit.wf,Bool.and_eq_true,decide_eq_true_eq] at h;have e1:IntKind.i32.min= -2147483648:=by decide
 have e2:IntKind.i32.max=2147483647:=by decide
 rw[e1,e2] at h;omega
def tab64:List Int:= [0,1,56,2,57,49,28,3,61,58,42,50,38,29,17,4,62,47,59,36,45,43,51,22,53,39,33,30,24,18,12,5,63,55,48,27,60,41,37,16,46,35,44,21,52,32,23,11,54,26,40,15,34,20,31,10,25,14,19,9,13,8,7,6]
def pow10Cells:Array Value:=#[.int .u64 1,.int .u64 10,.int .u64 100,.int .u64 1000,.int .u64 10000,.int .u64 100000,.int .u64 1000000,.int .u64 10000000,.int .u64 100000000,.int .u64 1000000000,.int .u64 10000000000,.int .u64 100000000000,.int .u64 1000000000000,.int .u64 10000000000000,.int .u64 100000000000000,.int .u64 1000000000000000,.int .u64 10000000000000000,.int .u64 100000000000000000,.int .u64 1000000000000000000,.int .u64 10000000000000000000]
def tab32Cells:Array Value:=#[.int .u8 0,.int .u8 1,.int .u8 28,.int .u8 2,.int .u8 29,.int .u8 14,.int .u8 24,.int .u8 3,.int .u8 30,.int .u8 22,.int .u8 20,.int .u8 15,.int .u8 25,.int .u8 17,.int .u8 4,.int .u8 8,.int .u8 31,.int .u8 27,.int .u8 13,.int .u8 23,.int .u8 21,.int .u8 19,.int .u8 16,.int .u8 7,.int .u8 26,.int .u8 12,.int .u8 18,.int .u8 6,.int .u8 11,.int .u8 5,.int .u8 10,.int .u8 9]
def tab64Cells:Array Value:=#[.int .u8 0,.int .u8 1,.int .u8 56,.int .u8 2,.int .u8 57,.int .u8 49,.int .u8 28,.int .u8 3,.int .u8 61,.int .u8 58,.int .u8 42,.int .u8 50,.int .u8 38,.int .u8 29,.int .u8 17,.int .u8 4,.int .u8 62,.int .u8 47,.int .u8 59,.int .u8 36,.int .u8 45,.int .u8 43,.int .u8 51,.int .u8 22,.int .u8 53,.int .u8 39,.int .u8 33,.int .u8 30,.int .u8 24,.int .u8 18,.int .u8 12,.int .u8 5,.int .u8 63,.int .u8 55,.int .u8 48,.int .u8 27,.int .u8 60,.int .u8 41,.int .u8 37,.int .u8 16,.int .u8 46,.int .u8 35,.int .u8 44,.int .u8 21,.int .u8 52,.int .u8 32,.int .u8 23,.int .u8 11,.int .u8 54,.int .u8 26,.int .u8 40,.int .u8 15,.int .u8 34,.int .u8 20,.int .u8 31,.int .u8 10,.int .u8 25,.int .u8 14,.int .u8 19,.int .u8 9,.int .u8 13,.int .u8 8,.int .u8 7,.int .u8 6]
def relay (cs:Array Value):Obj->Obj
 | .cells _ t frozen=> .cells cs t frozen
 | o=>o
end
section
theorem qH {p:Prop}(h:p):Go.RowKit.Hid p:=h
end
namespace S
theorem zk0 (P:Int->Bool)(n:Nat)(hn:n<=1114112):∃s,Nf 0 s/\(∀q,memb s q=(decide (0<=q)&&decide (q<n)&&P q)):=by
 induction n with
 | zero=>exact⟨[],trivial,fun q=>by
   have:(decide (0<=q)&&decide (q<((0:Nat):Int)))=false:=by simp
   rw[this,zcl];simp⟩
 | succ n ih =>
  obtain⟨s,h1,h2⟩:=ih (by omega)
  have ends:∀p∈s,p.1<=p.2/\p.2<n:=fun p hp=>by
   have h3:=h1.mem hp;have h4:memb s p.2=true:=za6.2 ⟨p,hp,by omega,by omega⟩;rw[h2] at h4;simp at h4;omega
  cases hP:P n with
  | true =>
   have hj:=zl1 (x:=((n:Int),(n:Int))) h1 (by simp only;omega) (by simp only;omega) (by simp only;omega) fun p hp=>by
    have:=ends p (List.mem_of_getLast? hp);simp only;omega
   refine⟨_,hj.1,fun q=> ?_⟩;rw[hj.2,h2];simp only
   by_cases hq:q=n
   ·subst hq;simp[hP];omega
   ·have e1:(decide ((n:Int)<=q)&&decide (q<=(n:Int)))=false:=by simp;omega
    have e2:decide (q<(n:Int))=decide (q<((n+1:Nat):Int)):=by apply zel;simp;omega
    rw[e1,e2,Bool.or_false]
  | false =>
   refine⟨s,h1,fun q=> ?_⟩;rw[h2]
   by_cases hq:q=n
   ·subst hq;simp[hP]
   ·have e2:decide (q<(n:Int))=decide (q<((n+1:Nat):Int)):=by apply zel;simp;omega
    rw[e2]
theorem zr6 {P:Int->Bool}(h:∀q,P q=(inR q&&P q)):∃s,Is P s:=by
 obtain⟨s,h1,h2⟩:=zk0 P 1114112 (by omega);refine⟨s,h1,fun q=> ?_⟩;rw[h2,h q]
 have:(decide (0<=q)&&decide (q<((1114112:Nat):Int)))=inR q:=by
  apply zel;simp[inR];omega
 rw[this];cases inR q <;> simp
theorem zx3 {P:Int->Bool}(h:∀q,P q=(inR q&&P q)):Nf 0 (nf P)/\memb (nf P)=P:=by
 have:=zxo (zr6 h);exact⟨this.1,funext this.2⟩
theorem zqs (a b:List Sp)(q:Int):orP a b q=(inR q&&orP a b q):=by unfold orP;cases inR q <;> simp
theorem zxf (a b:List Sp)(q:Int):andP a b q=(inR q&&andP a b q):=by unfold andP;cases inR q <;> simp
theorem zws (a b:List Sp)(q:Int):minP a b q=(inR q&&minP a b q):=by unfold minP;cases inR q <;> simp
theorem zwq (a:List Sp)(q:Int):notP a q=(inR q&&notP a q):=by unfold notP;cases inR q <;> simp
noncomputable def U (a b:List Sp):List Sp:=nf (orP a b)
noncomputable def I (a b:List Sp):List Sp:=nf (andP a b)
noncomputable def D (a b:List Sp):List Sp:=nf (minP a b)
noncomputable def C (a:List Sp):List Sp:=nf (notP a)
theorem zbe {a:List Sp}(h:Nf 0 a)(hl:a.length<=200):wrongE a=0:=zaw.2 ⟨hl,h⟩
theorem zwc {P:Int->Bool}(h:(nf P).length<=200):resL 0 0 P=nf P:=by
 unfold resL fewL;simp;omega
theorem zwd {P:Int->Bool}(h:(nf P).length<=200):resE 0 0 P=0:=by
 unfold resE fewE;simp;omega
def cnt (P:Int->Bool):Nat->Nat
 | 0=>0
 | n+1=>cnt P n+if P n=true then 1 else 0
def total:List Sp->Int
 | []=>0
 | x::l=>(x.2 - x.1+1)+total l
def nthF:List Sp->Int->Option Int
 | [],_=>none
 | x::l,k=>if k<x.2 - x.1+1 then some (x.1+k) else nthF l (k - (x.2 - x.1+1))
end S
namespace M
theorem width_pos (s:ByteArray)(pos:Nat)(h:pos<s.size):1<=(Utf8.decode s pos).2:=by
 by_cases ha:(s[pos]'h).toNat<128
 ·rw[decode_ascii s pos h ha];exact qN
 ·exact(decode_high s pos h (by omega)).2
def steps (s:ByteArray):Nat->Nat->List (Nat×Nat)
 | 0,_=> []
 | b+1,pos=>if pos<s.size then (pos,(Utf8.decode s pos).1)::steps s b (pos+(Utf8.decode s pos).2) else []
theorem zie (s:ByteArray)(b pos:Nat)(h:¬pos<s.size):steps s b pos= []:=by
 cases b with
 | zero=>rfl
 | succ b=>simp[steps,h]
def all (s:ByteArray):List (Nat×Nat):=steps s s.size 0
def rn (s:ByteArray):List Int:=(all s).map fun x=>(x.2:Int)
def pl (s:ByteArray):List Int:=(all s).map (fun x=>(x.1:Int))++ [(s.size:Int)]
theorem zep (s:ByteArray):∀(b pos:Nat),(steps s b pos).length<=b
 | 0,_=>by simp[steps]
 | b+1,pos=>by
  unfold steps;split
  ·have:=zep s b (pos+(Utf8.decode s pos).2);simp only[List.length_cons];omega
  ·simp
theorem zqa (s:ByteArray):(rn s).length<=s.size:=by simpa [rn,all] using zep s s.size 0
def plFrom (s:ByteArray) (b pos:Nat):List Int:=(steps s b pos).map (fun x=>(x.1:Int))++ [(s.size:Int)]
def right (r:Int):Bool:=decide (0<=r/\r<=1114111/\(r<55296∨57343<r))
def pre (s p:ByteArray):Bool:=decide (p.size<=s.size)&&((s.extract 0 p.size).data.toList==p.data.toList)
end M
