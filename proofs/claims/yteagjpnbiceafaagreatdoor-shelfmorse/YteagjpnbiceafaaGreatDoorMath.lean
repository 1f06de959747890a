/-
 A slice of spans that came in, as a list of pairs of numbers.
-/
import Derived.Test.YteagjpnbiceafaaGreatDoorSLib
import Derived.Deep.SlicePairs
import Derived.Test.YteagjpnbiceafaaGreatDoorCards
import Derived.Test.YteagjpnbiceafaaGreatDoorTie
import Derived.WalkKit
import Derived.ProofKit
import Derived.OpenShut
import Derived.Deep.DeepHandedRow
import Derived.Lib.LaidTab
import Derived.SevenTiedAt
import Derived.Stop.LaidErr
import Derived.Laws.RangeAny
import Derived.Lib.DecodeN
namespace Go.Proofs.YteagjpnbiceafaaGreatDoor
open Go.ChangeShapes Go.WideShapes Go.ChangeAt Go.RowKit
def tab64:List Int:= [0,1,56,2,57,49,28,3,61,58,42,50,38,29,17,4,62,47,59,36,45,43,51,22,53,39,33,30,24,18,12,5,63,55,48,27,60,41,37,16,46,35,44,21,52,32,23,11,54,26,40,15,34,20,31,10,25,14,19,9,13,8,7,6]
def pow10Cells:Array Value:=#[.int .u64 1,.int .u64 10,.int .u64 100,.int .u64 1000,.int .u64 10000,.int .u64 100000,.int .u64 1000000,.int .u64 10000000,.int .u64 100000000,.int .u64 1000000000,.int .u64 10000000000,.int .u64 100000000000,.int .u64 1000000000000,.int .u64 10000000000000,.int .u64 100000000000000,.int .u64 1000000000000000,.int .u64 10000000000000000,.int .u64 100000000000000000,.int .u64 1000000000000000000,.int .u64 10000000000000000000]
def tab32Cells:Array Value:=#[.int .u8 0,.int .u8 1,.int .u8 28,.int .u8 2,.int .u8 29,.int .u8 14,.int .u8 24,.int .u8 3,.int .u8 30,.int .u8 22,.int .u8 20,.int .u8 15,.int .u8 25,.int .u8 17,.int .u8 4,.int .u8 8,.int .u8 31,.int .u8 27,.int .u8 13,.int .u8 23,.int .u8 21,.int .u8 19,.int .u8 16,.int .u8 7,.int .u8 26,.int .u8 12,.int .u8 18,.int .u8 6,.int .u8 11,.int .u8 5,.int .u8 10,.int .u8 9]
def tab64Cells:Array Value:=#[.int .u8 0,.int .u8 1,.int .u8 56,.int .u8 2,.int .u8 57,.int .u8 49,.int .u8 28,.int .u8 3,.int .u8 61,.int .u8 58,.int .u8 42,.int .u8 50,.int .u8 38,.int .u8 29,.int .u8 17,.int .u8 4,.int .u8 62,.int .u8 47,.int .u8 59,.int .u8 36,.int .u8 45,.int .u8 43,.int .u8 51,.int .u8 22,.int .u8 53,.int .u8 39,.int .u8 33,.int .u8 30,.int .u8 24,.int .u8 18,.int .u8 12,.int .u8 5,.int .u8 63,.int .u8 55,.int .u8 48,.int .u8 27,.int .u8 60,.int .u8 41,.int .u8 37,.int .u8 16,.int .u8 46,.int .u8 35,.int .u8 44,.int .u8 21,.int .u8 52,.int .u8 32,.int .u8 23,.int .u8 11,.int .u8 54,.int .u8 26,.int .u8 40,.int .u8 15,.int .u8 34,.int .u8 20,.int .u8 31,.int .u8 10,.int .u8 25,.int .u8 14,.int .u8 19,.int .u8 9,.int .u8 13,.int .u8 8,.int .u8 7,.int .u8 6]
def relay (cs:Array Value):Obj->Obj
 | .cells _ t frozen=> .cells cs t frozen
 | o=>o
end Go.Proofs.YteagjpnbiceafaaGreatDoor
namespace Go.Proofs.YteagjpnbiceafaaGreatDoor.Sh
def nArrows:ByteArray:=⟨#[97,114,114,111,119,115]⟩
def tArrows:ByteArray:=⟨#[39,45,62,39,32,62,32,226,134,146,32,59,10,39,60,45,39,32,62,32,226,134,144,32,59,10]⟩
def nBlanks:ByteArray:=⟨#[98,108,97,110,107,115]⟩
def tBlanks:ByteArray:=⟨#[35,32,111,110,101,32,98,108,97,110,107,32,119,104,101,114,101,32,116,104,101,114,101,32,119,101,114,101,32,109,111,114,101,10,39,32,39,32,123,32,39,32,39,32,62,32,59,10]⟩
def nCaesar:ByteArray:=⟨#[99,97,101,115,97,114]⟩
def tCaesar:ByteArray:=⟨#[97,32,60,62,32,98,32,59,10,98,32,60,62,32,99,32,59,10,99,32,60,62,32,100,32,59,10,100,32,60,62,32,101,32,59,10,101,32,60,62,32,102,32,59,10,102,32,60,62,32,103,32,59,10,103,32,60,62,32,104,32,59,10,104,32,60,62,32,105,32,59,10,105,32,60,62,32,106,32,59,10,106,32,60,62,32,107,32,59,10,107,32,60,62,32,108,32,59,10,108,32,60,62,32,109,32,59,10,109,32,60,62,32,110,32,59,10,110,32,60,62,32,111,32,59,10,111,32,60,62,32,112,32,59,10,112,32,60,62,32,113,32,59,10,113,32,60,62,32,114,32,59,10,114,32,60,62,32,115,32,59,10,115,32,60,62,32,116,32,59,10,116,32,60,62,32,117,32,59,10,117,32,60,62,32,118,32,59,10,118,32,60,62,32,119,32,59,10,119,32,60,62,32,120,32,59,10,120,32,60,62,32,121,32,59,10,121,32,60,62,32,122,32,59,10,122,32,60,62,32,97,32,59,10]⟩
def nCyrillic:ByteArray:=⟨#[99,121,114,105,108,108,105,99]⟩
def tCyrillic:ByteArray:=⟨#[208,182,32,60,62,32,122,104,32,59,10,209,133,32,60,62,32,107,104,32,59,10,208,176,32,60,62,32,97,32,59,10,208,177,32,60,62,32,98,32,59,10,208,178,32,60,62,32,118,32,59,10,208,179,32,60,62,32,103,32,59,10,208,180,32,60,62,32,100,32,59,10,208,181,32,60,62,32,101,32,59,10,208,183,32,60,62,32,122,32,59,10,208,184,32,60,62,32,105,32,59,10,208,185,32,60,62,32,106,32,59,10,208,186,32,60,62,32,107,32,59,10,208,187,32,60,62,32,108,32,59,10,208,188,32,60,62,32,109,32,59,10,208,189,32,60,62,32,110,32,59,10,208,190,32,60,62,32,111,32,59,10,208,191,32,60,62,32,112,32,59,10,209,128,32,60,62,32,114,32,59,10,209,129,32,60,62,32,115,32,59,10,209,130,32,60,62,32,116,32,59,10,209,131,32,60,62,32,117,32,59,10,209,132,32,60,62,32,102,32,59,10]⟩
def nDashes:ByteArray:=⟨#[100,97,115,104,101,115]⟩
def tDashes:ByteArray:=⟨#[39,45,45,45,39,32,62,32,226,128,148,32,59,10,39,45,45,39,32,62,32,226,128,147,32,59,10]⟩
def nDots:ByteArray:=⟨#[100,111,116,115]⟩
def tDots:ByteArray:=⟨#[35,32,110,111,32,98,108,97,110,107,32,97,104,101,97,100,32,111,102,32,97,32,115,105,103,110,10,39,32,39,32,125,32,91,46,33,63,92,44,92,59,92,58,93,32,62,32,59,10]⟩
def nEdges:ByteArray:=⟨#[101,100,103,101,115]⟩
def tEdges:ByteArray:=⟨#[35,32,110,111,32,98,108,97,110,107,32,97,116,32,101,105,116,104,101,114,32,101,110,100,10,94,32,123,32,39,32,39,32,62,32,59,10,39,32,39,32,125,32,36,32,62,32,59,10]⟩
def nGerman:ByteArray:=⟨#[103,101,114,109,97,110]⟩
def tGerman:ByteArray:=⟨#[195,164,32,62,32,97,101,32,59,10,195,182,32,62,32,111,101,32,59,10,195,188,32,62,32,117,101,32,59,10,195,159,32,62,32,115,115,32,59,10,195,132,32,62,32,65,101,32,59,10,195,150,32,62,32,79,101,32,59,10,195,156,32,62,32,85,101,32,59,10]⟩
def nGreek:ByteArray:=⟨#[103,114,101,101,107]⟩
def tGreek:ByteArray:=⟨#[206,190,32,60,62,32,120,32,59,10,206,184,32,60,62,32,116,104,32,59,10,206,177,32,60,62,32,97,32,59,10,206,178,32,60,62,32,98,32,59,10,206,179,32,60,62,32,103,32,59,10,206,180,32,60,62,32,100,32,59,10,206,181,32,60,62,32,101,32,59,10,206,182,32,60,62,32,122,32,59,10,206,183,32,60,62,32,196,147,32,59,10,206,185,32,60,62,32,105,32,59,10,206,186,32,60,62,32,107,32,59,10,206,187,32,60,62,32,108,32,59,10,206,188,32,60,62,32,109,32,59,10,206,189,32,60,62,32,110,32,59,10,206,191,32,60,62,32,111,32,59,10,207,128,32,60,62,32,112,32,59,10,207,129,32,60,62,32,114,32,59,10,207,131,32,60,62,32,115,32,59,10,207,132,32,60,62,32,116,32,59,10,207,133,32,60,62,32,117,32,59,10,207,134,32,60,62,32,102,32,59,10,207,135,32,60,62,32,99,104,32,59,10,207,136,32,60,62,32,197,157,32,59,10,207,137,32,60,62,32,197,141,32,59,10]⟩
def nLeet:ByteArray:=⟨#[108,101,101,116]⟩
def tLeet:ByteArray:=⟨#[58,58,32,108,111,119,101,114,32,59,10,97,32,62,32,52,32,59,10,101,32,62,32,51,32,59,10,105,32,62,32,49,32,59,10,111,32,62,32,48,32,59,10,115,32,62,32,53,32,59,10,116,32,62,32,55,32,59,10]⟩
def nMorse:ByteArray:=⟨#[109,111,114,115,101]⟩
def tMorse:ByteArray:=⟨#[97,32,60,62,32,39,46,45,32,39,32,59,10,98,32,60,62,32,39,45,46,46,46,32,39,32,59,10,99,32,60,62,32,39,45,46,45,46,32,39,32,59,10,100,32,60,62,32,39,45,46,46,32,39,32,59,10,101,32,60,62,32,39,46,32,39,32,59,10,102,32,60,62,32,39,46,46,45,46,32,39,32,59,10,103,32,60,62,32,39,45,45,46,32,39,32,59,10,104,32,60,62,32,39,46,46,46,46,32,39,32,59,10,105,32,60,62,32,39,46,46,32,39,32,59,10,106,32,60,62,32,39,46,45,45,45,32,39,32,59,10,107,32,60,62,32,39,45,46,45,32,39,32,59,10,108,32,60,62,32,39,46,45,46,46,32,39,32,59,10,109,32,60,62,32,39,45,45,32,39,32,59,10,110,32,60,62,32,39,45,46,32,39,32,59,10,111,32,60,62,32,39,45,45,45,32,39,32,59,10,112,32,60,62,32,39,46,45,45,46,32,39,32,59,10,113,32,60,62,32,39,45,45,46,45,32,39,32,59,10,114,32,60,62,32,39,46,45,46,32,39,32,59,10,115,32,60,62,32,39,46,46,46,32,39,32,59,10,116,32,60,62,32,39,45,32,39,32,59,10,117,32,60,62,32,39,46,46,45,32,39,32,59,10,118,32,60,62,32,39,46,46,46,45,32,39,32,59,10,119,32,60,62,32,39,46,45,45,32,39,32,59,10,120,32,60,62,32,39,45,46,46,45,32,39,32,59,10,121,32,60,62,32,39,45,46,45,45,32,39,32,59,10,122,32,60,62,32,39,45,45,46,46,32,39,32,59,10]⟩
def nPoints:ByteArray:=⟨#[112,111,105,110,116,115]⟩
def tPoints:ByteArray:=⟨#[39,46,46,46,39,32,62,32,226,128,166,32,59,10]⟩
def nQuotes:ByteArray:=⟨#[113,117,111,116,101,115]⟩
def tQuotes:ByteArray:=⟨#[94,32,123,32,39,34,39,32,62,32,226,128,156,32,59,10,39,32,39,32,123,32,39,34,39,32,62,32,226,128,156,32,59,10,39,34,39,32,62,32,226,128,157,32,59,10]⟩
def nRovar:ByteArray:=⟨#[114,111,118,97,114]⟩
def tRovar:ByteArray:=⟨#[98,32,62,32,98,111,98,32,59,10,99,32,62,32,99,111,99,32,59,10,100,32,62,32,100,111,100,32,59,10,102,32,62,32,102,111,102,32,59,10,103,32,62,32,103,111,103,32,59,10,104,32,62,32,104,111,104,32,59,10,106,32,62,32,106,111,106,32,59,10,107,32,62,32,107,111,107,32,59,10,108,32,62,32,108,111,108,32,59,10,109,32,62,32,109,111,109,32,59,10,110,32,62,32,110,111,110,32,59,10,112,32,62,32,112,111,112,32,59,10,113,32,62,32,113,111,113,32,59,10,114,32,62,32,114,111,114,32,59,10,115,32,62,32,115,111,115,32,59,10,116,32,62,32,116,111,116,32,59,10,118,32,62,32,118,111,118,32,59,10,119,32,62,32,119,111,119,32,59,10,120,32,62,32,120,111,120,32,59,10,122,32,62,32,122,111,122,32,59,10]⟩
def nSigma:ByteArray:=⟨#[115,105,103,109,97]⟩
def tSigma:ByteArray:=⟨#[207,131,32,125,32,91,94,32,91,58,103,114,101,101,107,58,93,93,32,62,32,207,130,32,59,10,207,131,32,125,32,36,32,62,32,207,130,32,59,10]⟩
def nSqueeze:ByteArray:=⟨#[115,113,117,101,101,122,101]⟩
def tSqueeze:ByteArray:=⟨#[35,32,111,102,32,114,117,110,115,32,111,102,32,116,104,101,32,115,97,109,101,32,99,111,110,115,111,110,97,110,116,32,111,110,101,32,105,115,32,108,101,102,116,10,98,32,98,32,62,32,124,32,98,32,59,10,99,32,99,32,62,32,124,32,99,32,59,10,100,32,100,32,62,32,124,32,100,32,59,10]⟩
def nTelex:ByteArray:=⟨#[116,101,108,101,120]⟩
def tTelex:ByteArray:=⟨#[97,119,32,62,32,196,131,32,59,10,97,97,32,62,32,195,162,32,59,10,101,101,32,62,32,195,170,32,59,10,111,111,32,62,32,195,180,32,59,10,111,119,32,62,32,198,161,32,59,10,117,119,32,62,32,198,176,32,59,10,100,100,32,62,32,196,145,32,59,10]⟩
def nVowels:ByteArray:=⟨#[118,111,119,101,108,115]⟩
def tVowels:ByteArray:=⟨#[91,91,58,118,111,119,101,108,58,93,93,32,62,32,59,10]⟩
def row:List (ByteArray×ByteArray):= [(nArrows,tArrows),(nBlanks,tBlanks),(nCaesar,tCaesar),(nCyrillic,tCyrillic),(nDashes,tDashes),(nDots,tDots),(nEdges,tEdges),(nGerman,tGerman),(nGreek,tGreek),(nLeet,tLeet),(nMorse,tMorse),(nPoints,tPoints),(nQuotes,tQuotes),(nRovar,tRovar),(nSigma,tSigma),(nSqueeze,tSqueeze),(nTelex,tTelex),(nVowels,tVowels)]
def textF (name:ByteArray):ByteArray×Int:=match row.find? (fun x=>x.1.toList==name.toList) with | some x=>(x.2,0) | none=>(⟨#[]⟩,7)
theorem zpq (name:ByteArray):(row.find? (fun x=>x.1.toList==name.toList)=none->textF name=(⟨#[]⟩,7))/\∀x,row.find? (fun x=>x.1.toList==name.toList)=some x->textF name=(x.2,0):=by
 unfold textF;generalize row.find? (fun x=>x.1.toList==name.toList)=o;exact⟨fun h=>by rw[h],fun x h=>by rw[h]⟩
theorem zfp {α β:Type}(f g:α->β):∀(l:List α) (j:Nat),(l.flatMap fun x=> [f x,g x])[j*2]?=(l[j]?).map f
 | [],j=>by simp
 | x::l,0=>by simp
 | x::l,j+1=>by
  have h:=zfp f g l j;have e:(j+1)*2=j*2+1+1:=by omega
  rw[e];simpa using h
theorem zhf {α β:Type}(f g:α->β):∀(l:List α) (j:Nat),(l.flatMap fun x=> [f x,g x])[j*2+1]?=(l[j]?).map g
 | [],j=>by simp
 | x::l,0=>by simp
 | x::l,j+1=>by
  have h:=zhf f g l j;have e:(j+1)*2+1=j*2+1+1+1:=by omega
  rw[e];simpa using h
theorem zoq {α:Type}{P:α->Bool}{l:List α}{j:Nat}{x:α}(h:l[j]?=some x)(h0:(l.take j).find? P=none):(P x=false->(l.take (j+1)).find? P=none)/\(P x=true->l.find? P=some x):=by
 have hlt:=(qL.1 h).1;constructor
 ·intro hp;rw[List.take_add_one,h,List.find?_append,h0];simp[hp]
 ·intro hp
  have e:l=l.take j++x::l.drop (j+1):=by
   have h2:l[j]=x:=(qL.1 h).2;rw[<- h2,List.getElem_cons_drop,List.take_append_drop]
  rw[e,List.find?_append,h0];simp[hp]
end Go.Proofs.YteagjpnbiceafaaGreatDoor.Sh
namespace Go.Proofs.YteagjpnbiceafaaGreatDoor.M
theorem width_pos (s:ByteArray)(pos:Nat)(h:pos<s.size):1<=(Utf8.decode s pos).2:=by
 by_cases ha:(s[pos]'h).toNat<128
 ·rw[decode_ascii s pos h ha];exact qN
 ·exact(decode_high s pos h (by omega)).2
def steps (s:ByteArray):Nat->Nat->List (Nat×Nat)
 | 0,_=> []
 | b+1,pos=>if pos<s.size then (pos,(Utf8.decode s pos).1)::steps s b (pos+(Utf8.decode s pos).2) else []
theorem zg5 (s:ByteArray)(b pos:Nat)(h:¬pos<s.size):steps s b pos= []:=by
 cases b with
 | zero=>rfl
 | succ b=>simp[steps,h]
def all (s:ByteArray):List (Nat×Nat):=steps s s.size 0
def rn (s:ByteArray):List Int:=(all s).map fun x=>(x.2:Int)
def pl (s:ByteArray):List Int:=(all s).map (fun x=>(x.1:Int))++ [(s.size:Int)]
theorem zd4 (s:ByteArray):∀(b pos:Nat),(steps s b pos).length<=b
 | 0,_=>by simp[steps]
 | b+1,pos=>by
  unfold steps;split
  ·have:=zd4 s b (pos+(Utf8.decode s pos).2);simp only[List.length_cons];omega
  ·simp
theorem zhb (s:ByteArray):(rn s).length<=s.size:=by simpa [rn,all] using zd4 s s.size 0
def plFrom (s:ByteArray) (b pos:Nat):List Int:=(steps s b pos).map (fun x=>(x.1:Int))++ [(s.size:Int)]
def right (r:Int):Bool:=decide (0<=r/\r<=1114111/\(r<55296∨57343<r))
def pre (s p:ByteArray):Bool:=decide (p.size<=s.size)&&((s.extract 0 p.size).data.toList==p.data.toList)
end Go.Proofs.YteagjpnbiceafaaGreatDoor.M
