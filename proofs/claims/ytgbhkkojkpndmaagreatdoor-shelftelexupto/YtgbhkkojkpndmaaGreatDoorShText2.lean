/-
 A slice of spans that came in, as a list of pairs of numbers.
-/
import Derived.Test.YtgbhkkojkpndmaaGreatDoorSLib
import Derived.Deep.SlicePairs
import Derived.Test.YtgbhkkojkpndmaaGreatDoorCards
import Derived.Test.YtgbhkkojkpndmaaGreatDoorTie
import Derived.WalkKit
import Derived.ProofKit
import Derived.OpenShut
import Derived.Deep.DeepHandedRow
import Derived.Lib.LaidTab
import Derived.SevenTiedAt
import Derived.Stop.LaidErr
import Derived.Laws.RangeAny
import Derived.Lib.DecodeN
import Derived.Laws.OwnMore
set_option maxHeartbeats 0
set_option linter.unusedSimpArgs false
set_option linter.unusedVariables false
namespace Go.Proofs.YtgbhkkojkpndmaaGreatDoor
open Go.ChangeShapes Go.WideShapes Go.ChangeAt Go.RowKit
def tab64:List Int:= [0,1,56,2,57,49,28,3,61,58,42,50,38,29,17,4,62,47,59,36,45,43,51,22,53,39,33,30,24,18,12,5,63,55,48,27,60,41,37,16,46,35,44,21,52,32,23,11,54,26,40,15,34,20,31,10,25,14,19,9,13,8,7,6]
def pow10Cells:Array Value:=#[.int .u64 1,.int .u64 10,.int .u64 100,.int .u64 1000,.int .u64 10000,.int .u64 100000,.int .u64 1000000,.int .u64 10000000,.int .u64 100000000,.int .u64 1000000000,.int .u64 10000000000,.int .u64 100000000000,.int .u64 1000000000000,.int .u64 10000000000000,.int .u64 100000000000000,.int .u64 1000000000000000,.int .u64 10000000000000000,.int .u64 100000000000000000,.int .u64 1000000000000000000,.int .u64 10000000000000000000]
def tab32Cells:Array Value:=#[.int .u8 0,.int .u8 1,.int .u8 28,.int .u8 2,.int .u8 29,.int .u8 14,.int .u8 24,.int .u8 3,.int .u8 30,.int .u8 22,.int .u8 20,.int .u8 15,.int .u8 25,.int .u8 17,.int .u8 4,.int .u8 8,.int .u8 31,.int .u8 27,.int .u8 13,.int .u8 23,.int .u8 21,.int .u8 19,.int .u8 16,.int .u8 7,.int .u8 26,.int .u8 12,.int .u8 18,.int .u8 6,.int .u8 11,.int .u8 5,.int .u8 10,.int .u8 9]
def tab64Cells:Array Value:=#[.int .u8 0,.int .u8 1,.int .u8 56,.int .u8 2,.int .u8 57,.int .u8 49,.int .u8 28,.int .u8 3,.int .u8 61,.int .u8 58,.int .u8 42,.int .u8 50,.int .u8 38,.int .u8 29,.int .u8 17,.int .u8 4,.int .u8 62,.int .u8 47,.int .u8 59,.int .u8 36,.int .u8 45,.int .u8 43,.int .u8 51,.int .u8 22,.int .u8 53,.int .u8 39,.int .u8 33,.int .u8 30,.int .u8 24,.int .u8 18,.int .u8 12,.int .u8 5,.int .u8 63,.int .u8 55,.int .u8 48,.int .u8 27,.int .u8 60,.int .u8 41,.int .u8 37,.int .u8 16,.int .u8 46,.int .u8 35,.int .u8 44,.int .u8 21,.int .u8 52,.int .u8 32,.int .u8 23,.int .u8 11,.int .u8 54,.int .u8 26,.int .u8 40,.int .u8 15,.int .u8 34,.int .u8 20,.int .u8 31,.int .u8 10,.int .u8 25,.int .u8 14,.int .u8 19,.int .u8 9,.int .u8 13,.int .u8 8,.int .u8 7,.int .u8 6]
def relay (cs:Array Value):Obj->Obj
 | .cells _ t frozen=> .cells cs t frozen
 | o=>o
end Go.Proofs.YtgbhkkojkpndmaaGreatDoor
namespace Go.Proofs.YtgbhkkojkpndmaaGreatDoor.Sh
def nArrows:ByteArray:=⟨#[97,114,114,111,119,115]⟩
def tArrows:ByteArray:=⟨#[39,45,62,39,32,62,32,226,134,146,32,59,10,39,60,45,39,32,62,32,226,134,144,32,59,10]⟩
def nBlanks:ByteArray:=⟨#[98,108,97,110,107,115]⟩
def tBlanks:ByteArray:=⟨#[35,32,111,110,101,32,98,108,97,110,107,32,119,104,101,114,101,32,116,104,101,114,101,32,119,101,114,101,32,109,111,114,101,10,39,32,39,32,123,32,39,32,39,32,62,32,59,10]⟩
def nCaesar:ByteArray:=⟨#[99,97,101,115,97,114]⟩
def tCaesar:ByteArray:=⟨#[97,32,60,62,32,98,32,59,10,98,32,60,62,32,99,32,59,10,99,32,60,62,32,100,32,59,10,100,32,60,62,32,101,32,59,10,101,32,60,62,32,102,32,59,10,102,32,60,62,32,103,32,59,10,103,32,60,62,32,104,32,59,10,104,32,60,62,32,105,32,59,10,105,32,60,62,32,106,32,59,10,106,32,60,62,32,107,32,59,10,107,32,60,62,32,108,32,59,10,108,32,60,62,32,109,32,59,10,109,32,60,62,32,110,32,59,10,110,32,60,62,32,111,32,59,10,111,32,60,62,32,112,32,59,10,112,32,60,62,32,113,32,59,10,113,32,60,62,32,114,32,59,10,114,32,60,62,32,115,32,59,10,115,32,60,62,32,116,32,59,10,116,32,60,62,32,117,32,59,10,117,32,60,62,32,118,32,59,10,118,32,60,62,32,119,32,59,10,119,32,60,62,32,120,32,59,10,120,32,60,62,32,121,32,59,10,121,32,60,62,32,122,32,59,10,122,32,60,62,32,97,32,59,10]⟩
def nCyrillic:ByteArray:=⟨#[99,121,114,105,108,108,105,99]⟩
def tCyrillic:ByteArray:=⟨#[208,182,32,60,62,32,122,104,32,59,10,209,133,32,60,62,32,107,104,32,59,10,208,176,32,60,62,32,97,32,59,10,208,177,32,60,62,32,98,32,59,10,208,178,32,60,62,32,118,32,59,10,208,179,32,60,62,32,103,32,59,10,208,180,32,60,62,32,100,32,59,10,208,181,32,60,62,32,101,32,59,10,208,183,32,60,62,32,122,32,59,10,208,184,32,60,62,32,105,32,59,10,208,185,32,60,62,32,106,32,59,10,208,186,32,60,62,32,107,32,59,10,208,187,32,60,62,32,108,32,59,10,208,188,32,60,62,32,109,32,59,10,208,189,32,60,62,32,110,32,59,10,208,190,32,60,62,32,111,32,59,10,208,191,32,60,62,32,112,32,59,10,209,128,32,60,62,32,114,32,59,10,209,129,32,60,62,32,115,32,59,10,209,130,32,60,62,32,116,32,59,10,209,131,32,60,62,32,117,32,59,10,209,132,32,60,62,32,102,32,59,10]⟩
def nDashes:ByteArray:=⟨#[100,97,115,104,101,115]⟩
def tDashes:ByteArray:=⟨#[39,45,45,45,39,32,62,32,226,128,148,32,59,10,39,45,45,39,32,62,32,226,128,147,32,59,10]⟩
def nDots:ByteArray:=⟨#[100,111,116,115]⟩
def tDots:ByteArray:=⟨#[35,32,110,111,32,98,108,97,110,107,32,97,104,101,97,100,32,111,102,32,97,32,115,105,103,110,10,39,32,39,32,125,32,91,46,33,63,92,44,92,59,92,58,93,32,62,32,59,10]⟩
def nEdges:ByteArray:=⟨#[101,100,103,101,115]⟩
def tEdges:ByteArray:=⟨#[35,32,110,111,32,98,108,97,110,107,32,97,116,32,101,105,116,104,101,114,32,101,110,100,10,94,32,123,32,39,32,39,32,62,32,59,10,39,32,39,32,125,32,36,32,62,32,59,10]⟩
def nGerman:ByteArray:=⟨#[103,101,114,109,97,110]⟩
def tGerman:ByteArray:=⟨#[195,164,32,62,32,97,101,32,59,10,195,182,32,62,32,111,101,32,59,10,195,188,32,62,32,117,101,32,59,10,195,159,32,62,32,115,115,32,59,10,195,132,32,62,32,65,101,32,59,10,195,150,32,62,32,79,101,32,59,10,195,156,32,62,32,85,101,32,59,10]⟩
def nGreek:ByteArray:=⟨#[103,114,101,101,107]⟩
def tGreek:ByteArray:=⟨#[206,190,32,60,62,32,120,32,59,10,206,184,32,60,62,32,116,104,32,59,10,206,177,32,60,62,32,97,32,59,10,206,178,32,60,62,32,98,32,59,10,206,179,32,60,62,32,103,32,59,10,206,180,32,60,62,32,100,32,59,10,206,181,32,60,62,32,101,32,59,10,206,182,32,60,62,32,122,32,59,10,206,183,32,60,62,32,196,147,32,59,10,206,185,32,60,62,32,105,32,59,10,206,186,32,60,62,32,107,32,59,10,206,187,32,60,62,32,108,32,59,10,206,188,32,60,62,32,109,32,59,10,206,189,32,60,62,32,110,32,59,10,206,191,32,60,62,32,111,32,59,10,207,128,32,60,62,32,112,32,59,10,207,129,32,60,62,32,114,32,59,10,207,131,32,60,62,32,115,32,59,10,207,132,32,60,62,32,116,32,59,10,207,133,32,60,62,32,117,32,59,10,207,134,32,60,62,32,102,32,59,10,207,135,32,60,62,32,99,104,32,59,10,207,136,32,60,62,32,197,157,32,59,10,207,137,32,60,62,32,197,141,32,59,10]⟩
def nLeet:ByteArray:=⟨#[108,101,101,116]⟩
def tLeet:ByteArray:=⟨#[58,58,32,108,111,119,101,114,32,59,10,97,32,62,32,52,32,59,10,101,32,62,32,51,32,59,10,105,32,62,32,49,32,59,10,111,32,62,32,48,32,59,10,115,32,62,32,53,32,59,10,116,32,62,32,55,32,59,10]⟩
def nMorse:ByteArray:=⟨#[109,111,114,115,101]⟩
def tMorse:ByteArray:=⟨#[97,32,60,62,32,39,46,45,32,39,32,59,10,98,32,60,62,32,39,45,46,46,46,32,39,32,59,10,99,32,60,62,32,39,45,46,45,46,32,39,32,59,10,100,32,60,62,32,39,45,46,46,32,39,32,59,10,101,32,60,62,32,39,46,32,39,32,59,10,102,32,60,62,32,39,46,46,45,46,32,39,32,59,10,103,32,60,62,32,39,45,45,46,32,39,32,59,10,104,32,60,62,32,39,46,46,46,46,32,39,32,59,10,105,32,60,62,32,39,46,46,32,39,32,59,10,106,32,60,62,32,39,46,45,45,45,32,39,32,59,10,107,32,60,62,32,39,45,46,45,32,39,32,59,10,108,32,60,62,32,39,46,45,46,46,32,39,32,59,10,109,32,60,62,32,39,45,45,32,39,32,59,10,110,32,60,62,32,39,45,46,32,39,32,59,10,111,32,60,62,32,39,45,45,45,32,39,32,59,10,112,32,60,62,32,39,46,45,45,46,32,39,32,59,10,113,32,60,62,32,39,45,45,46,45,32,39,32,59,10,114,32,60,62,32,39,46,45,46,32,39,32,59,10,115,32,60,62,32,39,46,46,46,32,39,32,59,10,116,32,60,62,32,39,45,32,39,32,59,10,117,32,60,62,32,39,46,46,45,32,39,32,59,10,118,32,60,62,32,39,46,46,46,45,32,39,32,59,10,119,32,60,62,32,39,46,45,45,32,39,32,59,10,120,32,60,62,32,39,45,46,46,45,32,39,32,59,10,121,32,60,62,32,39,45,46,45,45,32,39,32,59,10,122,32,60,62,32,39,45,45,46,46,32,39,32,59,10]⟩
def nPoints:ByteArray:=⟨#[112,111,105,110,116,115]⟩
def tPoints:ByteArray:=⟨#[39,46,46,46,39,32,62,32,226,128,166,32,59,10]⟩
def nQuotes:ByteArray:=⟨#[113,117,111,116,101,115]⟩
def tQuotes:ByteArray:=⟨#[94,32,123,32,39,34,39,32,62,32,226,128,156,32,59,10,39,32,39,32,123,32,39,34,39,32,62,32,226,128,156,32,59,10,39,34,39,32,62,32,226,128,157,32,59,10]⟩
def nRovar:ByteArray:=⟨#[114,111,118,97,114]⟩
def tRovar:ByteArray:=⟨#[98,32,62,32,98,111,98,32,59,10,99,32,62,32,99,111,99,32,59,10,100,32,62,32,100,111,100,32,59,10,102,32,62,32,102,111,102,32,59,10,103,32,62,32,103,111,103,32,59,10,104,32,62,32,104,111,104,32,59,10,106,32,62,32,106,111,106,32,59,10,107,32,62,32,107,111,107,32,59,10,108,32,62,32,108,111,108,32,59,10,109,32,62,32,109,111,109,32,59,10,110,32,62,32,110,111,110,32,59,10,112,32,62,32,112,111,112,32,59,10,113,32,62,32,113,111,113,32,59,10,114,32,62,32,114,111,114,32,59,10,115,32,62,32,115,111,115,32,59,10,116,32,62,32,116,111,116,32,59,10,118,32,62,32,118,111,118,32,59,10,119,32,62,32,119,111,119,32,59,10,120,32,62,32,120,111,120,32,59,10,122,32,62,32,122,111,122,32,59,10]⟩
def nSigma:ByteArray:=⟨#[115,105,103,109,97]⟩
def tSigma:ByteArray:=⟨#[207,131,32,125,32,91,94,32,91,58,103,114,101,101,107,58,93,93,32,62,32,207,130,32,59,10,207,131,32,125,32,36,32,62,32,207,130,32,59,10]⟩
def nSqueeze:ByteArray:=⟨#[115,113,117,101,101,122,101]⟩
def tSqueeze:ByteArray:=⟨#[35,32,111,102,32,114,117,110,115,32,111,102,32,116,104,101,32,115,97,109,101,32,99,111,110,115,111,110,97,110,116,32,111,110,101,32,105,115,32,108,101,102,116,10,98,32,98,32,62,32,124,32,98,32,59,10,99,32,99,32,62,32,124,32,99,32,59,10,100,32,100,32,62,32,124,32,100,32,59,10]⟩
def nTelex:ByteArray:=⟨#[116,101,108,101,120]⟩
def tTelex:ByteArray:=⟨#[97,119,32,62,32,196,131,32,59,10,97,97,32,62,32,195,162,32,59,10,101,101,32,62,32,195,170,32,59,10,111,111,32,62,32,195,180,32,59,10,111,119,32,62,32,198,161,32,59,10,117,119,32,62,32,198,176,32,59,10,100,100,32,62,32,196,145,32,59,10]⟩
def nVowels:ByteArray:=⟨#[118,111,119,101,108,115]⟩
def tVowels:ByteArray:=⟨#[91,91,58,118,111,119,101,108,58,93,93,32,62,32,59,10]⟩
def row:List (ByteArray×ByteArray):= [(nArrows,tArrows),(nBlanks,tBlanks),(nCaesar,tCaesar),(nCyrillic,tCyrillic),(nDashes,tDashes),(nDots,tDots),(nEdges,tEdges),(nGerman,tGerman),(nGreek,tGreek),(nLeet,tLeet),(nMorse,tMorse),(nPoints,tPoints),(nQuotes,tQuotes),(nRovar,tRovar),(nSigma,tSigma),(nSqueeze,tSqueeze),(nTelex,tTelex),(nVowels,tVowels)]
def textF (name:ByteArray):ByteArray×Int:=match row.find? (fun x=>x.1.toList==name.toList) with | some x=>(x.2,0) | none=>(⟨#[]⟩,7)
theorem zpj (name:ByteArray):(row.find? (fun x=>x.1.toList==name.toList)=none->textF name=(⟨#[]⟩,7))/\∀x,row.find? (fun x=>x.1.toList==name.toList)=some x->textF name=(x.2,0):=by
 unfold textF;generalize row.find? (fun x=>x.1.toList==name.toList)=o;exact⟨fun h=>by rw[h],fun x h=>by rw[h]⟩
theorem zfx {α β:Type}(f g:α->β):∀(l:List α) (j:Nat),(l.flatMap fun x=> [f x,g x])[j*2]?=(l[j]?).map f
 | [],j=>by simp
 | x::l,0=>by simp
 | x::l,j+1=>by
  have h:=zfx f g l j;have e:(j+1)*2=j*2+1+1:=by omega
  rw[e];simpa using h
theorem zhi {α β:Type}(f g:α->β):∀(l:List α) (j:Nat),(l.flatMap fun x=> [f x,g x])[j*2+1]?=(l[j]?).map g
 | [],j=>by simp
 | x::l,0=>by simp
 | x::l,j+1=>by
  have h:=zhi f g l j;have e:(j+1)*2+1=j*2+1+1+1:=by omega
  rw[e];simpa using h
theorem zom {α:Type}{P:α->Bool}{l:List α}{j:Nat}{x:α}(h:l[j]?=some x)(h0:(l.take j).find? P=none):(P x=false->(l.take (j+1)).find? P=none)/\(P x=true->l.find? P=some x):=by
 have hlt:=(qL.1 h).1;constructor
 ·intro hp;rw[List.take_add_one,h,List.find?_append,h0];simp[hp]
 ·intro hp
  have e:l=l.take j++x::l.drop (j+1):=by
   have h2:l[j]=x:=(qL.1 h).2;rw[<- h2,List.getElem_cons_drop,List.take_append_drop]
  rw[e,List.find?_append,h0];simp[hp]
end Go.Proofs.YtgbhkkojkpndmaaGreatDoor.Sh
namespace Go.Proofs.YtgbhkkojkpndmaaGreatDoor.M
theorem width_pos (s:ByteArray)(pos:Nat)(h:pos<s.size):1<=(Utf8.decode s pos).2:=by
 by_cases ha:(s[pos]'h).toNat<128
 ·rw[decode_ascii s pos h ha];exact qN
 ·exact(decode_high s pos h (by omega)).2
theorem zky (s:ByteArray)(pos:Nat)(h:pos<s.size):(Utf8.decode s pos).2<=4/\pos+(Utf8.decode s pos).2<=s.size:=by
 rw[Lib.decode_at];unfold Lib.decodeN
 repeat' split
 all_goals simp only
 all_goals omega
def steps (s:ByteArray):Nat->Nat->List (Nat×Nat)
 | 0,_=> []
 | b+1,pos=>if pos<s.size then (pos,(Utf8.decode s pos).1)::steps s b (pos+(Utf8.decode s pos).2) else []
theorem zeq (s:ByteArray)(b pos:Nat)(h:¬pos<s.size):steps s b pos= []:=by
 cases b with
 | zero=>rfl
 | succ b=>simp[steps,h]
def all (s:ByteArray):List (Nat×Nat):=steps s s.size 0
def rn (s:ByteArray):List Int:=(all s).map fun x=>(x.2:Int)
def pl (s:ByteArray):List Int:=(all s).map (fun x=>(x.1:Int))++ [(s.size:Int)]
theorem zea (s:ByteArray):∀(b pos:Nat),(steps s b pos).length<=b
 | 0,_=>by simp[steps]
 | b+1,pos=>by
  unfold steps;split
  ·have:=zea s b (pos+(Utf8.decode s pos).2);simp only[List.length_cons];omega
  ·simp
theorem zb3 (s:ByteArray):(rn s).length<=s.size:=by simpa [rn,all] using zea s s.size 0
def plFrom (s:ByteArray) (b pos:Nat):List Int:=(steps s b pos).map (fun x=>(x.1:Int))++ [(s.size:Int)]
def right (r:Int):Bool:=decide (0<=r/\r<=1114111/\(r<55296∨57343<r))
def pre (s p:ByteArray):Bool:=decide (p.size<=s.size)&&((s.extract 0 p.size).data.toList==p.data.toList)
end Go.Proofs.YtgbhkkojkpndmaaGreatDoor.M
namespace Go.Proofs.YtgbhkkojkpndmaaGreatDoor.K
open S (Sp)
structure Rule where
 start:Bool
 fin:Bool
 before:List (List Sp)
 source:List (List Sp)
 after:List (List Sp)
 target:List Int
 cursor:Int
def firstE:List (List Sp)->Int
 | []=>0
 | s::l=>if S.wrongE s=0 then firstE l else S.wrongE s
def setsE (l:List (List Sp)):Int:=if 20<l.length then 5 else firstE l
def allR (l:List Int):Bool:=l.all M.right
def tailE (r:Rule):Int :=
 if r.source.length=0 then 6 else if 20<r.target.length then 5
 else if allR r.target=false then 3 else if r.cursor<0 then 3 else if (r.target.length:Int)<r.cursor then 3 else 0
def ruleE (r:Rule):Int :=
 if setsE r.before≠0 then setsE r.before else if setsE r.source≠0 then setsE r.source else if setsE r.after≠0 then setsE r.after else tailE r
def textE (l:List Int):Int:=if 4000<l.length then 4 else if allR l=true then 0 else 3
theorem zjf {l:List (List Sp)}{k:Nat}{s:List Sp}(h:l[k]?=some s):firstE (l.drop k)=if S.wrongE s=0 then firstE (l.drop (k+1)) else S.wrongE s:=by
 have hlt:=(qL.1 h).1;rw[List.drop_eq_getElem_cons hlt];have:l[k]=s:=by rw[List.getElem?_eq_getElem hlt] at h;exact Option.some.inj h
 rw[this];rfl
theorem zc7 {l:List (List Sp)}:firstE l=0↔∀s∈l,S.wrongE s=0:=by
 induction l with
 | nil=>simp[firstE]
 | cons s l ih =>
  rw[firstE]
  by_cases h:S.wrongE s=0
  ·simp[h,ih]
  ·simp[h]
def Good (l:List (List Sp)):Prop:=l.length<=20/\∀s∈l,S.Nf 0 s/\s.length<=200
theorem zdz {l:List (List Sp)}:setsE l=0↔Good l:=by
 unfold setsE Good
 by_cases h:20<l.length
 ·rw[if_pos h];exact⟨fun h=>absurd h (by decide),fun h=>by omega⟩
 ·rw[if_neg h,zc7];exact⟨fun h'=>⟨by omega,fun s hs=>⟨(S.zav.1 (h' s hs)).2,(S.zav.1 (h' s hs)).1⟩⟩,fun h' s hs=>S.zav.2 ⟨(h'.2 s hs).2,(h'.2 s hs).1⟩⟩
theorem zat {r:Rule}(h:ruleE r=0):Good r.before/\Good r.source/\Good r.after/\0<r.source.length/\r.target.length<=20/\allR r.target=true/\0<=r.cursor/\r.cursor<=r.target.length:=by
 unfold ruleE at h
 by_cases h1:setsE r.before=0
 ·rw[if_neg (by simp[h1])] at h
  by_cases h2:setsE r.source=0
  ·rw[if_neg (by simp[h2])] at h
   by_cases h3:setsE r.after=0
   ·rw[if_neg (by simp[h3])] at h;refine⟨zdz.1 h1,zdz.1 h2,zdz.1 h3,?_⟩;unfold tailE at h
    by_cases h4:r.source.length=0
    ·rw[if_pos h4] at h;exact absurd h (by decide)
    ·rw[if_neg h4] at h
     by_cases h5:20<r.target.length
     ·rw[if_pos h5] at h;exact absurd h (by decide)
     ·rw[if_neg h5] at h
      by_cases h6:allR r.target=false
      ·rw[if_pos h6] at h;exact absurd h (by decide)
      ·rw[if_neg h6] at h
       by_cases h7:r.cursor<0
       ·rw[if_pos h7] at h;exact absurd h (by decide)
       ·rw[if_neg h7] at h
        by_cases h8:(r.target.length:Int)<r.cursor
        ·rw[if_pos h8] at h;exact absurd h (by decide)
        ·exact⟨by omega,by omega,by simpa using h6,by omega,by omega⟩
   ·rw[if_pos h3] at h;exact absurd h h3
  ·rw[if_pos h2] at h;exact absurd h h2
 ·rw[if_pos h1] at h;exact absurd h h1
theorem zk2 {l:List Int}(h:textE l=0):l.length<=4000:=by
 unfold textE at h
 by_cases h1:4000<l.length
 ·rw[if_pos h1] at h;exact absurd h (by decide)
 ·omega
def runAt (t:List Int):Int->List (List Sp)->Bool
 | _,[]=>true
 | k,s::l=>(decide (0<=k)&&decide (k<t.length)&&S.memb s (t.getD k.toNat 0))&&runAt t (k+1) l
def matchB (r:Rule) (t:List Int) (at_:Int):Bool :=
 runAt t (at_ - r.before.length) (r.before++r.source++r.after)&& !(r.start&&decide (0<at_ - r.before.length))&& !(r.fin&&decide (at_+r.source.length+r.after.length<t.length))
def putL (r:Rule) (t:List Int) (at_:Int):List Int:=t.take at_.toNat++r.target++t.drop (at_.toNat+r.source.length)
theorem zbv (t:List Int)(a b:List (List Sp)):∀k,runAt t k (a++b)=(runAt t k a&&runAt t (k+a.length) b):=by
 induction a with
 | nil=>intro k;simp[runAt]
 | cons s a ih =>
  intro k;rw[List.cons_append,runAt,runAt,ih,List.length_cons];rw[show k+1+(a.length:Int)=k+((a.length+1:Nat):Int) by omega];simp only[Bool.and_assoc]
theorem zfu {t:List Int}{l:List (List Sp)}:∀ {k},runAt t k l=true->l≠ []->0<=k/\k+l.length<=t.length:=by
 induction l with
 | nil=>intro k _ h;exact absurd rfl h
 | cons s l ih =>
  intro k h _;rw[runAt] at h;simp only[Bool.and_eq_true,decide_eq_true_eq] at h
  by_cases hl:l= []
  ·subst hl;simp only[List.length_cons,List.length_nil];omega
  ·have:=ih h.2 hl;simp only[List.length_cons];omega
theorem zk8 {t:List Int}{l:List (List Sp)}{i:Nat}{s:List Sp}{k:Int}(h:l[i]?=some s):runAt t (k+i) (l.drop i)=((decide (0<=k+i)&&decide (k+i<t.length)&&S.memb s (t.getD (k+i).toNat 0))&&runAt t (k+(i+1:Nat)) (l.drop (i+1))):=by
 have hlt:=(qL.1 h).1;rw[List.drop_eq_getElem_cons hlt];have:l[i]=s:=by rw[List.getElem?_eq_getElem hlt] at h;exact Option.some.inj h
 rw[this,runAt];rw[show k+(i:Int)+1=k+((i+1:Nat):Int) by omega]
theorem zkb {r:Rule}{t:List Int}{at_:Int}(hs:0<r.source.length)
  (h:at_ - r.before.length<0∨(t.length:Int) - at_ - r.source.length - r.after.length<0∨(r.start=true/\0<at_ - r.before.length)∨(r.fin=true/\0<(t.length:Int) - at_ - r.source.length - r.after.length)):matchB r t at_=false:=by
 unfold matchB;cases hr:runAt t (at_ - r.before.length) (r.before++r.source++r.after) with
 | false=>simp
 | true =>
  have hne:r.before++r.source++r.after≠ []:=by
   intro he;have:=congrArg List.length he;simp only[List.length_append,List.length_nil] at this;omega
  have hm:=zfu hr hne;simp only[List.length_append] at hm;rcases h with h | h | ⟨h1,h2⟩|⟨h1,h2⟩
  ·omega
  ·omega
  ·simp[h1];omega
  ·simp[h1];intro _;omega
theorem zlp {r:Rule}{t:List Int}{at_:Int}
  (h3:¬(r.start=true/\0<at_ - r.before.length)) (h4:¬(r.fin=true/\0<(t.length:Int) - at_ - r.source.length - r.after.length)) :
  matchB r t at_=(runAt t (at_ - r.before.length) r.before&&runAt t at_ r.source&&runAt t (at_+r.source.length) r.after):=by
 unfold matchB;rw[zbv,zbv];have e1:at_ - (r.before.length:Int)+r.before.length=at_:=by omega
 have e2:at_ - (r.before.length:Int)+((r.before++r.source).length:Nat)=at_+r.source.length:=by rw[List.length_append];omega
 rw[e1,e2]
 have e3:(!(r.start&&decide (0<at_ - (r.before.length:Int))))=true:=by
  cases hs:r.start with
  | false=>rfl
  | true=>have:¬(0<at_ - (r.before.length:Int)):=fun h=>h3 ⟨hs,h⟩;simp;omega
 have e4:(!(r.fin&&decide (at_+r.source.length+r.after.length<(t.length:Int))))=true:=by
  cases hs:r.fin with
  | false=>rfl
  | true=>have:¬(0<(t.length:Int) - at_ - r.source.length - r.after.length):=fun h=>h4 ⟨hs,h⟩;simp;omega
 rw[e3,e4];simp
theorem zp9 {r:Rule}{t:List Int}{at_:Int}(hs:0<r.source.length)(h:matchB r t at_=true):0<=at_ - r.before.length/\at_+r.source.length+r.after.length<=t.length:=by
 unfold matchB at h;simp only[Bool.and_eq_true] at h
 have hne:r.before++r.source++r.after≠ []:=by
  intro he;have:=congrArg List.length he;simp only[List.length_append,List.length_nil] at this;omega
 have hm:=zfu h.1.1 hne;simp only[List.length_append] at hm;omega
end Go.Proofs.YtgbhkkojkpndmaaGreatDoor.K
namespace Go.Proofs.YtgbhkkojkpndmaaGreatDoor.K
open Go.RowKit
def I64 (n:Int):Prop:= -9223372036854775808<=n/\n<=9223372036854775807
def SetIs (w:World) (u:Value) (s:List S.Sp):Prop:=(∃so sc,u= .slice so s.length sc)/\S.Rd w u s/\S.Fit s
def Sets (w:World) (vs:List Value) (l:List (List S.Sp)):Prop:=vs.length=l.length/\∀(j:Nat) u s,vs[j]?=some u->l[j]?=some s->SetIs w u s
def Ss (w:World) (v:Value) (l:List (List S.Sp)):Prop :=
 ∃ao cap vs,v= .slice ao l.length cap/\(ao=none->cap=0)/\l.length<=140737488355328/\Sets w vs l/\(l≠ []->∃b off,ao=some ⟨b,off,none⟩/\∀(j:Nat) u,vs[j]?=some u->w.cell? ⟨b,off+j,none⟩=some u)
theorem SetIs.below {w w':World}{u:Value}{s:List S.Sp}(h:SetIs w u s)(hb:Below w.heap.size w w'):SetIs w' u s:=⟨h.1,h.2.1.below hb qN,h.2.2⟩
theorem Sets.below {w w':World}{vs:List Value}{l:List (List S.Sp)}(h:Sets w vs l)(hb:Below w.heap.size w w'):Sets w' vs l:=⟨h.1,fun j u s hu hs=>(h.2 j u s hu hs).below hb⟩
theorem Ss.below {w w':World}{v:Value}{l:List (List S.Sp)}(h:Ss w v l)(hb:Below w.heap.size w w'):Ss w' v l:=by
 obtain⟨ao,cap,vs,rfl,hn,hl,hs,hc⟩:=h;refine⟨ao,cap,vs,rfl,hn,hl,hs.below hb,fun hz=> ?_⟩;obtain⟨b,off,rfl,hc2⟩:=hc hz;refine⟨b,off,rfl,fun j u hj=> ?_⟩;have h1:=hc2 j u hj;have:=L.block_lt h1;rw[hb.cell (p:=⟨b,off+j,none⟩) this];exact h1
theorem Ss.len {w:World}{v:Value}{l:List (List S.Sp)}(h:Ss w v l):∃ao cap,v= .slice ao l.length cap:=by
 obtain⟨ao,cap,vs,rfl,_⟩:=h;exact⟨ao,cap,rfl⟩
theorem Ss.few {w:World}{v:Value}{l:List (List S.Sp)}(h:Ss w v l):l.length<=140737488355328:=by
 obtain⟨ao,cap,vs,rfl,_,h,_⟩:=h;exact h
theorem Ss.at {w:World}{ao:Option Addr}{n cap:Nat}{l:List (List S.Sp)}(h:Ss w (.slice ao n cap) l){j:Nat}{s:List S.Sp}(hj:l[j]?=some s) :
  ∃b off so sc,ao=some ⟨b,off,none⟩/\w.cell? ⟨b,off+j,none⟩=some (.slice so s.length sc)/\S.Rd w (.slice so s.length sc) s/\S.Fit s:=by
 obtain⟨ao',cap',vs,he,hn,hl,hs,hc⟩:=h;cases he;obtain⟨b,off,rfl,hc2⟩:=hc (by intro h;subst h;simp at hj);have hlt:j<vs.length:=by rw[hs.1];exact(qL.1 hj).1
 obtain⟨u,hu⟩:∃u,vs[j]?=some u:=⟨vs[j],by simp⟩;obtain⟨⟨so,sc,rfl⟩,h2,h3⟩:=hs.2 j u s hu hj;exact⟨b,off,so,sc,rfl,hc2 j _ hu,h2,h3⟩
theorem Sets.append {w:World}{us vs:List Value}{l m:List (List S.Sp)}(h:Sets w us l)(h':Sets w vs m):Sets w (us++vs) (l++m):=by
 refine⟨by simp[h.1,h'.1],fun j u s hu hs=> ?_⟩
 by_cases hj:j<us.length
 ·rw[List.getElem?_append_left hj] at hu;rw[List.getElem?_append_left (by rw[<- h.1];exact hj)] at hs;exact h.2 j u s hu hs
 ·rw[List.getElem?_append_right (by omega)] at hu;rw[List.getElem?_append_right (by rw[<- h.1];omega),<- h.1] at hs;exact h'.2 _ u s hu hs
theorem Sets.one {w:World}{vs:List Value}{l:List (List S.Sp)}(h:Sets w vs l){u:Value}(hu:u∈vs):u.oneCell'=true:=by
 obtain⟨j,hj⟩:=List.getElem?_of_mem hu;have hlt:j<l.length:=by rw[<- h.1];exact(qL.1 hj).1
 obtain⟨s,hs⟩:∃s,l[j]?=some s:=⟨l[j],by simp⟩;obtain⟨⟨so,sc,rfl⟩,_⟩:=h.2 j u s hj hs;rfl
/-! boxes -/
theorem zah {w:World}{b i:Nat}{c:Array Value}{t:TypeId}{v:Value}(h:w.heap[b]?=some (.cells c t))(hv:c[i]?=some v):w.cell? ⟨b,i,none⟩=some v:=by
 rw[World.cell?];simp[h,hv]
theorem zae {w w':World}{b:Nat}{o:Obj}(h:w.heap[b]?=some o)(hb:Below w.heap.size w w'):w'.heap[b]?=some o:=by
 rw[hb.block b (qA.1 h).1];exact h
theorem za2 {w w1:World}{o1:Obj}(h:Below (w.alloc o1).heap.size (w.alloc o1) w1):w1.heap[w.heap.size]?=some o1/\Below w.heap.size w w1/\w.heap.size+1<=w1.heap.size:=by
 have hs:=h.size;simp at hs;refine⟨zae (heap_alloc_new w o1) h,((qR w).alloc qN o1).trans (h.mono (by simp)),hs⟩
theorem zbr {w w1:World}{o1 o2:Obj}(h:Below ((w.alloc o1).alloc o2).heap.size ((w.alloc o1).alloc o2) w1) :
  w1.heap[w.heap.size]?=some o1/\w1.heap[w.heap.size+1]?=some o2/\Below w.heap.size w w1/\w.heap.size+2<=w1.heap.size:=by
 have hs:=h.size;simp at hs;have e1:=heap_alloc_new (w.alloc o1) o2;simp at e1;have e2:((w.alloc o1).alloc o2).heap[w.heap.size]?=some o1:=(Below.heap_alloc (w.alloc o1) o2 w.heap.size (by simp)).trans (heap_alloc_new w o1);exact⟨zae e2 h,zae (by simpa using e1) h,(((qR w).alloc qN o1).alloc (by simp) o2).trans (h.mono (by simp;omega)),by omega⟩
def RuIs (w:World) (v:Value) (r:Rule):Prop :=
 ∃bo bc so sc ao ac tgo tc,v= .agg #[.bool r.start,.bool r.fin,.slice bo r.before.length bc,.slice so r.source.length sc,.slice ao r.after.length ac,.slice tgo r.target.length tc,.int .i64 r.cursor] /\
  Ss w (.slice bo r.before.length bc) r.before/\Ss w (.slice so r.source.length sc) r.source/\Ss w (.slice ao r.after.length ac) r.after/\L.Rd w (.slice tgo r.target.length tc) .i32 r.target/\r.target.length<=140737488355328/\I64 r.cursor
theorem RuIs.below {w w':World}{v:Value}{r:Rule}(h:RuIs w v r)(hb:Below w.heap.size w w'):RuIs w' v r:=by
 obtain⟨bo,bc,so,sc,ao,ac,tgo,tc,rfl,h1,h2,h3,h4,h5⟩:=h;exact⟨bo,bc,so,sc,ao,ac,tgo,tc,rfl,h1.below hb,h2.below hb,h3.below hb,h4.below hb qN,h5⟩
end Go.Proofs.YtgbhkkojkpndmaaGreatDoor.K
namespace Go.Proofs.YtgbhkkojkpndmaaGreatDoor
open Go.RowKit
set_option maxRecDepth 40000
namespace Sh
def Fs (w:World) (v:Value) (l:List (ByteArray×ByteArray)):Prop :=
 ∃b,v= .slice (some ⟨b,0,none⟩) l.length l.length/\l.length<=8000/\∀(j:Nat) x,l[j]?=some x->w.cell? ⟨b,j*2,none⟩=some (.string x.1)/\w.cell? ⟨b,j*2+1,none⟩=some (.string x.2)
theorem Fs.below {w w':World}{v:Value}{l:List (ByteArray×ByteArray)}(h:Fs w v l)(hb:Below w.heap.size w w'):Fs w' v l:=by
 obtain⟨b,rfl,hl,hc⟩:=h;refine⟨b,rfl,hl,fun j x hj=> ?_⟩;obtain⟨c0,c1⟩:=hc j x hj;exact⟨by rw[hb.cell (p:=⟨b,j*2,none⟩) (L.block_lt c0)];exact c0,by rw[hb.cell (p:=⟨b,j*2+1,none⟩) (L.block_lt c1)];exact c1⟩
theorem zsv (w:World)(C:Array Value)(t:TypeId)(l:List (ByteArray×ByteArray))(hC:C=(l.flatMap fun x=> [Value.string x.1,Value.string x.2]).toArray)(n:Nat)(hn:n=l.length)(hl:l.length<=8000):Fs (w.alloc (.cells C t)) (.slice (some ⟨w.heap.size,0,none⟩) n n) l:=by
 subst hC hn;refine⟨_,rfl,hl,fun j x hj=> ?_⟩;have h1:=World.cell?_alloc_mark w (l.flatMap fun x=> [Value.string x.1,Value.string x.2]).toArray t (0,0) (j*2);have h2:=World.cell?_alloc_mark w (l.flatMap fun x=> [Value.string x.1,Value.string x.2]).toArray t (0,0) (j*2+1);refine⟨?_,?_⟩
 ·rw[h1,List.getElem?_toArray,zfx,hj];rfl
 ·rw[h2,List.getElem?_toArray,zhi,hj];rfl
end Sh
theorem zin (w:World):Calls Tryz.prog 39 #[] w fun e w'=>∃v,e= .returned v/\Sh.Fs w' v Sh.row/\Below w.heap.size w w':=by
 go_enter Tryz.func39,Tryz.ntmps39
 go_wp2;go_ret
 exact⟨_,rfl,Sh.zsv w _ _ Sh.row (by kernel_rfl) 18 (by decide) (by decide),(qR w).alloc qN _⟩
theorem zim (w:World)(v:Value)(l:List (ByteArray×ByteArray))(R0:Sh.Fs w v l)(g:Nat)(cb:Array Value)(P:ByteArray×ByteArray->Bool)(eg:∀args w,(callFunc g args).run Tryz.prog w= .ok (.enter g args) w)
  (hh:∀W x,Below w.heap.size w W->Calls Tryz.prog g (#[.agg #[.string x.1,.string x.2]]++cb) W fun e w'=>e= .returned (.bool (P x))/\Below W.heap.size W w') :
  Calls Tryz.prog 40 #[v,.func (.func g) #[] cb] w fun e w'=>∃i:Int,e= .returned (.int .i64 i)/\((i= -1/\l.find? P=none)∨∃(j:Nat) (x:ByteArray×ByteArray),i=j/\l[j]?=some x/\l.find? P=some x)/\Below w.heap.size w w':=by
 have HR:Hid (Sh.Fs w v l):=R0;have HH:Hid (∀W x,Below w.heap.size w W->Calls Tryz.prog g (#[.agg #[.string x.1,.string x.2]]++cb) W fun e w'=>e= .returned (.bool (P x))/\Below W.heap.size W w'):=hh;obtain⟨b,rfl,hl,hcell⟩:=R0;have HC:Hid (∀(j:Nat) x,l[j]?=some x->w.cell? ⟨b,j*2,none⟩=some (.string x.1)/\w.cell? ⟨b,j*2+1,none⟩=some (.string x.2)):=hcell;clear hh hcell
 go_enter Tryz.func40,Tryz.ntmps40
 go_wp2
 go_loopw [8] (fun i wr=>∃j:Nat,j<=l.length/\i= .int .i64 j/\Hid ((l.take j).find? P=none)/\Hid (Below w.heap.size w wr)) (fun i _=>l.length - (intOf i).toNat)
 case atStart=>exact⟨0,Nat.zero_le _,rfl,by show (l.take 0).find? P=none;simp,qR w⟩
 case round =>
  obtain⟨j,hj,rfl,HW,HB⟩:=hrel
  by_cases hlt:j<l.length
  ·obtain⟨p,hp⟩:∃x,l[j]?=some x:=⟨l[j],by simp[hlt]⟩;obtain⟨c0,c1⟩:=HC.out j p hp;rw[<- HB.out.cell (p:=⟨b,j*2,none⟩) (L.block_lt c0)] at c0;rw[<- HB.out.cell (p:=⟨b,j*2+1,none⟩) (L.block_lt c1)] at c1;have HE2:Hid ((P p=false->(l.take (j+1)).find? P=none)/\(P p=true->l.find? P=some p)):=Sh.zom hp HW.out;have HP:Hid (l[j]?=some p):=hp;have hsz:=HB.out.size;have HW2:Hid (Calls Tryz.prog g (#[.agg #[.string p.1,.string p.2]]++cb) wr fun e w'=>e= .returned (.bool (P p))/\Below wr.heap.size wr w'):=HH.out wr p HB.out;generalize P p=z at HW2 HE2;clear hp;obtain⟨pn,pt⟩:=p;simp only at c0 c1 HW2
   go_wp2_with fail
   refine HW2.out.mono ?_;rintro e w1 ⟨rfl,B1⟩;have HB1:Hid (Below w.heap.size w w1):=HB.out.trans (B1.mono hsz);clear B1;cases z with
   | false =>
    have HT:Hid ((l.take (j+1)).find? P=none):=HE2.out.1 rfl;clear HE2;go_wp2
    go_roundw
    case rel=>exact⟨j+1,by omega,by go_num,HT,HB1⟩
    case measure=>simp[intOf];omega
   | true =>
    have HT:Hid (l.find? P=some (pn,pt)):=HE2.out.2 rfl;clear HE2;go_wp2;go_ret;exact⟨j,rfl,.inr ⟨j,_,rfl,HP.out,HT.out⟩,HB1.out⟩
  ·have hkl:j=l.length:=by omega
   subst hkl;go_wp2;go_ret;exact⟨-1,rfl,.inl ⟨rfl,by have:=HW.out;rw[List.take_length] at this;exact this⟩,HB.out⟩
theorem zil (w:World)(nb:Nat)(name a b:ByteArray)(h:w.heap[nb]?=some (.cells #[.string name] 9)) :
  Calls Tryz.prog 41 #[.agg #[.string a,.string b],.pointer (some ⟨nb,0,none⟩)] w fun e w'=>e= .returned (.bool (a.toList==name.toList))/\Below w.heap.size w w':=by
 have hlt:=lt_of_block h;have c0:=K.zah (i:=0) h rfl;have HB:Hid (∀o,Below w.heap.size w (w.alloc o)):=fun o=>(qR w).alloc qN o
 go_enter Tryz.func41,Tryz.ntmps41
 go_wp2;go_ret
 exact⟨rfl,HB.out _⟩
end Go.Proofs.YtgbhkkojkpndmaaGreatDoor
namespace Go.Proofs.YtgbhkkojkpndmaaGreatDoor
open Go.RowKit
set_option maxRecDepth 40000
theorem zk6 (name:ByteArray)(w:World):Calls Tryz.prog 29 #[.string name] w fun e w'=>e= .returned (.tuple #[.string (Sh.textF name).1,.int .i64 (Sh.textF name).2])/\Below w.heap.size w w':=by
 obtain⟨X,hX⟩:∃X,X=w.alloc (.cells #[.string name] 9):=⟨_,rfl⟩;have k1:=K.za2 (w:=w) (qR (w.alloc (.cells #[.string name] 9)));rw[<- hX] at k1;have HX:Hid (X.heap[w.heap.size]?=some (.cells #[.string name] 9)/\Below w.heap.size w X/\w.heap.size+1<=X.heap.size):=k1;have HF:Hid (Calls Tryz.prog 39 #[] X fun e w'=>∃v,e= .returned v/\Sh.Fs w' v Sh.row/\Below X.heap.size X w'):=zin X
 have HI:Hid (∀Y v,Below X.heap.size X Y->Sh.Fs Y v Sh.row->Calls Tryz.prog 40 #[v,.func (.func 41) #[] #[.pointer (some ⟨w.heap.size,0,none⟩)]] Y fun e w'=>∃i:Int,e= .returned (.int .i64 i)/\((i= -1/\Sh.row.find? (fun x=>x.1.toList==name.toList)=none)∨∃(j:Nat) (x:ByteArray×ByteArray),i=j/\Sh.row[j]?=some x/\Sh.row.find? (fun x=>x.1.toList==name.toList)=some x)/\Below Y.heap.size Y w'):=fun Y v hY hv =>
  zim Y v Sh.row hv 41 _ (fun x=>x.1.toList==name.toList) (fun _ _=>rfl) fun W x hW=>zil W w.heap.size name x.1 x.2 (K.zae (K.zae HX.out.1 hY) hW)
 have HO:Hid ((Sh.row.find? (fun x=>x.1.toList==name.toList)=none->Sh.textF name=(⟨#[]⟩,7))/\∀x,Sh.row.find? (fun x=>x.1.toList==name.toList)=some x->Sh.textF name=(x.2,0)):=Sh.zpj name;generalize Sh.textF name=tf at HO ⊢;generalize Sh.row=rw0 at HF HI HO;clear k1
 go_enter Tryz.func29,Tryz.ntmps29
 go_wp2_with fail
 rw[<- hX];refine HF.out.mono ?_;clear hX HF;rintro e w1 ⟨v1,rfl,hv1,b1⟩;have hI:=HI.out w1 v1 b1 hv1;have HB1:Hid (Below w.heap.size w w1):=HX.out.2.1.trans (b1.mono (by have:=HX.out.2.2;omega));have HV:Hid (Sh.Fs w1 v1 rw0):=hv1;obtain⟨fb,rfl,hln,_⟩:=hv1;clear HI b1
 go_wp2_with fail
 refine hI.mono ?_;clear hI;rintro e w2 ⟨i,rfl,hi,b2⟩;have HB2:Hid (Below w.heap.size w w2):=HB1.out.trans (b2.mono HB1.out.size);obtain⟨fb',e',_,hc⟩:=HV.out.below b2;cases e';rcases hi with ⟨rfl,hf⟩|⟨j,x,rfl,hj,hf⟩
 ·have h:=HO.out.1 hf;subst h;clear hc b2 HV HO hf;go_wp2;refine bodyPost_ret (v:= .tuple #[.string ⟨#[]⟩,.int .i64 7]) (by simp[results,Tryz.results29,go_sem, *]) rfl ?_;exact⟨rfl,HB2.out⟩
 ·have h:=HO.out.2 _ hf;subst h;obtain⟨c0,c1⟩:=hc j x hj;have hlt:=(qL.1 hj).1;obtain⟨xn,xt⟩:=x;simp only at c0 c1 ⊢;clear hc b2 HV HO hf hj;go_wp2;refine bodyPost_ret (v:= .tuple #[.string xt,.int .i64 0]) (by simp[results,Tryz.results29,go_sem, *]) rfl ?_;exact⟨rfl,HB2.out⟩
end Go.Proofs.YtgbhkkojkpndmaaGreatDoor
