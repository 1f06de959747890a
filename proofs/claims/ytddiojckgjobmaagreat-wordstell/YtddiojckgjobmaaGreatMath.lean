/-
 The plain mathematics of a text's runes: places and runes of a text from a place on, by the model's own decoding of UTF-8; no program is named here.
-/
import Derived.Laws.RangeAny
import Derived.Lib.DecodeN
namespace Go.Proofs.YtddiojckgjobmaaGreat.M
def steps (s:ByteArray):Nat->Nat->List (Nat×Nat)
 | 0,_=> []
 | b+1,pos=>if pos<s.size then (pos,(Utf8.decode s pos).1)::steps s b (pos+(Utf8.decode s pos).2) else []
def all (s:ByteArray):List (Nat×Nat):=steps s s.size 0
def rn (s:ByteArray):List Int:=(all s).map fun x=>(x.2:Int)
def pl (s:ByteArray):List Int:=(all s).map (fun x=>(x.1:Int))++ [(s.size:Int)]
def plFrom (s:ByteArray) (b pos:Nat):List Int:=(steps s b pos).map (fun x=>(x.1:Int))++ [(s.size:Int)]
def right (r:Int):Bool:=decide (0<=r/\r<=1114111/\(r<55296∨57343<r))
def pre (s p:ByteArray):Bool:=decide (p.size<=s.size)&&((s.extract 0 p.size).data.toList==p.data.toList)
end Go.Proofs.YtddiojckgjobmaaGreat.M
