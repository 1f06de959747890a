/-
 A slice of spans that came in, as a list of pairs of numbers.
-/
import Derived.Test.YtamfgmaipajodaaGreatDoorSLib
import Derived.Deep.SlicePairs
import Derived.Test.YtamfgmaipajodaaGreatDoorCards
import Derived.Test.YtamfgmaipajodaaGreatDoorTie
import Derived.WalkKit
import Derived.ProofKit
import Derived.OpenShut
import Derived.Deep.DeepHandedRow
import Derived.Lib.LaidTab
import Derived.SevenTiedAt
import Derived.Stop.LaidErr
import Derived.Laws.RangeAny
import Derived.Lib.DecodeN
import Derived.Laws.Cover4
namespace Go.Proofs.YtamfgmaipajodaaGreatDoor
open Go.ChangeShapes Go.WideShapes Go.ChangeAt Go.RowKit
theorem wf_i32 {n:Int}(h:(Lit.int .i32 n).wf=true): -2147483648<=n/\n<=2147483647:=by
 simp only[Lit.wf,Bool.and_eq_true,decide_eq_true_eq] at h;have e1:IntKind.i32.min= -2147483648:=by decide
 have e2:IntKind.i32.max=2147483647:=by decide
 rw[e1,e2] at h;omega
set_option maxRecDepth 100000 in
theorem zre {H:Type}{enc:TypeId×Value->H}{W:World}{base:Nat}{v:Value}{d:DataW H}{p:List MemPlace}
  (hv:Value.okWide Tryz.prog W .any base 24 v) (h:DataW.Trod enc Tryz.prog W 0 (fun _=>true) true 24 v d p) :
  ∃l:List S.Sp,S.Rd W v l/\S.Fit l/\l.length+1<=Rows.uptoBulk d/\∀ao n c,v= .slice ao n c->n<=c:=by
 obtain⟨a0,len0,cap0,rfl⟩:=okWide_slice Tryz.underlying24 hv;obtain⟨fuel,hf⟩:=h;obtain⟨f0,f1,hu,o0,o1,t0,t1⟩:∃f0 f1:Field,Tryz.prog.underlying 100=some (.struct #[f0,f1])/\f0.offset=0/\f1.offset=1/\f0.type=21/\f1.type=21:=⟨_,_,Tryz.underlying100,rfl,rfl,rfl,rfl⟩;rcases Go.Deep.open_slice_pairs Tryz.underlying24 hu (by kernel_rfl) o0 o1 (by rw[t0];kernel_rfl) (by rw[t1];kernel_rfl) hf with ⟨hcs,hx⟩|⟨a,len,cap,m,n,V0,V1,D0,D1,P0,P1,hcs,_,hl,hm,hmm,hx,hcell⟩
 ·simp[Value.cells] at hcs;obtain⟨rfl,rfl,rfl⟩:=hcs;exact⟨[],S.Rd.nil W,fun x hx=>by simp at hx,zld _,fun ao n c h=>by cases h;exact qN⟩
 ·simp[Value.cells] at hcs;obtain⟨rfl,rfl,rfl⟩:=hcs;simp only[Prod.mk.injEq] at hx;obtain⟨rfl,rfl⟩:=hx;simp only[if_true] at hmm;subst hmm
  have each:∀i,i<len0->∃x1 x2:Int,V0 i= .int .i32 x1/\V1 i= .int .i32 x2/\ -2147483648<=x1/\x1<=2147483647/\ -2147483648<=x2/\x2<=2147483647:=fun i hi=>by
   obtain⟨_,_,h3,h4⟩:=hcell i (by omega);rw[t0] at h3;rw[t1] at h4;obtain⟨x1,e1,_,w1⟩:=DataW.trod_int Tryz.underlying21 h3;obtain⟨x2,e2,_,w2⟩:=DataW.trod_int Tryz.underlying21 h4;have:=wf_i32 w1;have:=wf_i32 w2;exact⟨x1,x2,by simpa using e1,by simpa using e2,by omega,by omega,by omega,by omega⟩
  let g:Nat->S.Sp:=fun i=>(intOf (V0 i),intOf (V1 i))
  have hg:∀i,i<len0->V0 i= .int .i32 (g i).1/\V1 i= .int .i32 (g i).2/\ -2147483648<=(g i).1/\(g i).1<=2147483647/\ -2147483648<=(g i).2/\(g i).2<=2147483647:=fun i hi=>by
   obtain⟨x1,x2,e1,e2,h⟩:=each i hi;simp only[g,e1,e2,intOf];exact⟨trivial,trivial,h⟩
  have hlen:((List.range len0).map g).length=len0:=by simp
  refine⟨(List.range len0).map g,⟨_,m,by rw[hlen],fun h=>by simp at h,fun hne=> ?_⟩,fun x hx=> ?_,?_,fun ao n c h=>by cases h;exact hl⟩
  ·have h0:0<len0:=by
    cases len0 with
    | zero=>simp at hne
    | succ=>omega
   obtain⟨b,off,spot⟩:=a;have c0:=(hcell 0 (by omega)).1;have hsp:spot=none:=by simpa [Addr.add] using World.cell?_spot c0
   subst hsp;refine⟨b,off,rfl,fun j x hj=> ?_⟩
   have hj2:j<len0:=by
    have:=(qL.1 hj).1;rw[hlen] at this;exact this
   have hxj:g j=x:=by
    rw[List.getElem?_map,List.getElem?_range hj2] at hj;simpa using hj
   obtain⟨h3,h4,_⟩:=hcell j (by omega);rw[L.addr_add] at h3 h4;rw[<- Nat.add_assoc] at h4;rw[h3,h4,(hg j hj2).1,(hg j hj2).2.1,hxj];exact⟨rfl,rfl⟩
  ·obtain⟨i,hi,rfl⟩:=List.mem_map.1 hx;exact(hg i (by simpa using hi)).2.2
  ·have h5:=znc (H:=H) ((List.range len0).map fun i=> .agg [D0 i,D1 i]) ((List.range (m - len0)).map fun j=> .agg [D0 (len0+j),D1 (len0+j)]);simpa using h5
def tab64:List Int:= [0,1,56,2,57,49,28,3,61,58,42,50,38,29,17,4,62,47,59,36,45,43,51,22,53,39,33,30,24,18,12,5,63,55,48,27,60,41,37,16,46,35,44,21,52,32,23,11,54,26,40,15,34,20,31,10,25,14,19,9,13,8,7,6]
def pow10Cells:Array Value:=#[.int .u64 1,.int .u64 10,.int .u64 100,.int .u64 1000,.int .u64 10000,.int .u64 100000,.int .u64 1000000,.int .u64 10000000,.int .u64 100000000,.int .u64 1000000000,.int .u64 10000000000,.int .u64 100000000000,.int .u64 1000000000000,.int .u64 10000000000000,.int .u64 100000000000000,.int .u64 1000000000000000,.int .u64 10000000000000000,.int .u64 100000000000000000,.int .u64 1000000000000000000,.int .u64 10000000000000000000]
def tab32Cells:Array Value:=#[.int .u8 0,.int .u8 1,.int .u8 28,.int .u8 2,.int .u8 29,.int .u8 14,.int .u8 24,.int .u8 3,.int .u8 30,.int .u8 22,.int .u8 20,.int .u8 15,.int .u8 25,.int .u8 17,.int .u8 4,.int .u8 8,.int .u8 31,.int .u8 27,.int .u8 13,.int .u8 23,.int .u8 21,.int .u8 19,.int .u8 16,.int .u8 7,.int .u8 26,.int .u8 12,.int .u8 18,.int .u8 6,.int .u8 11,.int .u8 5,.int .u8 10,.int .u8 9]
def tab64Cells:Array Value:=#[.int .u8 0,.int .u8 1,.int .u8 56,.int .u8 2,.int .u8 57,.int .u8 49,.int .u8 28,.int .u8 3,.int .u8 61,.int .u8 58,.int .u8 42,.int .u8 50,.int .u8 38,.int .u8 29,.int .u8 17,.int .u8 4,.int .u8 62,.int .u8 47,.int .u8 59,.int .u8 36,.int .u8 45,.int .u8 43,.int .u8 51,.int .u8 22,.int .u8 53,.int .u8 39,.int .u8 33,.int .u8 30,.int .u8 24,.int .u8 18,.int .u8 12,.int .u8 5,.int .u8 63,.int .u8 55,.int .u8 48,.int .u8 27,.int .u8 60,.int .u8 41,.int .u8 37,.int .u8 16,.int .u8 46,.int .u8 35,.int .u8 44,.int .u8 21,.int .u8 52,.int .u8 32,.int .u8 23,.int .u8 11,.int .u8 54,.int .u8 26,.int .u8 40,.int .u8 15,.int .u8 34,.int .u8 20,.int .u8 31,.int .u8 10,.int .u8 25,.int .u8 14,.int .u8 19,.int .u8 9,.int .u8 13,.int .u8 8,.int .u8 7,.int .u8 6]
def relay (cs:Array Value):Obj->Obj
 | .cells _ t frozen=> .cells cs t frozen
 | o=>o
end Go.Proofs.YtamfgmaipajodaaGreatDoor
namespace Go.Proofs.YtamfgmaipajodaaGreatDoor.S
theorem zj0 (P:Int->Bool)(n:Nat)(hn:n<=1114112):∃s,Nf 0 s/\(∀q,memb s q=(decide (0<=q)&&decide (q<n)&&P q)):=by
 induction n with
 | zero=>exact⟨[],trivial,fun q=>by
   have:(decide (0<=q)&&decide (q<((0:Nat):Int)))=false:=by simp
   rw[this,zcb];simp⟩
 | succ n ih =>
  obtain⟨s,h1,h2⟩:=ih (by omega)
  have ends:∀p∈s,p.1<=p.2/\p.2<n:=fun p hp=>by
   have h3:=h1.mem hp;have h4:memb s p.2=true:=za6.2 ⟨p,hp,by omega,by omega⟩;rw[h2] at h4;simp at h4;omega
  cases hP:P n with
  | true =>
   have hj:=zk0 (x:=((n:Int),(n:Int))) h1 (by simp only;omega) (by simp only;omega) (by simp only;omega) fun p hp=>by
    have:=ends p (List.mem_of_getLast? hp);simp only;omega
   refine⟨_,hj.1,fun q=> ?_⟩;rw[hj.2,h2];simp only
   by_cases hq:q=n
   ·subst hq;simp[hP];omega
   ·have e1:(decide ((n:Int)<=q)&&decide (q<=(n:Int)))=false:=by simp;omega
    have e2:decide (q<(n:Int))=decide (q<((n+1:Nat):Int)):=by apply zd7;simp;omega
    rw[e1,e2,Bool.or_false]
  | false =>
   refine⟨s,h1,fun q=> ?_⟩;rw[h2]
   by_cases hq:q=n
   ·subst hq;simp[hP]
   ·have e2:decide (q<(n:Int))=decide (q<((n+1:Nat):Int)):=by apply zd7;simp;omega
    rw[e2]
theorem zqe {P:Int->Bool}(h:∀q,P q=(inR q&&P q)):∃s,Is P s:=by
 obtain⟨s,h1,h2⟩:=zj0 P 1114112 (by omega);refine⟨s,h1,fun q=> ?_⟩;rw[h2,h q]
 have:(decide (0<=q)&&decide (q<((1114112:Nat):Int)))=inR q:=by
  apply zd7;simp[inR];omega
 rw[this];cases inR q <;> simp
theorem zvx {P:Int->Bool}(h:∀q,P q=(inR q&&P q)):Nf 0 (nf P)/\memb (nf P)=P:=by
 have:=zvm (zqe h);exact⟨this.1,funext this.2⟩
theorem zo7 (a b:List Sp)(q:Int):orP a b q=(inR q&&orP a b q):=by unfold orP;cases inR q <;> simp
theorem zvd (a b:List Sp)(q:Int):andP a b q=(inR q&&andP a b q):=by unfold andP;cases inR q <;> simp
theorem zuk (a b:List Sp)(q:Int):minP a b q=(inR q&&minP a b q):=by unfold minP;cases inR q <;> simp
theorem zui (a:List Sp)(q:Int):notP a q=(inR q&&notP a q):=by unfold notP;cases inR q <;> simp
noncomputable def U (a b:List Sp):List Sp:=nf (orP a b)
noncomputable def I (a b:List Sp):List Sp:=nf (andP a b)
noncomputable def D (a b:List Sp):List Sp:=nf (minP a b)
noncomputable def C (a:List Sp):List Sp:=nf (notP a)
theorem zbc {a:List Sp}(h:Nf 0 a)(hl:a.length<=200):wrongE a=0:=zas.2 ⟨hl,h⟩
theorem zt0 {P:Int->Bool}(h:(nf P).length<=200):resL 0 0 P=nf P:=by
 unfold resL fewL;simp;omega
theorem zt1 {P:Int->Bool}(h:(nf P).length<=200):resE 0 0 P=0:=by
 unfold resE fewE;simp;omega
def cnt (P:Int->Bool):Nat->Nat
 | 0=>0
 | n+1=>cnt P n+if P n=true then 1 else 0
def total:List Sp->Int
 | []=>0
 | x::l=>(x.2 - x.1+1)+total l
def nthF:List Sp->Int->Option Int
 | [],_=>none
 | x::l,k=>if k<x.2 - x.1+1 then some (x.1+k) else nthF l (k - (x.2 - x.1+1))
end Go.Proofs.YtamfgmaipajodaaGreatDoor.S
namespace Go.Proofs.YtamfgmaipajodaaGreatDoor.M
theorem width_pos (s:ByteArray)(pos:Nat)(h:pos<s.size):1<=(Utf8.decode s pos).2:=by
 by_cases ha:(s[pos]'h).toNat<128
 ·rw[decode_ascii s pos h ha];exact qN
 ·exact(decode_high s pos h (by omega)).2
def steps (s:ByteArray):Nat->Nat->List (Nat×Nat)
 | 0,_=> []
 | b+1,pos=>if pos<s.size then (pos,(Utf8.decode s pos).1)::steps s b (pos+(Utf8.decode s pos).2) else []
theorem zhf (s:ByteArray)(b pos:Nat)(h:¬pos<s.size):steps s b pos= []:=by
 cases b with
 | zero=>rfl
 | succ b=>simp[steps,h]
def all (s:ByteArray):List (Nat×Nat):=steps s s.size 0
def rn (s:ByteArray):List Int:=(all s).map fun x=>(x.2:Int)
def pl (s:ByteArray):List Int:=(all s).map (fun x=>(x.1:Int))++ [(s.size:Int)]
theorem zea (s:ByteArray):∀(b pos:Nat),(steps s b pos).length<=b
 | 0,_=>by simp[steps]
 | b+1,pos=>by
  unfold steps;split
  ·have:=zea s b (pos+(Utf8.decode s pos).2);simp only[List.length_cons];omega
  ·simp
theorem zoo (s:ByteArray):(rn s).length<=s.size:=by simpa [rn,all] using zea s s.size 0
def plFrom (s:ByteArray) (b pos:Nat):List Int:=(steps s b pos).map (fun x=>(x.1:Int))++ [(s.size:Int)]
def right (r:Int):Bool:=decide (0<=r/\r<=1114111/\(r<55296∨57343<r))
def pre (s p:ByteArray):Bool:=decide (p.size<=s.size)&&((s.extract 0 p.size).data.toList==p.data.toList)
end Go.Proofs.YtamfgmaipajodaaGreatDoor.M
namespace Go.Proofs.YtamfgmaipajodaaGreatDoor.M
def bt (L:List UInt8) (k:Nat):Nat:=(L[k]?.getD 0).toNat
def d0 (L:List UInt8):Nat×Nat:=Lib.decodeN L.length (bt L 0) (bt L 1) (bt L 2) (bt L 3)
theorem zs3 (L:List UInt8)(k:Nat):bt L k<256:=(L[k]?.getD 0).toNat_lt
theorem get!_eq (s:ByteArray)(i:Nat):s.get! i=s.data.toList[i]?.getD 0:=by
 have h:s.get! i=s.data[i]! := rfl;rw[h,getElem!_def,Array.getElem?_toList];cases s.data[i]? <;> rfl
theorem zfe (s:ByteArray)(i:Nat):Utf8.decode s i=d0 (s.data.toList.drop i):=by
 have hl:(s.data.toList.drop i).length=s.size - i:=by rw[List.length_drop,Array.length_toList];rfl
 rw[Lib.decode_at,d0,hl];simp only[bt,List.getElem?_drop,get!_eq,Nat.add_zero]
def rl:Nat->List UInt8->List (Nat×Nat)
 | 0,_=> []
 | n+1,L=>if L= [] then [] else d0 L::rl n (L.drop (d0 L).2)
theorem zkq (n:Nat):rl n []= []:=by cases n <;> simp[rl]
theorem zg6 (L:List UInt8)(h:L≠ []):1<=(d0 L).2/\(d0 L).2<=4/\(d0 L).2<=L.length:=by
 have hl:1<=L.length:=by cases L with
  | nil=>exact absurd rfl h
  | cons=>simp
 unfold d0 Lib.decodeN
 repeat' split
 all_goals simp only
 all_goals omega
theorem zop:∀(n m:Nat) (L:List UInt8),L.length<=n->L.length<=m->rl n L=rl m L
 | 0,m,L,hn,_=>by
  have:L= []:=List.eq_nil_of_length_eq_zero (by omega);subst this;rw[zkq,zkq]
 | n+1,0,L,_,hm=>by
  have:L= []:=List.eq_nil_of_length_eq_zero (by omega);subst this;rw[zkq,zkq]
 | n+1,m+1,L,hn,hm=>by
  by_cases h:L= []
  ·simp[rl,h]
  ·have hw:=zg6 L h;have hd:(L.drop (d0 L).2).length=L.length - (d0 L).2:=List.length_drop;simp only[rl,h,if_false];rw[zop n m (L.drop (d0 L).2) (by omega) (by omega)]
def ru (L:List UInt8):List (Nat×Nat):=rl L.length L
theorem zvf:ru []= []:=rfl
theorem zgq (L:List UInt8)(h:L≠ []):ru L=d0 L::ru (L.drop (d0 L).2):=by
 have hw:=zg6 L h;have hd:(L.drop (d0 L).2).length=L.length - (d0 L).2:=List.length_drop;unfold ru;obtain⟨n,hn⟩:∃n,L.length=n+1:=⟨L.length - 1,by omega⟩;rw[hn];simp only[rl,h,if_false];rw[zop n (L.drop (d0 L).2).length _ (by omega) (by omega)]
theorem zvg {P:List UInt8->Prop}(h0:P [])(h1:∀L,L≠ []->P (L.drop (d0 L).2)->P L):∀L,P L:=by
 have:∀n (L:List UInt8),L.length<=n->P L:=by
  intro n
  induction n with
  | zero=>intro L hL;have:L= []:=List.eq_nil_of_length_eq_zero (by omega);subst this;exact h0
  | succ n ih =>
   intro L hL
   by_cases h:L= []
   ·subst h;exact h0
   ·have hw:=zg6 L h;exact h1 L h (ih _ (by rw[List.length_drop];omega))
 exact fun L=>this L.length L qN
theorem zkl (s:ByteArray):∀(b pos:Nat),s.size<=pos+b->(steps s b pos).map (fun x=>x.2)=(ru (s.data.toList.drop pos)).map (fun x=>x.1)
 | 0,pos,h=>by
  have hl:(s.data.toList.drop pos).length=s.size - pos:=by rw[List.length_drop,Array.length_toList];rfl
  have:s.data.toList.drop pos= []:=List.eq_nil_of_length_eq_zero (by omega);rw[this];rfl
 | b+1,pos,h=>by
  have hl:(s.data.toList.drop pos).length=s.size - pos:=by rw[List.length_drop,Array.length_toList];rfl
  by_cases hp:pos<s.size
  ·have hw:=width_pos s pos hp;have hne:s.data.toList.drop pos≠ []:=by intro e;rw[e] at hl;simp at hl;omega
   simp only[steps,hp,if_true,List.map_cons];rw[zkl s b _ (by omega),zgq _ hne,zfe,List.drop_drop,List.map_cons]
  ·rw[zhf s _ pos hp];have:s.data.toList.drop pos= []:=List.eq_nil_of_length_eq_zero (by omega);rw[this];rfl
theorem zvj (s:ByteArray):rn s=(ru s.data.toList).map (fun x=>(x.1:Int)):=by
 have h:=zkl s s.size 0 (by omega);rw[List.drop_zero] at h;have h2:=congrArg (List.map (fun n:Nat=>(n:Int))) h;rw[List.map_map,List.map_map] at h2;exact h2
def bad (x:Nat×Nat):Bool:=x.1==65533&&x.2==1
def sp (L:List UInt8):Nat:=((ru L).filter bad).length
theorem ztt (L:List UInt8)(h:L≠ []):sp L=(if bad (d0 L) then 1 else 0)+sp (L.drop (d0 L).2):=by
 unfold sp;rw[zgq L h,List.filter_cons];split <;> simp <;> omega
end Go.Proofs.YtamfgmaipajodaaGreatDoor.M
