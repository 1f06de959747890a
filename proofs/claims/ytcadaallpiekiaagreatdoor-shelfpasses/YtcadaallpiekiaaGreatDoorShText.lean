import Derived.Laws.RangeAny
import Derived.Lib.DecodeN
import Derived.Test.YtcadaallpiekiaaGreatDoorKBox
import Derived.Laws.OwnMore
set_option maxHeartbeats 0
namespace Go.Proofs.YtcadaallpiekiaaGreatDoor
open Go.Proofs.Tryz
namespace M
theorem width_pos (s:ByteArray)(pos:Nat)(h:pos<s.size):1<=(Utf8.decode s pos).2:=by
 by_cases ha:(s[pos]'h).toNat<128
 ·rw[decode_ascii s pos h ha];exact qN
 ·exact(decode_high s pos h (by omega)).2
def steps (s:ByteArray):Nat->Nat->List (Nat×Nat)
 | 0,_=> []
 | b+1,pos=>if pos<s.size then (pos,(Utf8.decode s pos).1)::steps s b (pos+(Utf8.decode s pos).2) else []
theorem zib (s:ByteArray)(b pos:Nat)(h:¬pos<s.size):steps s b pos= []:=by
 cases b with
 | zero=>rfl
 | succ b=>simp[steps,h]
def all (s:ByteArray):List (Nat×Nat):=steps s s.size 0
def rn (s:ByteArray):List Int:=(all s).map fun x=>(x.2:Int)
def pl (s:ByteArray):List Int:=(all s).map (fun x=>(x.1:Int))++ [(s.size:Int)]
theorem zev (s:ByteArray):∀(b pos:Nat),(steps s b pos).length<=b
 | 0,_=>by simp[steps]
 | b+1,pos=>by
  unfold steps;split
  ·have:=zev s b (pos+(Utf8.decode s pos).2);simp only[List.length_cons];omega
  ·simp
theorem zo8 (s:ByteArray):(rn s).length<=s.size:=by simpa [rn,all] using zev s s.size 0
def plFrom (s:ByteArray) (b pos:Nat):List Int:=(steps s b pos).map (fun x=>(x.1:Int))++ [(s.size:Int)]
def right (r:Int):Bool:=decide (0<=r/\r<=1114111/\(r<55296∨57343<r))
def pre (s p:ByteArray):Bool:=decide (p.size<=s.size)&&((s.extract 0 p.size).data.toList==p.data.toList)
end M
namespace K
def allR (l:List Int):Bool:=l.all M.right
def textE (l:List Int):Int:=if 4000<l.length then 4 else if allR l=true then 0 else 3
end K
namespace K
open S (Sp)
structure Rule where
 start:Bool
 fin:Bool
 before:List (List Sp)
 source:List (List Sp)
 after:List (List Sp)
 target:List Int
 cursor:Int
def firstE:List (List Sp)->Int
 | []=>0
 | s::l=>if S.wrongE s=0 then firstE l else S.wrongE s
def setsE (l:List (List Sp)):Int:=if 20<l.length then 5 else firstE l
def tailE (r:Rule):Int :=
 if r.source.length=0 then 6 else if 20<r.target.length then 5
 else if allR r.target=false then 3 else if r.cursor<0 then 3 else if (r.target.length:Int)<r.cursor then 3 else 0
def ruleE (r:Rule):Int :=
 if setsE r.before≠0 then setsE r.before else if setsE r.source≠0 then setsE r.source else if setsE r.after≠0 then setsE r.after else tailE r
theorem zfz {l:List (List Sp)}{k:Nat}{s:List Sp}(h:l[k]?=some s):firstE (l.drop k)=if S.wrongE s=0 then firstE (l.drop (k+1)) else S.wrongE s:=by
 have hlt:=(qL.1 h).1;rw[List.drop_eq_getElem_cons hlt];have:l[k]=s:=by rw[List.getElem?_eq_getElem hlt] at h;exact Option.some.inj h
 rw[this];rfl
theorem zdk {l:List (List Sp)}:firstE l=0↔∀s∈l,S.wrongE s=0:=by
 induction l with
 | nil=>simp[firstE]
 | cons s l ih =>
  rw[firstE]
  by_cases h:S.wrongE s=0
  ·simp[h,ih]
  ·simp[h]
def Good (l:List (List Sp)):Prop:=l.length<=20/\∀s∈l,S.Nf 0 s/\s.length<=200
theorem zeg {l:List (List Sp)}:setsE l=0↔Good l:=by
 unfold setsE Good
 by_cases h:20<l.length
 ·rw[if_pos h];exact⟨fun h=>absurd h (by decide),fun h=>by omega⟩
 ·rw[if_neg h,zdk];exact⟨fun h'=>⟨by omega,fun s hs=>⟨(S.zan.1 (h' s hs)).2,(S.zan.1 (h' s hs)).1⟩⟩,fun h' s hs=>S.zan.2 ⟨(h'.2 s hs).2,(h'.2 s hs).1⟩⟩
theorem zas {r:Rule}(h:ruleE r=0):Good r.before/\Good r.source/\Good r.after/\0<r.source.length/\r.target.length<=20/\allR r.target=true/\0<=r.cursor/\r.cursor<=r.target.length:=by
 unfold ruleE at h
 by_cases h1:setsE r.before=0
 ·rw[if_neg (by simp[h1])] at h
  by_cases h2:setsE r.source=0
  ·rw[if_neg (by simp[h2])] at h
   by_cases h3:setsE r.after=0
   ·rw[if_neg (by simp[h3])] at h;refine⟨zeg.1 h1,zeg.1 h2,zeg.1 h3,?_⟩;unfold tailE at h
    by_cases h4:r.source.length=0
    ·rw[if_pos h4] at h;exact absurd h (by decide)
    ·rw[if_neg h4] at h
     by_cases h5:20<r.target.length
     ·rw[if_pos h5] at h;exact absurd h (by decide)
     ·rw[if_neg h5] at h
      by_cases h6:allR r.target=false
      ·rw[if_pos h6] at h;exact absurd h (by decide)
      ·rw[if_neg h6] at h
       by_cases h7:r.cursor<0
       ·rw[if_pos h7] at h;exact absurd h (by decide)
       ·rw[if_neg h7] at h
        by_cases h8:(r.target.length:Int)<r.cursor
        ·rw[if_pos h8] at h;exact absurd h (by decide)
        ·exact⟨by omega,by omega,by simpa using h6,by omega,by omega⟩
   ·rw[if_pos h3] at h;exact absurd h h3
  ·rw[if_pos h2] at h;exact absurd h h2
 ·rw[if_pos h1] at h;exact absurd h h1
theorem zgf {l:List Int}(h:textE l=0):l.length<=4000:=by
 unfold textE at h
 by_cases h1:4000<l.length
 ·rw[if_pos h1] at h;exact absurd h (by decide)
 ·omega
def runAt (t:List Int):Int->List (List Sp)->Bool
 | _,[]=>true
 | k,s::l=>(decide (0<=k)&&decide (k<t.length)&&S.memb s (t.getD k.toNat 0))&&runAt t (k+1) l
def matchB (r:Rule) (t:List Int) (at_:Int):Bool :=
 runAt t (at_-r.before.length) (r.before++r.source++r.after)&& !(r.start&&decide (0<at_-r.before.length))&& !(r.fin&&decide (at_+r.source.length+r.after.length<t.length))
def putL (r:Rule) (t:List Int) (at_:Int):List Int:=t.take at_.toNat++r.target++t.drop (at_.toNat+r.source.length)
theorem zb3 (t:List Int)(a b:List (List Sp)):∀k,runAt t k (a++b)=(runAt t k a&&runAt t (k+a.length) b):=by
 induction a with
 | nil=>intro k;simp[runAt]
 | cons s a ih =>
  intro k;rw[List.cons_append,runAt,runAt,ih,List.length_cons];rw[show k+1+(a.length:Int)=k+((a.length+1:Nat):Int) by omega];simp only[Bool.and_assoc]
theorem zgl {t:List Int}{l:List (List Sp)}:∀ {k},runAt t k l=true->l≠ []->0<=k/\k+l.length<=t.length:=by
 induction l with
 | nil=>intro k _ h;exact absurd rfl h
 | cons s l ih =>
  intro k h _;rw[runAt] at h;simp only[Bool.and_eq_true,decide_eq_true_eq] at h
  by_cases hl:l= []
  ·subst hl;simp only[List.length_cons,List.length_nil];omega
  ·have:=ih h.2 hl;simp only[List.length_cons];omega
theorem zgm {t:List Int}{l:List (List Sp)}{i:Nat}{s:List Sp}{k:Int}(h:l[i]?=some s):runAt t (k+i) (l.drop i)=((decide (0<=k+i)&&decide (k+i<t.length)&&S.memb s (t.getD (k+i).toNat 0))&&runAt t (k+(i+1:Nat)) (l.drop (i+1))):=by
 have hlt:=(qL.1 h).1;rw[List.drop_eq_getElem_cons hlt];have:l[i]=s:=by rw[List.getElem?_eq_getElem hlt] at h;exact Option.some.inj h
 rw[this,runAt];rw[show k+(i:Int)+1=k+((i+1:Nat):Int) by omega]
theorem zl0 {r:Rule}{t:List Int}{at_:Int}(hs:0<r.source.length)
  (h:at_-r.before.length<0∨(t.length:Int)-at_-r.source.length-r.after.length<0∨(r.start=true/\0<at_-r.before.length)∨(r.fin=true/\0<(t.length:Int)-at_-r.source.length-r.after.length)):matchB r t at_=false:=by
 unfold matchB;cases hr:runAt t (at_-r.before.length) (r.before++r.source++r.after) with
 | false=>simp
 | true =>
  have hne:r.before++r.source++r.after≠ []:=by
   intro he;have:=congrArg List.length he;simp only[List.length_append,List.length_nil] at this;omega
  have hm:=zgl hr hne;simp only[List.length_append] at hm;rcases h with h|h|⟨h1,h2⟩|⟨h1,h2⟩
  ·omega
  ·omega
  ·simp[h1];omega
  ·simp[h1];intro _;omega
theorem zng {r:Rule}{t:List Int}{at_:Int}
  (h3:¬(r.start=true/\0<at_-r.before.length)) (h4:¬(r.fin=true/\0<(t.length:Int)-at_-r.source.length-r.after.length)) :
  matchB r t at_=(runAt t (at_-r.before.length) r.before&&runAt t at_ r.source&&runAt t (at_+r.source.length) r.after):=by
 unfold matchB;rw[zb3,zb3];have e1:at_-(r.before.length:Int)+r.before.length=at_:=by omega
 have e2:at_-(r.before.length:Int)+((r.before++r.source).length:Nat)=at_+r.source.length:=by rw[List.length_append];omega
 rw[e1,e2]
 have e3:(!(r.start&&decide (0<at_-(r.before.length:Int))))=true:=by
  cases hs:r.start with
  | false=>rfl
  | true=>have:¬(0<at_-(r.before.length:Int)):=fun h=>h3 ⟨hs,h⟩;simp;omega
 have e4:(!(r.fin&&decide (at_+r.source.length+r.after.length<(t.length:Int))))=true:=by
  cases hs:r.fin with
  | false=>rfl
  | true=>have:¬(0<(t.length:Int)-at_-r.source.length-r.after.length):=fun h=>h4 ⟨hs,h⟩;simp;omega
 rw[e3,e4];simp
theorem zsi {r:Rule}{t:List Int}{at_:Int}(hs:0<r.source.length)(h:matchB r t at_=true):0<=at_-r.before.length/\at_+r.source.length+r.after.length<=t.length:=by
 unfold matchB at h;simp only[Bool.and_eq_true] at h
 have hne:r.before++r.source++r.after≠ []:=by
  intro he;have:=congrArg List.length he;simp only[List.length_append,List.length_nil] at this;omega
 have hm:=zgl h.1.1 hne;simp only[List.length_append] at hm;omega
end K
namespace K
open Go.RowKit
def I64 (n:Int):Prop:= -9223372036854775808<=n/\n<=9223372036854775807
def SetIs (w:World) (u:Value) (s:List S.Sp):Prop:=(∃so sc,u=.slice so s.length sc)/\S.Rd w u s/\S.Fit s
def Sets (w:World) (vs:List Value) (l:List (List S.Sp)):Prop:=vs.length=l.length/\∀(j:Nat) u s,vs[j]?=some u->l[j]?=some s->SetIs w u s
def Ss (w:World) (v:Value) (l:List (List S.Sp)):Prop :=
 ∃ao cap vs,v=.slice ao l.length cap/\(ao=none->cap=0)/\l.length<=140737488355328/\Sets w vs l/\(l≠ []->∃b off,ao=some ⟨b,off,none⟩/\∀(j:Nat) u,vs[j]?=some u->w.cell? ⟨b,off+j,none⟩=some u)
theorem SetIs.below {w w':World}{u:Value}{s:List S.Sp}(h:SetIs w u s)(hb:Bl w w'):SetIs w' u s:=⟨h.1,h.2.1.below hb qN,h.2.2⟩
theorem Sets.below {w w':World}{vs:List Value}{l:List (List S.Sp)}(h:Sets w vs l)(hb:Bl w w'):Sets w' vs l:=⟨h.1,fun j u s hu hs=>(h.2 j u s hu hs).below hb⟩
theorem Ss.below {w w':World}{v:Value}{l:List (List S.Sp)}(h:Ss w v l)(hb:Bl w w'):Ss w' v l:=by
 obtain⟨ao,cap,vs,rfl,hn,hl,hs,hc⟩:=h;refine⟨ao,cap,vs,rfl,hn,hl,hs.below hb,fun hz=> ?_⟩;obtain⟨b,off,rfl,hc2⟩:=hc hz;refine⟨b,off,rfl,fun j u hj=> ?_⟩;have h1:=hc2 j u hj;have:=L.block_lt h1;rw[hb.cell (p:=⟨b,off+j,none⟩) this];exact h1
theorem Ss.len {w:World}{v:Value}{l:List (List S.Sp)}(h:Ss w v l):∃ao cap,v=.slice ao l.length cap:=by
 obtain⟨ao,cap,vs,rfl,_⟩:=h;exact⟨ao,cap,rfl⟩
theorem Ss.few {w:World}{v:Value}{l:List (List S.Sp)}(h:Ss w v l):l.length<=140737488355328:=by
 obtain⟨ao,cap,vs,rfl,_,h,_⟩:=h;exact h
theorem Ss.at {w:World}{ao:Option Addr}{n cap:Nat}{l:List (List S.Sp)}(h:Ss w (.slice ao n cap) l){j:Nat}{s:List S.Sp}(hj:l[j]?=some s) :
  ∃b off so sc,ao=some ⟨b,off,none⟩/\w.cell? ⟨b,off+j,none⟩=some (.slice so s.length sc)/\S.Rd w (.slice so s.length sc) s/\S.Fit s:=by
 obtain⟨ao',cap',vs,he,hn,hl,hs,hc⟩:=h;cases he;obtain⟨b,off,rfl,hc2⟩:=hc (by intro h;subst h;simp at hj);have hlt:j<vs.length:=by rw[hs.1];exact(qL.1 hj).1
 obtain⟨u,hu⟩:∃u,vs[j]?=some u:=⟨vs[j],by simp⟩;obtain⟨⟨so,sc,rfl⟩,h2,h3⟩:=hs.2 j u s hu hj;exact⟨b,off,so,sc,rfl,hc2 j _ hu,h2,h3⟩
theorem Sets.append {w:World}{us vs:List Value}{l m:List (List S.Sp)}(h:Sets w us l)(h':Sets w vs m):Sets w (us++vs) (l++m):=by
 refine⟨by simp[h.1,h'.1],fun j u s hu hs=> ?_⟩
 by_cases hj:j<us.length
 ·rw[List.getElem?_append_left hj] at hu;rw[List.getElem?_append_left (by rw[<- h.1];exact hj)] at hs;exact h.2 j u s hu hs
 ·rw[List.getElem?_append_right (by omega)] at hu;rw[List.getElem?_append_right (by rw[<- h.1];omega),<- h.1] at hs;exact h'.2 _ u s hu hs
theorem Sets.one {w:World}{vs:List Value}{l:List (List S.Sp)}(h:Sets w vs l){u:Value}(hu:u∈vs):u.oneCell'=true:=by
 obtain⟨j,hj⟩:=List.getElem?_of_mem hu;have hlt:j<l.length:=by rw[<- h.1];exact(qL.1 hj).1
 obtain⟨s,hs⟩:∃s,l[j]?=some s:=⟨l[j],by simp⟩;obtain⟨⟨so,sc,rfl⟩,_⟩:=h.2 j u s hj hs;rfl
/-! boxes -/
def RuIs (w:World) (v:Value) (r:Rule):Prop :=
 ∃bo bc so sc ao ac tgo tc,v=.agg #[.bool r.start,.bool r.fin,.slice bo r.before.length bc,.slice so r.source.length sc,.slice ao r.after.length ac,.slice tgo r.target.length tc,.int .i64 r.cursor] /\
  Ss w (.slice bo r.before.length bc) r.before/\Ss w (.slice so r.source.length sc) r.source/\Ss w (.slice ao r.after.length ac) r.after/\L.Rd w (.slice tgo r.target.length tc) .i32 r.target/\r.target.length<=140737488355328/\I64 r.cursor
theorem RuIs.below {w w':World}{v:Value}{r:Rule}(h:RuIs w v r)(hb:Bl w w'):RuIs w' v r:=by
 obtain⟨bo,bc,so,sc,ao,ac,tgo,tc,rfl,h1,h2,h3,h4,h5⟩:=h;exact⟨bo,bc,so,sc,ao,ac,tgo,tc,rfl,h1.below hb,h2.below hb,h3.below hb,h4.below hb qN,h5⟩
end K
section
open Go.RowKit
set_option maxRecDepth 40000
set_option linter.unusedSimpArgs false
set_option linter.unusedVariables false
namespace Sh
def Fs (w:World) (v:Value) (l:List (ByteArray×ByteArray)):Prop :=
 ∃b,v=.slice (some ⟨b,0,none⟩) l.length l.length/\l.length<=8000/\∀(j:Nat) x,l[j]?=some x->w.cell? ⟨b,j*2,none⟩=some (.string x.1)/\w.cell? ⟨b,j*2+1,none⟩=some (.string x.2)
theorem Fs.below {w w':World}{v:Value}{l:List (ByteArray×ByteArray)}(h:Fs w v l)(hb:Bl w w'):Fs w' v l:=by
 obtain⟨b,rfl,hl,hc⟩:=h;refine⟨b,rfl,hl,fun j x hj=> ?_⟩;obtain⟨c0,c1⟩:=hc j x hj;exact⟨by rw[hb.cell (p:=⟨b,j*2,none⟩) (L.block_lt c0)];exact c0,by rw[hb.cell (p:=⟨b,j*2+1,none⟩) (L.block_lt c1)];exact c1⟩
theorem zvd (w:World)(C:Array Value)(t:TypeId)(l:List (ByteArray×ByteArray))(hC:C=(l.flatMap fun x=> [Value.string x.1,Value.string x.2]).toArray)(n:Nat)(hn:n=l.length)(hl:l.length<=8000):Fs (w.alloc (.cells C t)) (.slice (some ⟨w.heap.size,0,none⟩) n n) l:=by
 subst hC hn;refine⟨_,rfl,hl,fun j x hj=> ?_⟩;have h1:=World.cell?_alloc_mark w (l.flatMap fun x=> [Value.string x.1,Value.string x.2]).toArray t (0,0) (j*2);have h2:=World.cell?_alloc_mark w (l.flatMap fun x=> [Value.string x.1,Value.string x.2]).toArray t (0,0) (j*2+1);refine⟨?_,?_⟩
 ·rw[h1,List.getElem?_toArray,zgr,hj];rfl
 ·rw[h2,List.getElem?_toArray,zit,hj];rfl
end Sh
theorem zfg (w:World):Calls prog 22 #[] w fun e w'=>∃v,e=.returned v/\Sh.Fs w' v Sh.row/\Bl w w':=by
 go_enter func22,ntmps22
 go_wp2;go_ret
 exact⟨_,rfl,Sh.zvd w _ _ Sh.row (by kernel_rfl) 18 (by decide) (by decide),(qR w).alloc qN _⟩
theorem zj4 (w:World)(v:Value)(l:List (ByteArray×ByteArray))(R0:Sh.Fs w v l)(g:Nat)(cb:Array Value)(P:ByteArray×ByteArray->Bool)(eg:∀args w,(callFunc g args).run prog w=.ok (.enter g args) w)
  (hh:∀W x,Bl w W->Calls prog g (#[.agg #[.string x.1,.string x.2]]++cb) W fun e w'=>e=.returned (.bool (P x))/\Bl W w') :
  Calls prog 23 #[v,.func (.func g) #[] cb] w fun e w'=>∃i:Int,e=.returned (.int .i64 i)/\((i= -1/\l.find? P=none)∨∃(j:Nat) (x:ByteArray×ByteArray),i=j/\l[j]?=some x/\l.find? P=some x)/\Bl w w':=by
 have HR:=qH R0;have HH:=qH hh;obtain⟨b,rfl,hl,hcell⟩:=R0;have HC:=qH hcell;clear hh hcell
 go_enter func23,ntmps23
 go_wp2
 go_loopw [8] (fun i wr=>∃j:Nat,j<=l.length/\i=.int .i64 j/\Hid ((l.take j).find? P=none)/\Hid (Bl w wr)) (fun i _=>l.length-(intOf i).toNat)
 case atStart=>exact⟨0,Nat.zero_le _,rfl,by show (l.take 0).find? P=none;simp,qR w⟩
 case round =>
  obtain⟨j,hj,rfl,HW,HB⟩:=hrel
  by_cases hlt:j<l.length
  ·obtain⟨p,hp⟩:∃x,l[j]?=some x:=⟨l[j],by simp[hlt]⟩;obtain⟨c0,c1⟩:=HC.out j p hp;rw[<- HB.out.cell (p:=⟨b,j*2,none⟩) (L.block_lt c0)] at c0;rw[<- HB.out.cell (p:=⟨b,j*2+1,none⟩) (L.block_lt c1)] at c1;have HE2:=qH<|Sh.zqk hp HW.out;have HP:=qH hp;have hsz:=HB.out.size;have HW2:=qH<|HH.out wr p HB.out;generalize P p=z at HW2 HE2;clear hp;obtain⟨pn,pt⟩:=p;simp only at c0 c1 HW2
   go_wp2_with fail
   refine HW2.out.mono ?_;rintro e w1 ⟨rfl,B1⟩;have HB1:=qH<|HB.out.trans (B1.mono hsz);clear B1;cases z with
   | false =>
    have HT:=qH<|HE2.out.1 rfl;clear HE2;go_wp2
    go_roundw
    case rel=>exact⟨j+1,by omega,by go_num,HT,HB1⟩
    case measure=>simp[intOf];omega
   | true =>
    have HT:=qH<|HE2.out.2 rfl;clear HE2;go_wp2;go_ret;exact⟨j,rfl,.inr ⟨j,_,rfl,HP.out,HT.out⟩,HB1.out⟩
  ·have hkl:j=l.length:=by omega
   subst hkl;go_wp2;go_ret;exact⟨-1,rfl,.inl ⟨rfl,by have:=HW.out;rw[List.take_length] at this;exact this⟩,HB.out⟩
theorem zj3 (w:World)(nb:Nat)(name a b:ByteArray)(h:w.heap[nb]?=some (.cells #[.string name] 9)) :
  Calls prog 24 #[.agg #[.string a,.string b],.pointer (some ⟨nb,0,none⟩)] w fun e w'=>e=.returned (.bool (a.toList==name.toList))/\Bl w w':=by
 have hlt:=lt_of_block h;have c0:=K.zad (i:=0) h rfl;have HB:=qH<|fun o=>(qR w).alloc qN o
 go_enter func24,ntmps24
 go_wp2;go_ret
 exact⟨rfl,HB.out _⟩
