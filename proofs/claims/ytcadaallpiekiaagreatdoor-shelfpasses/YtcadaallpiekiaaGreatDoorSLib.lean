import Derived.WalkKit
import Derived.WalkSpells
import Derived.WalkSmall
import Derived.Lib.OthersKept
import Derived.Laws.AppendOwnNone
import Derived.Test.YtcadaallpiekiaaGreatDoorRows
import Derived.ProofKit
import Derived.OpenShut
import Derived.ShutString
import Derived.ChangeOld
import Derived.Below
import Derived.JoinedCond
namespace Go.Proofs.YtcadaallpiekiaaGreatDoor
open Go.Proofs.Tryz
namespace L
open Go.RowKit
theorem zp9 {w W1 w3:World}{B:Nat}{s:ByteArray}{p:Nat}{e:TypeId}{v v':Value}{n:Nat}{xs ys:List Value}{o:Obj}
  (hit:W1.heap[B]?=some (.stringIter s p)) (hbw:Below B w W1) (hown:W1.ownsRow (B+1) e 1 v n xs)
  (hown':w3.ownsRow (B+1) e 1 v' (n+1) (xs++ys)) (hgrow:(W1.alloc o).grownBy w3 v.ownBlock) :
  Hid (w3.ownsRow (B+1) e 1 v' (n+1) (xs++ys)/\w3.heap[B]?=some (.stringIter s p)/\Below B w w3):=by
 have hlt:=lt_of_block hit;refine⟨hown',?_,?_⟩
 ·rw[hgrow.block B (by simp;omega) (fun h=>by have:=(hown.lt _ h.symm).1;omega),Below.heap_alloc _ _ _ hlt];exact hit
 ·exact Below.grown (hbw.alloc (by omega) _) hgrow (by simp;omega) (fun j hj=>by have:=(hown.lt _ hj).1;omega)
theorem zaj {a b:Bool}(h:a=b):Ending.returned (.bool a)=.returned (.bool b):=by rw[h]
theorem zdf {k:IntKind}{a b:Int}(h:a=b):Ending.returned (.int k a)=.returned (.int k b):=by rw[h]
theorem bcell {B:Nat}{W w1:World}(hb:Below B W w1):(∀b o,b<B->w1.cell? ⟨b,o,none⟩=W.cell? ⟨b,o,none⟩)/\(∀b o,b<B->w1.frozen? ⟨b,o,none⟩=W.frozen? ⟨b,o,none⟩) :=
 ⟨fun b o h=>hb.cell (p:=⟨b,o,none⟩) h,fun b o h=>hb.frozen (p:=⟨b,o,none⟩) h⟩
def Rd (w:World) (v:Value) (k:IntKind) (zs:List Int):Prop :=
 ∃ao cap,v=.slice ao zs.length cap/\(ao=none->cap=0)/\(zs≠ []->∃b off,ao=some ⟨b,off,none⟩/\∀j z,zs[j]?=some z->w.cell? ⟨b,off+j,none⟩=some (.int k z))
theorem addr_add (b off j:Nat):(⟨b,off,none⟩:Addr).add j=⟨b,off+j,none⟩:=by
 by_cases h:j=0
 ·subst h;simp[Addr.add]
 ·simp[Addr.add,h]
theorem Rd.zax {w:World}{B:Nat}{e:TypeId}{v:Value}{k:IntKind}{zs:List Int}(h:w.ownsRow B e 1 v zs.length (zs.map (Value.int k))):Rd w v k zs:=by
 have hc:=fun g hg=>World.ownsRow.cells h (g:=g) hg
 rcases h.2 with ⟨rfl,h0⟩|⟨g,cap,cur,rfl,h0⟩
 ·have:zs= []:=by simpa using h0
  subst this;exact⟨none,0,rfl,fun _=>rfl,fun h=>absurd rfl h⟩
 ·refine⟨_,cap,rfl,fun h=>by simp at h,fun _=>⟨g,0,rfl,fun j z hj=> ?_⟩⟩;have:=hc g rfl j (.int k z) (by simp[hj]);rw[addr_add] at this;exact this
theorem Rd.below {w w':World}{v:Value}{k:IntKind}{zs:List Int}{B:Nat}(h:Rd w v k zs)(hb:Below B w w')(hB:w.heap.size<=B):Rd w' v k zs:=by
 obtain⟨ao,cap,rfl,hn,h⟩:=h;refine⟨ao,cap,rfl,hn,fun hz=> ?_⟩;obtain⟨b,off,rfl,hc⟩:=h hz;refine⟨b,off,rfl,fun j z hj=> ?_⟩;have h1:=hc j z hj
 have hlt:b<w.heap.size:=by
  simp only[World.cell?] at h1
  by_cases hlt:b<w.heap.size
  ·exact hlt
  ·simp[Array.getElem?_eq_none (Nat.le_of_not_lt hlt)] at h1
 rw[hb.cell (p:=⟨b,off+j,none⟩) (by show b<B;omega)];exact h1
theorem zbd {P:Program}{w:World}{ops:Array Oper}{rest:List Oper}{o:Oper}{a:Act}{Q:Exit->Act->World->Prop}(hgd:o.guard=none)(s x:Operand)(t:TypeId)
  (ho:o.op=.call { callee:=.builtin .append,args:=#[s,x],argTypes:=#[t,t] })
  (base:Nat) (e:TypeId) (i:TypeInfo) (k:IntKind) (bytes:Nat) (ht:P.underlying t=some (.slice e)) (hi:P.info? e=some i) (hz:i.zero=some (.int k 0))
  (hsize:i.size=1) (hby:i.bytes=bytes)
  (v:Value) (n:Nat) (xs:List Value) (hs:a.eval s=v) (hown:w.ownsRow base e 1 v n xs)
  (vx:Value) (zs:List Int) (hx:a.eval x=vx) (hrd:Rd w vx k zs)
  (h63:n+zs.length<=maxLen) (hbytes:(n+zs.length)*bytes<=140737488355328) (hbase:base<=w.heap.size)
  (h:∀v' w',w'.ownsRow base e 1 v' (n+zs.length) (xs++zs.map (Value.int k))->w.grownBy w' v.ownBlock->wpList P ops Q rest (a.put o.dst v') w'):wpList P ops Q (o::rest) a w:=by
 obtain⟨ao,cap,rfl,hn,hc⟩:=hrd;cases ao with
 | none =>
  have h0:zs= []:=by
   cases zs with
   | nil=>rfl
   | cons z zs=>obtain⟨b,off,h,_⟩:=hc (by simp);simp at h
  subst h0;have:=hn rfl;subst this;refine wpList_append_own_none hgd s x t ho base e i 1 ht hi v n xs hs hown hx ?_;refine h v w ?_ ?_
  ·simpa using hown
  ·exact⟨rfl,rfl,rfl,Nat.le_refl _,fun _ _ _=>rfl⟩
 | some ad =>
  refine wpList_append_own w hgd s x t ho base e i (.int k 0) 1 bytes ht hi hz hsize hby rfl (by decide) v n xs hs hown ad zs.length cap (zs.map (Value.int k)) hx (by simp) ?_ (fun u hu=>by obtain⟨z,_,rfl⟩:=List.mem_map.1 hu;rfl) h63 hbytes hbase (fun v' w' h1 h2 _=>h v' w' h1 h2);intro j u hj;rw[List.getElem?_map] at hj;cases hzj:zs[j]? with
  | none=>rw[hzj] at hj;simp at hj
  | some z =>
   rw[hzj] at hj;simp at hj;subst hj;obtain⟨b,off,hao,hcell⟩:=hc (by intro h;subst h;simp at hzj);simp at hao;subst hao;rw[addr_add];exact hcell j z hzj
theorem zby {w w':World}{base B:Nat}{e:TypeId}{size:Nat}{v:Value}{n:Nat}{xs:List Value}(h:w.ownsRow base e size v n xs)(hb:Below B w w')(hB:w.heap.size<=B):w'.ownsRow base e size v n xs:=by
 obtain⟨h1,h2⟩:=h;refine⟨h1,?_⟩;rcases h2 with h2|⟨g,cap,cur,hv,hg,hh,r⟩
 ·exact .inl h2
 ·refine .inr ⟨g,cap,cur,hv,hg,?_,r⟩;have hlt:=lt_of_block hh;rw[hb.block g (by omega)];exact hh
theorem zbj {w:World}{base base':Nat}{e:TypeId}{size:Nat}{v:Value}{n:Nat}{xs:List Value}(h:w.ownsRow base e size v n xs)(hb:base'<=base):w.ownsRow base' e size v n xs:=by
 obtain⟨h1,h2⟩:=h;refine⟨h1,?_⟩;rcases h2 with h2|⟨g,cap,cur,hv,hg,r⟩
 ·exact .inl h2
 ·exact .inr ⟨g,cap,cur,hv,by omega,r⟩
theorem zc5 {w:World}{base base':Nat}{e1 e2:TypeId}{s1 s2:Nat}{v1 v2:Value}{n1 n2:Nat}{xs1 xs2:List Value}(h1:w.ownsRow base e1 s1 v1 n1 xs1)(h2:w.ownsRow base' e2 s2 v2 n2 xs2)(hne:e1≠e2):v2.ownBlock=none∨v2.ownBlock≠v1.ownBlock:=by
 rcases h2.2 with ⟨rfl,_⟩|⟨g2,cap2,cur2,rfl,_,hg2,_⟩
 ·exact .inl rfl
 ·right
  rcases h1.2 with ⟨rfl,_⟩|⟨g1,cap1,cur1,rfl,_,hg1,_⟩
  ·simp[Value.ownBlock]
  ·intro e;simp[Value.ownBlock] at e;subst e;rw[hg1] at hg2;simp at hg2;exact hne hg2.2
theorem zel {w1 w2:World}{base base':Nat}{e1 e2:TypeId}{s1 s2:Nat}{v1 v2:Value}{n1 n2:Nat}{xs1 xs2:List Value}{o:Obj}(h1:w1.ownsRow base e1 s1 v1 n1 xs1)(h2:w1.ownsRow base' e2 s2 v2 n2 xs2)(hne:e1≠e2)
  (hg:(w1.alloc o).grownBy w2 v1.ownBlock):w2.ownsRow base' e2 s2 v2 n2 xs2:=(h2.alloc o).kept hg (zc5 h1 h2 hne)
theorem zm4 {w w1 w2:World}{B base:Nat}{e:TypeId}{s:Nat}{v:Value}{n:Nat}{xs:List Value}{o:Obj}(hbw:Below B w w1)(h1:w1.ownsRow base e s v n xs)(hB:B<=base)(hw:B<=w1.heap.size)
  (hg:(w1.alloc o).grownBy w2 v.ownBlock):Below B w w2:=Below.grown (hbw.alloc hw _) hg (by simp;omega) (fun j hj=>by have:=(h1.lt _ hj).1;omega)
theorem block_lt {w:World}{b o:Nat}{v:Value}(h:w.cell? ⟨b,o,none⟩=some v):b<w.heap.size:=by
 simp only[World.cell?] at h
 by_cases hlt:b<w.heap.size
 ·exact hlt
 ·simp[Array.getElem?_eq_none (Nat.le_of_not_lt hlt)] at h
end L
section
open Go.RowKit
abbrev Bl (w w':World):Prop:=Below w.heap.size w w'
theorem qE.{u}{t:Sort u}(a:t):∃x,x=a:=⟨a,rfl⟩
theorem qN {n:Nat}:n≤n:=Nat.le_refl n
theorem qR {B:Nat}(w:World):Below B w w:=Below.refl B w
abbrev qA:=@Array.getElem?_eq_some_iff
abbrev qL:=@List.getElem?_eq_some_iff
end
section
open Go.ChangeShapes Go.WideShapes Go.ChangeAt Go.RowKit
theorem Tryz.own:ownKnob prog.godebug=none:=by kernel_rfl
theorem Tryz.laidOut:laidOutB prog=true:=by kernel_rfl
theorem zdr {H:Type}{enc:TypeId×Value->H}{P:Program}(hl:laidOutB P=true){W W':World}(hb:Bl W W') :
  ∀(ts:List TypeId) (vs:List Value) (ds:List (DataW H)) (ps:List MemPlace),ts.all (fun t=>P.readableRec t&&decide (t<P.types.size))=true ->
   DataW.TrodAll enc P W 0 (fun _=>true) true ts vs ds ps->DataW.TrodAll enc P W' 0 (fun b=>decide (b<W.heap.size)) true ts vs ds ps
 | [],[],[],_,_,h=>h
 | t::ts,v::vs,d::ds,ps,hr,h=>by
  simp only[List.all_cons,Bool.and_eq_true,decide_eq_true_eq] at hr;obtain⟨p,q,h0,hq,rfl⟩:=h;have lt0:∀x∈p,x.block<W.heap.size:=by obtain⟨m,hm⟩:=h0;exact DataW.trod_lt m _ _ _ hm
  exact⟨p,q,Below.trod hl hr.1.1 hr.1.2 h0 hb lt0,zdr hl hb ts vs ds q hr.2 hq,rfl⟩
 | [],_::_,_,_,_,h=>by cases h
 | [],[],_::_,_,_,h=>by cases h
 | _::_,[],_,_,_,h=>by cases h
 | _::_,_::_,[],_,_,h=>by cases h
end
section
open Go.RowKit
theorem Tryz.infoI32:(prog.info? 21).map (fun i=>(i.zero,i.size,i.bytes))=some (some (.int .i32 0),1,4):=by kernel_rfl
end
namespace S
abbrev Sp:=Int×Int
def memb (l:List Sp) (r:Int):Bool:=l.any fun x=>decide (x.1<=r)&&decide (r<=x.2)
theorem za9 {l:List Sp}{r:Int}:memb l r=true↔∃x∈l,x.1<=r/\r<=x.2:=by
 simp[memb]
theorem zbt (r:Int):memb [] r=false:=rfl
theorem zav (x:Sp)(l:List Sp)(r:Int):memb (x::l) r=((decide (x.1<=r)&&decide (r<=x.2))||memb l r):=rfl
theorem zcp (l m:List Sp)(r:Int):memb (l++m) r=(memb l r||memb m r):=by simp[memb]
theorem zes {a b:Bool}(h:a=true↔b=true):a=b:=by
 cases a <;> cases b <;> simp_all
def Nf:Int->List Sp->Prop
 | _,[]=>True
 | b,x::l=>b<=x.1/\x.1<=x.2/\x.2<=1114111/\Nf (x.2+2) l
theorem Nf.mono {b b':Int}{l:List Sp}(h:Nf b l)(hb:b'<=b):Nf b' l:=by
 cases l with
 | nil=>trivial
 | cons x l=>exact⟨by have:=h.1;omega,h.2⟩
theorem Nf.low {b:Int}{l:List Sp}(h:Nf b l){r:Int}(hr:memb l r=true):b<=r/\r<=1114111:=by
 induction l generalizing b with
 | nil=>simp[memb] at hr
 | cons x l ih =>
  obtain⟨h1,h2,h3,h4⟩:=h;rw[zav] at hr;simp only[Bool.or_eq_true,Bool.and_eq_true,decide_eq_true_eq] at hr;rcases hr with hr|hr
  ·omega
  ·have:=ih h4 hr;omega
theorem Nf.mem {b:Int}{l:List Sp}(h:Nf b l){x:Sp}(hx:x∈l):b<=x.1/\x.1<=x.2/\x.2<=1114111:=by
 induction l generalizing b with
 | nil=>simp at hx
 | cons y l ih =>
  obtain⟨h1,h2,h3,h4⟩:=h;rcases List.mem_cons.1 hx with rfl|hx
  ·exact⟨h1,h2,h3⟩
  ·have:=ih h4 hx;omega
theorem Nf.unique {b:Int}{l m:List Sp}(hl:Nf b l)(hm:Nf b m)(h:∀r,memb l r=memb m r):l=m:=by
 induction l generalizing b m with
 | nil =>
  cases m with
  | nil=>rfl
  | cons y m =>
   have:=h y.1;rw[zbt,zav] at this;have h2:=hm.2.1;simp[h2] at this
 | cons x l ih =>
  cases m with
  | nil =>
   have:=h x.1;rw[zbt,zav] at this;have h2:=hl.2.1;simp[h2] at this
  | cons y m =>
   obtain⟨a1,a2,a3,a4⟩:=hl;obtain⟨b1,b2,b3,b4⟩:=hm;have lowl:∀r,memb (x::l) r=true->x.1<=r:=fun r hr=>(Nf.low (b:=x.1) (l:=x::l) ⟨Int.le_refl _,a2,a3,a4⟩ hr).1
   have lowm:∀r,memb (y::m) r=true->y.1<=r:=fun r hr=>(Nf.low (b:=y.1) (l:=y::m) ⟨Int.le_refl _,b2,b3,b4⟩ hr).1
   have e1:x.1=y.1:=by
    have p1:=lowl y.1 (by rw[h,zav];simp[b2]);have p2:=lowm x.1 (by rw[<- h,zav];simp[a2]);omega
   have outl:∀r,r<=x.2+1->memb l r=false:=fun r hr=>by
    cases hq:memb l r with
    | false=>rfl
    | true=>have:=(a4.low hq).1;omega
   have outm:∀r,r<=y.2+1->memb m r=false:=fun r hr=>by
    cases hq:memb m r with
    | false=>rfl
    | true=>have:=(b4.low hq).1;omega
   have e2:x.2=y.2:=by
    rcases Int.lt_trichotomy x.2 y.2 with hlt|heq|hgt
    ·have:=h (x.2+1);rw[zav,zav,outl _ (by omega)] at this;have q:¬x.2+1<=x.2:=by omega
     have q2:y.1<=x.2+1:=by omega
     have q3:x.2+1<=y.2:=by omega
     simp[q,q2,q3] at this
    ·exact heq
    ·have:=h (y.2+1);rw[zav,zav,outm _ (by omega)] at this;have q:¬y.2+1<=y.2:=by omega
     have q2:x.1<=y.2+1:=by omega
     have q3:y.2+1<=x.2:=by omega
     simp[q,q2,q3] at this
   have e:x=y:=Prod.ext e1 e2;subst e;rw[ih a4 b4 fun r=> ?_]
   by_cases hr:r<=x.2+1
   ·rw[outl r hr,outm r hr]
   ·have:=h r;rw[zav,zav] at this;have q:¬r<=x.2:=by omega
    simpa [q] using this
theorem Nf.snoc {b:Int}{l:List Sp}{p x:Sp}(h:Nf b (l++ [p]))(hx:p.2+2<=x.1)(h1:x.1<=x.2)(h2:x.2<=1114111):Nf b (l++ [p]++ [x]):=by
 induction l generalizing b with
 | nil=>obtain⟨a,c,d,_⟩:=h;exact⟨a,c,d,hx,h1,h2,trivial⟩
 | cons y l ih=>obtain⟨a,c,d,e⟩:=h;exact⟨a,c,d,ih e⟩
theorem Nf.wide {b:Int}{l:List Sp}{p:Sp}{q:Int}(h:Nf b (l++ [p]))(h1:p.2<=q)(h2:q<=1114111):Nf b (l++ [(p.1,q)]):=by
 induction l generalizing b with
 | nil=>obtain⟨a,c,d,_⟩:=h;exact⟨a,by show p.1<=q;omega,h2,trivial⟩
 | cons y l ih=>obtain⟨a,c,d,e⟩:=h;exact⟨a,c,d,ih e⟩
theorem Nf.one {b:Int}{x:Sp}(h:b<=x.1)(h1:x.1<=x.2)(h2:x.2<=1114111):Nf b [x]:=⟨h,h1,h2,trivial⟩
theorem Nf.part {b:Int}{l m:List Sp}(h:Nf b (l++m)):Nf b l:=by
 induction l generalizing b with
 | nil=>trivial
 | cons y l ih=>obtain⟨a,c,d,e⟩:=h;exact⟨a,c,d,ih e⟩
theorem Nf.take {b:Int}{l:List Sp}(h:Nf b l)(n:Nat):Nf b (l.take n):=Nf.part (m:=l.drop n) (by rw[List.take_append_drop];exact h)
def joinF (s:List Sp) (x:Sp):List Sp :=
 match s.getLast? with
 | none=> [x]
 | some p=>if p.2+1<x.1 then s++ [x] else s.dropLast++ [(p.1,max p.2 x.2)]
theorem zfq (x:Sp):joinF [] x= [x]:=rfl
theorem zep (l:List Sp)(p x:Sp):joinF (l++ [p]) x=if p.2+1<x.1 then l++ [p]++ [x] else l++ [(p.1,max p.2 x.2)]:=by
 simp[joinF]
theorem zed (l:List Sp):l= []∨∃m p,l=m++ [p]:=by
 rcases List.eq_nil_or_concat l with h|⟨m,p,h⟩
 ·exact .inl h
 ·exact .inr ⟨m,p,by simpa using h⟩
theorem zl2 {s:List Sp}{x:Sp}(h:Nf 0 s)(h0:0<=x.1)(h1:x.1<=x.2)(h2:x.2<=1114111)(hl:∀p,s.getLast?=some p->p.1<=x.1):Nf 0 (joinF s x)/\∀r,memb (joinF s x) r=(memb s r||(decide (x.1<=r)&&decide (r<=x.2))):=by
 rcases zed s with rfl|⟨m,p,rfl⟩
 ·exact⟨Nf.one h0 h1 h2,fun r=>by simp[zfq,zav,zbt]⟩
 ·have hp:=hl p (by simp);have hpm:=h.mem (x:=p) (by simp);rw[zep]
  by_cases hc:p.2+1<x.1
  ·rw[if_pos hc];exact⟨h.snoc (by omega) h1 h2,fun r=>by rw[zcp];simp[zav,zbt]⟩
  ·rw[if_neg hc];refine⟨h.wide (by omega) (by omega),fun r=> ?_⟩;rw[zcp,zcp,Bool.or_assoc];congr 1;apply zes;simp[zav,zbt];omega
theorem zi6 (s:List Sp)(x:Sp):(joinF s x).length<=s.length+1:=by
 rcases zed s with rfl|⟨m,p,rfl⟩
 ·simp[zfq]
 ·rw[zep]
  by_cases hc:p.2+1<x.1
  ·rw[if_pos hc];simp
  ·rw[if_neg hc];simp
def bad (x:Sp):Bool:=decide (x.1<0)||decide (1114111<x.2)||decide (x.2<x.1)
theorem bad_false {x:Sp}:bad x=false↔0<=x.1/\x.1<=x.2/\x.2<=1114111:=by
 simp[bad];omega
def wgo:Int->List Sp->Int
 | _,[]=>0
 | b,x::l=>if bad x=true then 3 else if x.1<b then 2 else wgo (x.2+2) l
theorem zrh {b:Int}{l:List Sp}(hb:0<=b):wgo b l=0↔Nf b l:=by
 induction l generalizing b with
 | nil=>simp[wgo,Nf]
 | cons x l ih =>
  simp only[wgo,Nf];cases hbad:bad x with
  | true =>
   have:¬(0<=x.1/\x.1<=x.2/\x.2<=1114111):=fun h=>by rw[bad_false.2 h] at hbad;cases hbad
   simp;intro h1 h2 h3;omega
  | false =>
   have hok:=bad_false.1 hbad
   by_cases hlt:x.1<b
   ·simp[hlt];omega
   ·simp[hlt];rw[ih (by omega)];exact⟨fun h=>⟨by omega,by omega,by omega,h⟩,fun h=>h.2.2.2⟩
def wrongE (l:List Sp):Int:=if 200<l.length then 5 else wgo 0 l
theorem zan {l:List Sp}:wrongE l=0↔l.length<=200/\Nf 0 l:=by
 unfold wrongE
 by_cases h:200<l.length
 ·simp[h];omega
 ·rw[if_neg h,zrh (by omega)];exact⟨fun hh=>⟨by omega,hh⟩,fun hh=>hh.2⟩
def fewL (s:List Sp):List Sp:=if 200<s.length then [] else s
def fewE (s:List Sp):Int:=if 200<s.length then 5 else 0
def Is (P:Int->Bool) (s:List Sp):Prop:=Nf 0 s/\∀r,memb s r=P r
theorem Is.unique {P:Int->Bool}{s t:List Sp}(h:Is P s)(h':Is P t):s=t:=h.1.unique h'.1 fun r=>by rw[h.2,h'.2]
def inR (r:Int):Bool:=decide (0<=r)&&decide (r<=1114111)
open Classical in
noncomputable def nf (P:Int->Bool):List Sp:=if h:∃s,Is P s then Classical.choose h else []
theorem zvb {P:Int->Bool}(h:∃s,Is P s):Is P (nf P):=by
 unfold nf;rw[dif_pos h];exact Classical.choose_spec h
theorem zui {P:Int->Bool}{s:List Sp}(h:Is P s):nf P=s:=(zvb ⟨s,h⟩).unique h
noncomputable def resE (ea eb:Int) (P:Int->Bool):Int:=if ea≠0 then ea else if eb≠0 then eb else fewE (nf P)
noncomputable def resL (ea eb:Int) (P:Int->Bool):List Sp:=if ea≠0 then [] else if eb≠0 then [] else fewL (nf P)
def notP (a:List Sp) (r:Int):Bool:=inR r&& !memb a r
def orP (a b:List Sp) (r:Int):Bool:=inR r&&(memb a r||memb b r)
def andP (a b:List Sp) (r:Int):Bool:=inR r&&(memb a r&&memb b r)
def minP (a b:List Sp) (r:Int):Bool:=inR r&&(memb a r&& !memb b r)
theorem Nf.begins {b:Int}{s:List Sp}(h:Nf b s){x:Sp}(hx:x∈s):memb s x.1=true/\memb s (x.1-1)=false:=by
 induction s generalizing b with
 | nil=>simp at hx
 | cons y l ih =>
  obtain⟨h1,h2,h3,h4⟩:=h;rcases List.mem_cons.1 hx with rfl|hx
  ·refine⟨by rw[zav];simp[h2],?_⟩;rw[zav];cases hq:memb l (x.1-1) with
   | false=>simp;omega
   | true=>have:=(h4.low hq).1;omega
  ·have:=ih h4 hx;have hm:=h4.mem hx;refine⟨by rw[zav,this.1];simp,?_⟩;rw[zav,this.2];simp;omega
theorem starts {a:List Sp}{r:Int}(h1:memb a r=true)(h2:memb a (r-1)=false):r∈a.map (·.1):=by
 rw[za9] at h1;obtain⟨x,hx,hl,hh⟩:=h1;refine List.mem_map.2 ⟨x,hx,?_⟩
 by_cases e:x.1=r
 ·exact e
 ·exfalso;have:memb a (r-1)=true:=za9.2 ⟨x,hx,by omega,by omega⟩;rw[h2] at this;cases this
theorem stops {a:List Sp}{r:Int}(h1:memb a r=false)(h2:memb a (r-1)=true):r∈a.map (fun x=>x.2+1):=by
 rw[za9] at h2;obtain⟨x,hx,hl,hh⟩:=h2;refine List.mem_map.2 ⟨x,hx,?_⟩
 by_cases e:x.2+1=r
 ·exact e
 ·exfalso;have:memb a r=true:=za9.2 ⟨x,hx,by omega,by omega⟩;rw[h1] at this;cases this
def Past (l:List Sp) (j:Nat) (r:Int):Prop:=∀i x,i<j->l[i]?=some x->x.2<r
theorem Past.step {l:List Sp}{j:Nat}{r:Int}{x:Sp}(h:Past l j r)(hx:l[j]?=some x)(hlt:x.2<r):Past l (j+1) r:=fun i y hi hy=>by
 by_cases e:i=j
 ·subst e;rw[hx] at hy;cases hy;exact hlt
 ·exact h i y (by omega) hy
theorem Past.mono {l:List Sp}{j:Nat}{r r':Int}(h:Past l j r)(hr:r<=r'):Past l j r':=fun i x hi hx=>by have:=h i x hi hx;omega
theorem Nf.rise {b:Int}{l:List Sp}(h:Nf b l){i j:Nat}{x y:Sp}(hij:i<j)(hx:l[i]?=some x)(hy:l[j]?=some y):x.2+2<=y.1:=by
 induction l generalizing b i j with
 | nil=>simp at hx
 | cons z l ih =>
  obtain⟨a,c,d,e⟩:=h;cases j with
  | zero=>omega
  | succ j =>
   have hy':l[j]?=some y:=by simpa using hy
   cases i with
   | zero =>
    have hz:z=x:=by simpa using hx
    subst hz;exact(e.mem (List.mem_of_getElem? hy')).1
   | succ i=>exact ih e (show i<j by omega) (by simpa using hx) hy'
theorem zkz {l:List Sp}{j:Nat}{r q:Int}{x:Sp}(h:Nf 0 l)(hp:Past l j r)(hx:l[j]?=some x)(h1:r<=q)(h2:q<x.1):memb l q=false:=by
 cases hm:memb l q with
 | false=>rfl
 | true =>
  obtain⟨y,hy,h3,h4⟩:=za9.1 hm;obtain⟨i,hi⟩:=List.getElem?_of_mem hy;rcases Nat.lt_trichotomy i j with hlt|rfl|hgt
  ·have:=hp i y hlt hi;omega
  ·rw[hx] at hi;cases hi;omega
  ·have:=h.rise hgt hx hi;have:=h.mem (List.mem_of_getElem? hx);omega
theorem zqn {l:List Sp}{j:Nat}{r q:Int}(hj:l.length<=j)(hp:Past l j r)(h1:r<=q):memb l q=false:=by
 cases hm:memb l q with
 | false=>rfl
 | true =>
  obtain⟨y,hy,h3,h4⟩:=za9.1 hm;obtain⟨i,hi⟩:=List.getElem?_of_mem hy;have hlt:=(List.getElem?_eq_some_iff.1 hi).1;have:=hp i y (by omega) hi;omega
end S
section
theorem Tryz.infoSp:(prog.info? 113).map (fun i=>(i.zero,i.size,i.bytes))=some (some (.agg #[.int .i32 0,.int .i32 0]),2,8):=by kernel_rfl
end
namespace S
open Go.RowKit
def enc2 (x:Sp):List Value:= [.int .i32 x.1,.int .i32 x.2]
def cellsOf (l:List Sp):List Value:=l.flatMap enc2
def Fit (l:List Sp):Prop:=∀x∈l,-2147483648<=x.1/\x.1<=2147483647/\ -2147483648<=x.2/\x.2<=2147483647
theorem Fit.zdh {b:Int}{l:List Sp}(h:Nf b l)(hb:0<=b):Fit l:=fun x hx=>by have:=h.mem hx;omega
theorem Fit.at {l:List Sp}(h:Fit l){j:Nat}{x:Sp}(hj:l[j]?=some x): -2147483648<=x.1/\x.1<=2147483647/\ -2147483648<=x.2/\x.2<=2147483647:=h x (List.mem_of_getElem? hj)
theorem cellsOf_nil:cellsOf []= []:=rfl
theorem zbp (x:Sp)(l:List Sp):cellsOf (x::l)=.int .i32 x.1:: .int .i32 x.2::cellsOf l:=rfl
theorem zbo (l m:List Sp):cellsOf (l++m)=cellsOf l++cellsOf m:=by simp[cellsOf]
theorem zbn (l:List Sp):(cellsOf l).length=l.length*2:=by
 induction l with
 | nil=>rfl
 | cons x l ih=>rw[zbp];simp[ih];omega
theorem zct {l:List Sp}{j:Nat}{x:Sp}(h:l[j]?=some x):(cellsOf l)[j*2]?=some (.int .i32 x.1)/\(cellsOf l)[j*2+1]?=some (.int .i32 x.2):=by
 induction l generalizing j with
 | nil=>simp at h
 | cons y l ih =>
  cases j with
  | zero=>simp at h;subst h;rw[zbp];simp
  | succ j =>
   have:=ih (j:=j) (by simpa using h);rw[zbp,show (j+1)*2=j*2+1+1 by omega,show j*2+1+1+1=(j*2+1)+1+1 by omega];simpa using this
theorem zle {l:List Sp}{u:Value}(h:u∈cellsOf l):u.oneCell'=true:=by
 simp only[cellsOf,List.mem_flatMap,enc2] at h;obtain⟨x,_,h⟩:=h;simp at h;rcases h with rfl|rfl <;> rfl
theorem zlf {l:List Sp}{i:Nat}{u:Value}(h:(cellsOf l)[i]?=some u):∃j x,l[j]?=some x/\((i=j*2/\u=.int .i32 x.1)∨(i=j*2+1/\u=.int .i32 x.2)):=by
 have hlt:i<l.length*2:=by rw[<- zbn];exact(List.getElem?_eq_some_iff.1 h).1
 obtain⟨x,hx⟩:∃x,l[i / 2]?=some x:=⟨l[i / 2]'(by omega),by simp[show i / 2<l.length by omega]⟩;have hg:=zct hx;refine⟨i / 2,x,hx,?_⟩;rcases Nat.mod_two_eq_zero_or_one i with h0|h0
 ·left
  have e:i=i / 2*2:=by omega
  refine⟨e,?_⟩;have:=hg.1;rw[<- e,h] at this;exact Option.some.inj this
 ·right
  have e:i=i / 2*2+1:=by omega
  refine⟨e,?_⟩;have:=hg.2;rw[<- e,h] at this;exact Option.some.inj this
def Rd (w:World) (v:Value) (l:List Sp):Prop :=
 ∃ao cap,v=.slice ao l.length cap/\(ao=none->cap=0)/\(l≠ []->∃b off,ao=some ⟨b,off,none⟩/\∀j x,l[j]?=some x->w.cell? ⟨b,off+j*2,none⟩=some (.int .i32 x.1)/\w.cell? ⟨b,off+j*2+1,none⟩=some (.int .i32 x.2))
theorem Rd.nil (w:World):Rd w (.slice none 0 0) []:=⟨none,0,rfl,fun _=>rfl,fun h=>absurd rfl h⟩
theorem Rd.zax {w:World}{B:Nat}{e:TypeId}{v:Value}{l:List Sp}(h:w.ownsRow B e 2 v l.length (cellsOf l)):Rd w v l:=by
 have hc:=fun g hg=>World.ownsRow.cells h (g:=g) hg
 rcases h.2 with ⟨rfl,h0⟩|⟨g,cap,cur,rfl,h0⟩
 ·have:l= []:=by simpa using h0
  subst this;exact Rd.nil w
 ·refine⟨_,cap,rfl,fun h=>by simp at h,fun _=>⟨g,0,rfl,fun j x hj=> ?_⟩⟩;have hg:=zct hj;have h1:=hc g rfl _ _ hg.1;have h2:=hc g rfl _ _ hg.2;rw[L.addr_add] at h1 h2;exact⟨h1,h2⟩
theorem Rd.cells {w w':World}{v:Value}{l:List Sp}(h:Rd w v l)(hc:∀b o u,w.cell? ⟨b,o,none⟩=some u->(∃ao n c,v=.slice ao n c/\∃a,ao=some a/\a.block=b)->w'.cell? ⟨b,o,none⟩=some u):Rd w' v l:=by
 obtain⟨ao,cap,rfl,hn,h⟩:=h;refine⟨ao,cap,rfl,hn,fun hz=> ?_⟩;obtain⟨b,off,rfl,hcl⟩:=h hz;refine⟨b,off,rfl,fun j x hj=> ?_⟩;have h1:=hcl j x hj;exact⟨hc _ _ _ h1.1 ⟨_,_,_,rfl,_,rfl,rfl⟩,hc _ _ _ h1.2 ⟨_,_,_,rfl,_,rfl,rfl⟩⟩
theorem Rd.below {w w':World}{v:Value}{l:List Sp}{B:Nat}(h:Rd w v l)(hb:Below B w w')(hB:w.heap.size<=B):Rd w' v l :=
 h.cells fun b o u hu _=>by
  have:=L.block_lt hu;rw[hb.cell (p:=⟨b,o,none⟩) (by show b<B;omega)];exact hu
theorem Rd.grown {w w':World}{v:Value}{l:List Sp}{row:Option Nat}(h:Rd w v l)(hg:w.grownBy w' row)(hne:∀g,row=some g->v.ownBlock≠some g):Rd w' v l :=
 h.cells fun b o u hu hv=>by
  have:=L.block_lt hu;obtain⟨ao,n,c,rfl,a,rfl,rfl⟩:=hv;rw[World.cell?_of_block (a:=⟨a.block,o,none⟩) (hg.block a.block this fun e=>hne _ e.symm rfl)];exact hu
theorem Rd.block {w:World}{v:Value}{l:List Sp}(h:Rd w v l)(hl:l≠ []):∃g,v.ownBlock=some g/\g<w.heap.size:=by
 obtain⟨ao,cap,rfl,hn,h⟩:=h;obtain⟨b,off,rfl,hc⟩:=h hl;obtain⟨x,hx⟩:∃x,l[0]?=some x:=⟨l[0]'(List.length_pos_iff.2 hl),by simp[List.length_pos_iff.2 hl]⟩;exact⟨b,rfl,L.block_lt (hc 0 x hx).1⟩
theorem Rd.kept {w0 w w':World}{v:Value}{l:List Sp}{row:Option Nat}(h0:Rd w0 v l)(h:Rd w v l)(hg:w.grownBy w' row)(hr:∀g,row=some g->w0.heap.size<=g):Rd w' v l:=by
 by_cases hl:l= []
 ·subst hl;obtain⟨ao,cap,rfl,hn,_⟩:=h;exact⟨ao,cap,rfl,hn,fun h=>absurd rfl h⟩
 ·obtain⟨b,hb,hlt⟩:=h0.block hl;exact h.grown hg fun g hg' e=>by rw[hb] at e;cases e;have:=hr _ hg';omega
theorem Rd.len {w:World}{v:Value}{l:List Sp}(h:Rd w v l):∃ao cap,v=.slice ao l.length cap:=by
 obtain⟨ao,cap,rfl,_⟩:=h;exact⟨ao,cap,rfl⟩
theorem boxed {wr w1:World}{a b:Value}{t:TypeId}(h:Below (wr.alloc (.cells #[a,b] t)).heap.size (wr.alloc (.cells #[a,b] t)) w1) :
  (w1.cell? ⟨wr.heap.size,0,none⟩=some a/\w1.cell? ⟨wr.heap.size,1,none⟩=some b)/\(∀bb o u,wr.cell? ⟨bb,o,none⟩=some u->w1.cell? ⟨bb,o,none⟩=some u)/\wr.heap.size<w1.heap.size/\Bl wr w1:=by
 have hs:=h.size;have e:(wr.alloc (.cells #[a,b] t)).heap.size=wr.heap.size+1:=by simp
 have hb:=((Below.refl _ wr).alloc (Nat.le_refl _) _).trans (h.mono (by omega));refine⟨⟨?_,?_⟩,?_,by omega,hb⟩
 ·rw[h.cell (p:=⟨wr.heap.size,0,none⟩) (by show wr.heap.size<_;omega),World.cell?_alloc_at _ _ _ _ (by simp)];rfl
 ·rw[h.cell (p:=⟨wr.heap.size,1,none⟩) (by show wr.heap.size<_;omega),World.cell?_alloc_at _ _ _ _ (by simp)];rfl
 ·intro bb o u hu;rw[hb.cell (p:=⟨bb,o,none⟩) (L.block_lt hu)];exact hu
theorem zaa {w w1 w2:World}{r:Option Nat}(h:w.grownBy w1 r)(h':w1.grownBy w2 r):w.grownBy w2 r :=
 ⟨h'.os.trans h.os,h'.tape.trans h.tape,h'.output.trans h.output,Nat.le_trans h.size h'.size,fun k hk hne=>(h'.block k (Nat.lt_of_lt_of_le hk h.size) hne).trans (h.block k hk hne)⟩
theorem zat (w:World)(r:Option Nat):w.grownBy w r:=⟨rfl,rfl,rfl,Nat.le_refl _,fun _ _ _=>rfl⟩
theorem zaf {w w1:World}{r:Option Nat}(h:Bl w w1):w.grownBy w1 r:=⟨h.os,h.tape,h.output,h.size,fun k hk _=>h.block k hk⟩
theorem zen {w:World}{base:Nat}{e:TypeId}{size:Nat}{v:Value}{n:Nat}{xs:List Value}(h:w.ownsRow base e size v n xs)(q:Nat):(w.drewN q).ownsRow base e size v n xs:=h
def num (w:World) (b:Nat):Nat:=(intOf ((w.cell? ⟨b,0,none⟩).getD undef)).toNat
def Bx (w:World) (b:Nat) (t:TypeId) (v:Value):Prop:=w.heap[b]?=some (.cells #[v] t)
theorem Bx.cell {w:World}{b:Nat}{t:TypeId}{v:Value}(h:Bx w b t v):w.cell? ⟨b,0,none⟩=some v:=by simp[World.cell?,Bx] at h ⊢;rw[h];rfl
theorem Bx.num {w:World}{b:Nat}{t:TypeId}{k:Nat}(h:Bx w b t (.int .i64 k)):num w b=k:=by unfold S.num;rw[h.cell];rfl
theorem Bx.free {w:World}{b:Nat}{t:TypeId}{v:Value}(h:Bx w b t v):w.frozen? ⟨b,0,none⟩=false:=by simp[World.frozen?,Bx] at h ⊢;rw[h];rfl
theorem Bx.lt {w:World}{b:Nat}{t:TypeId}{v:Value}(h:Bx w b t v):b<w.heap.size:=lt_of_block h
theorem Bx.set {w:World}{b:Nat}{t:TypeId}{v:Value}(h:Bx w b t v)(u:Value):Bx (w.setCell ⟨b,0,none⟩ u) b t u:=by
 have:=heap_setCell_same w b 0 #[v] t u h;exact this
theorem Bx.new (w:World)(t:TypeId)(v:Value):Bx (w.alloc (.cells #[v] t)) w.heap.size t v:=by
 unfold Bx;exact Array.getElem?_push_size
theorem Bx.below {w w':World}{B b:Nat}{t:TypeId}{v:Value}(h:Bx w b t v)(hb:Below B w w')(hB:b<B):Bx w' b t v:=by
 unfold Bx;rw[hb.block b hB];exact h
theorem Bx.grown {w w':World}{b:Nat}{t:TypeId}{v:Value}{r:Option Nat}(h:Bx w b t v)(hg:w.grownBy w' r)(hr:r≠some b):Bx w' b t v:=by
 unfold Bx;rw[hg.block b h.lt (fun e=>hr e.symm)];exact h
end S
