/-
 Words of a text: plain.
-/
import Derived.Test.YtamfgmaipajodaaGreatDoorCnMath
import Derived.Test.YtamfgmaipajodaaGreatDoorOdP
import Derived.Test.YtamfgmaipajodaaGreatDoorRows
import Derived.Test.YtamfgmaipajodaaGreatDoorSLib
import Derived.Deep.QuietTactic
import Derived.BigQuiet
import Derived.Test.YtamfgmaipajodaaGreatDoorQBoxes
import Derived.Test.YtamfgmaipajodaaGreatDoorVForth
import Derived.Lib.AppendZeros
import Derived.Shelf.SlGeneric
set_option maxHeartbeats 0
set_option maxRecDepth 20000
set_option linter.unusedSimpArgs false
set_option linter.unusedVariables false
namespace Go.Proofs.YtamfgmaipajodaaGreatDoor
namespace Wd
abbrev Wo:=Nat×Nat×Bool
def go (p:Int->Bool):Nat->Nat->Bool->List Int->List Wo
 | fr,i,b,[]=> [(fr,i,b)]
 | fr,i,b,r::t=>if p r=b then go p fr (i+1) b t else (fr,i,b)::go p i (i+1) (p r) t
def rest (p:Int->Bool) (t:List Int) (k:Nat):List Wo:=if k<t.length then go p k (k+1) (p (t.getD k 0)) (t.drop (k+1)) else []
theorem drop_at {t:List Int}{i:Nat}(h:i<t.length):t.drop i=t.getD i 0::t.drop (i+1):=by
 rw[List.drop_eq_getElem_cons h];simp[List.getD,h]
theorem rest_end {p:Int->Bool}{t:List Int}{k:Nat}(h:t.length<=k):rest p t k= []:=if_neg (by omega)
theorem go_step {p:Int->Bool}{t:List Int}{fr i:Nat}{b:Bool}(h:i<t.length)(hp:p (t.getD i 0)=b):go p fr i b (t.drop i)=go p fr (i+1) b (t.drop (i+1)):=by
 rw[drop_at h,go,if_pos hp]
theorem go_cut {p:Int->Bool}{t:List Int}{fr i:Nat}{b:Bool}(h:i<=t.length)(hp:i<t.length->p (t.getD i 0)≠b):go p fr i b (t.drop i)=(fr,i,b)::rest p t i:=by
 by_cases hi:i<t.length
 ·rw[drop_at hi,go,if_neg (hp hi),rest,if_pos hi]
 ·have:i=t.length:=by omega
  subst this;rw[List.drop_length,rest_end qN,go]
theorem zk5 (p:Int->Bool):∀(s:List Int) (fr i:Nat) (b:Bool),(go p fr i b s).length<=s.length+1
 | [],fr,i,b=>by simp[go]
 | r::s,fr,i,b=>by
  have h1:=zk5 p s fr (i+1) b;have h2:=zk5 p s i (i+1) (p r);rw[go];split
  ·simp only[List.length_cons];omega
  ·simp only[List.length_cons];omega
theorem zks (p:Int->Bool)(t:List Int)(k:Nat):(rest p t k).length<=t.length:=by
 unfold rest;split
 ·have:=zk5 p (t.drop (k+1)) k (k+1) (p (t.getD k 0));rw[List.length_drop] at this;omega
 ·simp
theorem zp3 (p:Int->Bool)(t:List Int)(fr:Nat)(b:Bool):∀(n i:Nat),t.length - i=n->i<=t.length->∃tq,go p fr i b (t.drop i)=(fr,tq,b)::rest p t tq/\i<=tq/\tq<=t.length
 | 0,i,h,hi=>⟨i,go_cut hi fun h2=>by omega,qN,hi⟩
 | n+1,i,h,hi=>by
  by_cases hp:p (t.getD i 0)=b
  ·obtain⟨tq,h1,h2,h3⟩:=zp3 p t fr b n (i+1) (by omega) (by omega);exact⟨tq,by rw[go_step (by omega) hp,h1],by omega,h3⟩
  ·exact⟨i,go_cut hi fun _=>hp,qN,hi⟩
theorem zhk {p:Int->Bool}{t:List Int}{k:Nat}(h:k<t.length):∃tq,rest p t k=(k,tq,p (t.getD k 0))::rest p t tq/\k<tq/\tq<=t.length:=by
 obtain⟨tq,h1,h2,h3⟩:=zp3 p t k (p (t.getD k 0)) _ (k+1) rfl (by omega);exact⟨tq,by rw[rest,if_pos h,h1],by omega,h3⟩
theorem zhj {p:Int->Bool}{t:List Int}{k:Nat}{x:Wo}{l:List Wo}(h:rest p t k=x::l):k<t.length/\x.1=k/\k<x.2.1/\x.2.1<=t.length/\l=rest p t x.2.1:=by
 by_cases hk:k<t.length
 ·obtain⟨tq,h1,h2,h3⟩:=zhk (p:=p) hk;rw[h1] at h;cases h;exact⟨hk,rfl,h2,h3,rfl⟩
 ·rw[rest_end (by omega)] at h;cases h
abbrev words (p:Int->Bool) (t:List Int):List Wo:=rest p t 0
def seg (t:List Int) (x:Wo):List Int:=(t.drop x.1).take (x.2.1 - x.1)
def cap1:List Int->List Int
 | []=> []
 | r::s=>Cn.up r::s.map Cn.low
def cap (b:Bool) (s:List Int):List Int:=if b=true then cap1 s else s
def ch (p:Int->Bool) (b:Bool) (r:Int):Int:=if p r=false then r else if b=true then Cn.low r else Cn.up r
def title (p:Int->Bool):Bool->List Int->List Int
 | _,[]=> []
 | b,r::t=>ch p b r::title p (p r) t
theorem zde (p:Int->Bool):∀(t:List Int) (b:Bool),(title p b t).length=t.length
 | [],b=>rfl
 | r::t,b=>by rw[title,List.length_cons,zde p t,List.length_cons]
def capW (t:List Int) (x:Wo):List Int:=cap x.2.2 (seg t x)
theorem zs1 {b:Bool}{s:List Int}(r:Int)(h:s≠ []):cap b (s++ [r])=cap b s++ [if b=true then Cn.low r else r]:=by
 unfold cap;cases s with
 | nil=>exact absurd rfl h
 | cons a s=>cases b <;> simp[cap1]
theorem zgi (p:Int->Bool)(t:List Int):∀(s:List Int) (hd pre:List Int) (fr i:Nat) (b:Bool),t=hd++(pre++s)->hd.length=fr->pre.length=i - fr->fr<=i->pre≠ []->(go p fr i b s).flatMap (capW t)=cap b pre++title p b s
 | [],hd,pre,fr,i,b,ht,h1,h2,h3,h4=>by
  subst ht;simp only[go,List.flatMap_cons,List.flatMap_nil,List.append_nil,title,capW,seg];rw[<- h1,List.drop_left,<- show pre.length=i - hd.length by rw[h1,h2],List.take_length]
 | r::s,hd,pre,fr,i,b,ht,h1,h2,h3,h4=>by
  rw[go];split
  ·rename_i hp
   rw[zgi p t s hd (pre++ [r]) fr (i+1) b (by rw[ht];simp) h1 (by simp;omega) (by omega) (by simp),zs1 r h4,title,List.append_assoc,hp];unfold ch;rw[hp];cases b <;> simp
  ·rename_i hp
   rw[List.flatMap_cons,zgi p t s (hd++pre) [r] i (i+1) (p r) (by rw[ht];simp) (by rw[List.length_append,h1,h2];omega) (by simp) (by omega) (by simp),title]
   have e1:capW t (fr,i,b)=cap b pre:=by
    unfold capW seg;simp only;rw[ht,<- h1,List.drop_left,show i - hd.length=pre.length by rw[h1,h2],List.take_left]
   rw[e1]
   have e2:cap (p r) [r]= [ch p b r]:=by
    unfold cap ch;cases hpr:p r with
    | false=>rfl
    | true =>
     cases b with
     | false=>rfl
     | true=>exact absurd hpr hp
   rw[e2];simp
theorem ziv (p:Int->Bool)(t:List Int):(words p t).flatMap (capW t)=title p false t:=by
 cases t with
 | nil=>rfl
 | cons r s =>
  have h:=zgi p (r::s) s [] [r] 0 1 (p r) rfl rfl rfl (by omega) (by simp)
  have e:words p (r::s)=go p 0 1 (p r) s:=by
   unfold words rest;rw[if_pos (by simp)];rfl
  rw[e,h,title];unfold cap ch;cases hpr:p r <;> simp[cap1]
def bf (p:Int->Bool) (t:List Int):Nat->Bool
 | 0=>false
 | k+1=>p (t.getD k 0)
theorem zri {p:Int->Bool}{t:List Int}{k:Nat}{x:Wo}{l:List Wo}(h:rest p t k=x::l):t.drop k=seg t x++t.drop x.2.1/\(seg t x).length=x.2.1 - x.1:=by
 obtain⟨h1,h2,h3,h4,h5⟩:=zhj h;unfold seg;rw[h2];constructor
 ·have e:t.drop x.2.1=(t.drop k).drop (x.2.1 - k):=by rw[List.drop_drop];congr 1;omega
  rw[e,List.take_append_drop]
 ·rw[List.length_take,List.length_drop];omega
theorem zrn {p:Int->Bool}{t:List Int}{k:Nat}(h:rest p t k= []):t.length<=k:=by
 by_cases hk:k<t.length
 ·obtain⟨tq,h1,_⟩:=zhk (p:=p) hk;rw[h1] at h;cases h
 ·omega
def each (pl:Cn.Pl) (s:V.Script) (t:List Int):List Wo->List Int->List Int×Int×Int
 | [],acc=>if 4000<acc.length then ([],4,(s.passes.length:Int)) else (acc,0,0)
 | x::l,acc =>
  if x.2.2=false then each pl s t l (acc++seg t x)
  else if (Cn.goF pl s (seg t x)).2.1=0 then each pl s t l (acc++(Cn.goF pl s (seg t x)).1) else ([],(Cn.goF pl s (seg t x)).2)
def splitE (L:List S.Sp) (t:List Int):Int:=if S.wrongE L=0 then K.textE t else S.wrongE L
def splitF (L:List S.Sp) (t:List Int):List Wo:=if splitE L t=0 then words (S.memb L) t else []
def titleF (L:List S.Sp) (t:List Int):List Int:=if splitE L t=0 then title (S.memb L) false t else []
def eachF (pl:Cn.Pl) (L:List S.Sp) (s:V.Script) (t:List Int):List Int×Int×Int :=
 if (Cn.wrongF s).1=0 then (if splitE L t=0 then each pl s t (words (S.memb L) t) [] else ([],splitE L t,0)) else ([],Cn.wrongF s)
def wcells (l:List Wo):List Value:=l.flatMap fun x=> [.int .i64 (x.1:Nat),.int .i64 (x.2.1:Nat),.bool x.2.2]
theorem zgf (a b:List Wo):wcells (a++b)=wcells a++wcells b:=by simp[wcells]
theorem zn0:∀ {l:List Wo} {k:Nat} {x:Wo},l[k]?=some x->(wcells l)[k*3]?=some (.int .i64 (x.1:Nat))/\(wcells l)[k*3+1]?=some (.int .i64 (x.2.1:Nat))/\(wcells l)[k*3+2]?=some (.bool x.2.2):=by
 intro l
 induction l with
 | nil=>intro k x h;simp at h
 | cons y l ih =>
  intro k x h;cases k with
  | zero=>simp at h;subst h;exact⟨rfl,rfl,rfl⟩
  | succ k =>
   have h1:=ih (k:=k) (x:=x) (by simpa using h);have e:wcells (y::l)= .int .i64 (y.1:Nat):: .int .i64 (y.2.1:Nat):: .bool y.2.2::wcells l:=rfl;rw[e,show (k+1)*3=k*3+1+1+1 by omega];exact h1
end Wd
end Go.Proofs.YtamfgmaipajodaaGreatDoor
namespace Go.Proofs.YtamfgmaipajodaaGreatDoor.Tp
def twB (x y:Int):Bool:=Nm.cls x==Nm.cls y&&(if 0<Nm.cls x then x==y else Cn.low x==Cn.low y)
def rlB:List Int->List Int->Bool
 | [],[]=>true
 | x::a,y::b=>twB x y&&rlB a b
 | _,_=>false
theorem zq7 (x:Int):twB x x=true:=by unfold twB;simp
theorem zck:∀l:List Int,rlB l l=true
 | []=>rfl
 | x::l=>by rw[rlB,zq7,zck l];rfl
theorem za5 {x y:Int}{a b:List Int}:rlB (x::a) (y::b)=true↔twB x y=true/\rlB a b=true:=by rw[rlB];simp
theorem zoq:∀ {a b:List Int},rlB a b=true->a.length=b.length
 | [],[],_=>rfl
 | [],_::_,h=>by simp[rlB] at h
 | _::_,[],h=>by simp[rlB] at h
 | x::a,y::b,h=>by rw[List.length_cons,List.length_cons,zoq (za5.1 h).2]
theorem zi4:∀ {a b c d:List Int},rlB a b=true->rlB c d=true->rlB (a++c) (b++d)=true
 | [],[],c,d,_,h=>h
 | [],_::_,c,d,h,_=>by simp[rlB] at h
 | _::_,[],c,d,h,_=>by simp[rlB] at h
 | x::a,y::b,c,d,h,h'=>by
  rw[List.cons_append,List.cons_append];exact za5.2 ⟨(za5.1 h).1,zi4 (za5.1 h).2 h'⟩
theorem zi3:∀ {a b:List Int},rlB a b=true->rlB a.reverse b.reverse=true
 | [],[],_=>rfl
 | [],_::_,h=>by simp[rlB] at h
 | _::_,[],h=>by simp[rlB] at h
 | x::a,y::b,h=>by
  rw[List.reverse_cons,List.reverse_cons];exact zi4 (zi3 (za5.1 h).2) (by rw[rlB,(za5.1 h).1];rfl)
theorem zn4 {x y:Int}(h:twB x y=true):Nm.cls x=Nm.cls y:=by unfold twB at h;simp at h;exact h.1
theorem zpw:∀ {a b:List Int} {x y:Int},rlB a b=true->twB x y=true->rlB (Nm.insV a x) (Nm.insV b y)=true
 | [],[],x,y,_,h=>by show rlB [x] [y]=true;rw[rlB,h];rfl
 | [],_::_,x,y,h,_=>by simp[rlB] at h
 | _::_,[],x,y,h,_=>by simp[rlB] at h
 | u::a,v::b,x,y,h,hxy=>by
  obtain⟨h1,h2⟩:=za5.1 h;rw[Nm.insV,Nm.insV,zn4 hxy,zn4 h1];split
  ·exact za5.2 ⟨h1,zpw h2 hxy⟩
  ·exact za5.2 ⟨hxy,za5.2 ⟨h1,h2⟩⟩
theorem zut {a b:List Int}{x y:Int}(h:rlB a b=true)(hxy:twB x y=true):rlB (Nm.insR a x) (Nm.insR b y)=true:=zi3 (zpw (zi3 h) hxy)
theorem zqb:∀ {L M a b:List Int},rlB L M=true->rlB a b=true->rlB (L.foldl Nm.insR a) (M.foldl Nm.insR b)=true
 | [],[],a,b,_,h=>h
 | [],_::_,a,b,h,_=>by simp[rlB] at h
 | _::_,[],a,b,h,_=>by simp[rlB] at h
 | x::L,y::M,a,b,h,hab=>by
  rw[List.foldl_cons,List.foldl_cons];exact zqb (za5.1 h).2 (zut hab (za5.1 h).1)
theorem zps:∀ {L M:List Int} {p q:Od.K3},rlB L M=true->p.1=q.1->p.2.1=q.2.1->(L.foldl Od.kstep p).1=(M.foldl Od.kstep q).1/\(L.foldl Od.kstep p).2.1=(M.foldl Od.kstep q).2.1
 | [],[],p,q,_,h1,h2=>⟨h1,h2⟩
 | [],_::_,p,q,h,_,_=>by simp[rlB] at h
 | _::_,[],p,q,h,_,_=>by simp[rlB] at h
 | x::L,y::M,p,q,h,h1,h2=>by
  obtain⟨ht,hr⟩:=za5.1 h;rw[List.foldl_cons,List.foldl_cons];have hc:=zn4 ht;unfold twB at ht;simp only[Bool.and_eq_true] at ht
  by_cases hm:0<Nm.cls x
  ·have e:x=y:=by have:=ht.2;rw[if_pos hm] at this;simpa using this
   subst e;refine zps hr ?_ ?_
   ·unfold Od.kstep;rw[if_pos hm,if_pos hm];exact h1
   ·unfold Od.kstep;rw[if_pos hm,if_pos hm];simp only;rw[h2]
  ·have e:Cn.low x=Cn.low y:=by have:=ht.2;rw[if_neg hm] at this;simpa using this
   refine zps hr ?_ ?_
   ·unfold Od.kstep;rw[if_neg hm,if_neg (by rw[<- hc];exact hm)];simp only;rw[h1,e]
   ·unfold Od.kstep;rw[if_neg hm,if_neg (by rw[<- hc];exact hm)];simp only;rw[h2]
def okN (n:Nat):Bool:=(if Cn.up n=n then true else rlB (Nm.fl n) (Nm.fl (Cn.up n)))&&(if Cn.low n=n then true else rlB (Nm.fl n) (Nm.fl (Cn.low n)))
theorem zvl:(List.range 1120).all okN=true:=by kernel_rfl
theorem zuv {r:Int}(h:0<=r):rlB (Nm.fl r) (Nm.fl (Cn.up r))=true/\rlB (Nm.fl r) (Nm.fl (Cn.low r))=true:=by
 by_cases hr:r<1120
 ·obtain⟨n,rfl⟩:∃n:Nat,r=n:=⟨r.toNat,by omega⟩;have h1:=List.all_eq_true.1 zvl n (List.mem_range.2 (by omega));unfold okN at h1;simp only[Bool.and_eq_true] at h1;constructor
  ·by_cases hu:Cn.up (n:Int)=n
   ·rw[hu];exact zck _
   ·have:=h1.1;rw[if_neg hu] at this;exact this
  ·by_cases hu:Cn.low (n:Int)=n
   ·rw[hu];exact zck _
   ·have:=h1.2;rw[if_neg hu] at this;exact this
 ·have e1:Cn.up r=r:=by
   unfold Cn.up;have:=Cn.za8 r;omega
  have e2:Cn.low r=r:=by
   have h1:=Cn.za8 (r+32);have h2:=Cn.za8 (r+80);unfold Cn.low;rw[if_neg (by omega),if_neg (by omega)]
  rw[e1,e2];exact⟨zck _,zck _⟩
theorem zf8 (p:Int->Bool):∀(t:List Int) (b:Bool),(∀r∈t,0<=r)->rlB (t.flatMap Nm.fl) ((Wd.title p b t).flatMap Nm.fl)=true
 | [],b,_=>by cases b <;> rfl
 | r::t,b,h=>by
  rw[Wd.title,List.flatMap_cons,List.flatMap_cons];refine zi4 ?_ (zf8 p t _ fun x hx=>h x (List.mem_cons_of_mem _ hx));obtain⟨h1,h2⟩:=zuv (h r List.mem_cons_self);unfold Wd.ch;split
  ·exact zck _
  ·split
   ·exact h2
   ·exact h1
theorem zek (p:Int->Bool):∀(t:List Int) (b:Bool),(∀r∈t,M.right r=true)->∀r∈Wd.title p b t,M.right r=true
 | [],b,_,r,hr=>by cases b <;> cases hr
 | x::t,b,h,r,hr=>by
  rw[Wd.title] at hr;rcases List.mem_cons.1 hr with rfl | hr
  ·have hx:=h x List.mem_cons_self;unfold Wd.ch;split
   ·exact hx
   ·split
    ·exact Cn.zhy hx
    ·exact Cn.zkj hx
  ·exact zek p t _ (fun y hy=>h y (List.mem_cons_of_mem _ hy)) r hr
theorem zpr (p:Int->Bool)(t:List Int)(h:K.textE t=0):(Od.keyF (Wd.title p false t)).2=(Od.keyF t).2/\(Od.keyF (Wd.title p false t)).1.1=(Od.keyF t).1.1/\(Od.keyF (Wd.title p false t)).1.2.1=(Od.keyF t).1.2.1:=by
 obtain⟨h4,hr⟩:=Nm.zix h
 have hright:∀r∈t,M.right r=true:=by
  have h':=h;unfold K.textE at h';split at h'
  ·cases h'
  ·split at h'
   ·rename_i h2;exact fun r hr=>List.all_eq_true.1 h2 r hr
   ·cases h'
 have h2:K.textE (Wd.title p false t)=0:=by
  unfold K.textE;rw[if_neg (by rw[Wd.zde];omega),if_pos (show K.allR _=true from List.all_eq_true.2 (zek p t false hright))]
 have hf:=zf8 p t false fun r hr'=>(hr r hr').1
 have hl:=zoq hf;have ha:Nm.apartF t=if 4000<(t.flatMap Nm.fl).length then ([],4) else ((t.flatMap Nm.fl).foldl Nm.insR [],0):=by unfold Nm.apartF;rw[if_neg (by rw[h];simp)]
 have hb:Nm.apartF (Wd.title p false t)=if 4000<(t.flatMap Nm.fl).length then ([],4) else (((Wd.title p false t).flatMap Nm.fl).foldl Nm.insR [],0):=by unfold Nm.apartF;rw[if_neg (by rw[h2];simp),<- hl]
 unfold Od.keyF;rw[ha,hb]
 by_cases hm:4000<(t.flatMap Nm.fl).length
 ·rw[if_pos hm,if_pos hm];simp
 ·rw[if_neg hm,if_neg hm];simp only[ne_eq,not_true_eq_false,if_false];have hk:=zps (p:=([],[],[])) (q:=([],[],[])) (zqb hf (a:= []) (b:= []) rfl) rfl rfl;exact⟨trivial,hk.1.symm,hk.2.symm⟩
end Go.Proofs.YtamfgmaipajodaaGreatDoor.Tp
namespace Go.Proofs.YtamfgmaipajodaaGreatDoor
open Go.RowKit
theorem Tp.zgj {a b:List Int}{k:Nat}{x y:Int}(h:a.take k=b.take k)(hx:a[k]?=some x)(hy:b[k]?=some y)(e:x=y):a.take (k+1)=b.take (k+1):=by
 rw[List.take_add_one,List.take_add_one,h,hx,hy,e]
theorem zfr (w:World)(va vb:Value)(za zb:List Int)(ha:L.Rd w va .i64 za)(hb:L.Rd w vb .i64 zb)(hla:za.length<=4611686018427387903)(hlb:zb.length<=4611686018427387903) :
  Calls Tryz.prog 21 #[va,vb] w fun e w'=>e= .returned (.bool (decide (za=zb)))/\Below w.heap.size w w':=by
 obtain⟨ao,ca,rfl,_,ha⟩:=ha;obtain⟨bo,cb,rfl,_,hb⟩:=hb
 by_cases hl:za.length=zb.length
 ·go_enter Tryz.func21,Tryz.ntmps21
  go_wp2
  go_loopw [13] (fun i wr=>∃k n:Nat,k<=za.length/\i= .int .i64 k/\za.take k=zb.take k/\wr=w.drewN n) (fun i _=>za.length - (intOf i).toNat)
  case atStart=>exact⟨0,0,Nat.zero_le _,rfl,by simp,rfl⟩
  case round =>
   obtain⟨k,n,hk,rfl,ht,rfl⟩:=hrel
   by_cases hlt:k<za.length
   ·obtain⟨b1,o1,rfl,hc1⟩:=ha (by intro h;subst h;simp at hlt);obtain⟨b2,o2,rfl,hc2⟩:=hb (by intro h;subst h;simp at hl;rw[hl] at hlt;simp at hlt);obtain⟨x,hx⟩:∃x,za[k]?=some x:=⟨za[k],by simp[hlt]⟩;obtain⟨y,hy⟩:∃y,zb[k]?=some y:=⟨zb[k]'(by omega),by simp[show k<zb.length by omega]⟩;have c1:=hc1 k x hx;have c2:=hc2 k y hy;clear hc1 hc2 ha hb;have HX:Hid (za[k]?=some x/\zb[k]?=some y/\za.take k=zb.take k):=⟨hx,hy,ht⟩;clear hx hy ht
    by_cases hxy:x=y
    ·go_wp2
     go_quiet (fail)
     go_wp2
     go_roundw
     case rel=>exact⟨k+1,_,by omega,by go_num,Tp.zgj HX.out.2.2 HX.out.1 HX.out.2.1 hxy,rfl⟩
     case measure=>simp[intOf];omega
    ·go_wp2
     go_quiet (fail)
     go_wp2;go_ret
     refine⟨L.zak ?_,below_drewN (below_drewN (qR _) _) _⟩
     have:za≠zb:=by
      intro e;rw[e] at HX;have h1:=HX.out.1;rw[HX.out.2.1] at h1;exact hxy (Option.some.inj h1).symm
     simp[this]
   ·go_wp2;go_ret
    refine⟨L.zak ?_,below_drewN (qR _) _⟩;rw[List.take_of_length_le (by omega),List.take_of_length_le (by omega)] at ht;simp[ht]
 ·go_enter Tryz.func21,Tryz.ntmps21
  go_wp2;go_ret
  refine⟨L.zak ?_,qR _⟩;have:za≠zb:=by intro e;exact hl (by rw[e])
  simp[this]
end Go.Proofs.YtamfgmaipajodaaGreatDoor
namespace Go.Proofs.YtamfgmaipajodaaGreatDoor
open Go.RowKit Go.Shelf
namespace Al
theorem app {sl e:TypeId}{z:Value}{k y:Nat}(hs:Tryz.prog.underlying sl=some (.slice e))(hinfo:(Tryz.prog.info? e).map (fun i=>(i.zero,i.size,i.bytes))=some (some z,k,y))(hzk:z.cells.size=k)(hk:0<k)(hy:y<=100)
  {w:World} {B n:Nat} {vo:Value} {xs:List Value} (own:w.ownsRow B e k vo n xs) (hB:B<=w.heap.size) (hl:n<=1000000) (news:List Value) (hn:news.length=k) (h1:∀u∈news,u.oneCell'=true) :
  ∃ao' vc' w',(∀ty,(Builtin.append_ #[sl,sl] ty #[vo,.slice (some ⟨w.heap.size,0,none⟩) 1 1]).run Tryz.prog (w.alloc (.cells news.toArray e))= .ok (.slice ao' (n+1) vc') w')/\w'.ownsRow B e k (.slice ao' (n+1) vc') (n+1) (xs++news)/\(∀b,b<w.heap.size->vo.ownBlock≠some b->w'.heap[b]?=w.heap[b]?)/\w.heap.size<=w'.heap.size/\Below B w w':=by
 have hal:Below w.heap.size w (w.alloc (.cells news.toArray e)):=(qR w).alloc qN _;have hnew:=heap_alloc_new w (.cells news.toArray e);obtain⟨i0,hi,hz0,hz1,hz2⟩:=info_parts hinfo
 have hcells:∀j u,news[j]?=some u->(w.alloc (.cells news.toArray e)).cell? ((⟨w.heap.size,0,none⟩:Addr).add j)=some u:=fun j u hj=>by
  rw[L.addr_add,Nat.zero_add];exact K.zah hnew (by simpa using hj)
 have hyb:(n+1)*y<=140737488355328:=Nat.le_trans (Nat.mul_le_mul (Nat.succ_le_succ hl) hy) (by decide);obtain⟨v',w',run,own',gr,_⟩:=run_append_own (P:=Tryz.prog) (w.alloc (.cells news.toArray e)) B sl sl e i0 _ k y hs hi hz0 hz1 hz2 hzk hk vo n xs (own.alloc _) ⟨w.heap.size,0,none⟩ 1 1 news (by rw[hn];omega) hcells h1 (by unfold maxLen;omega) hyb (by simp;omega)
 obtain⟨ao',vc',rfl⟩:∃ao cap,v'= .slice ao (n+1) cap:=by
  rcases own'.2 with ⟨hv,h0⟩|⟨g,cap,cur,hv,_⟩
  ·omega
  ·exact⟨_,cap,hv⟩
 refine⟨ao',vc',w',fun ty=>run,own',fun b hb hne=> ?_,?_,(hal.mono hB).grown gr (by simp;omega) fun k hk=>(own.lt k hk).1⟩
 ·rw[gr.block b (by simp;omega) (fun e=>hne e.symm)];exact hal.block b hb
 ·have:=gr.size;simp at this;omega
theorem held {F:Nat}{e:TypeId}{k:Nat}{w w':World}{v:Value}{n:Nat}{xs:List Value}(h:w.ownsRow F e k v n xs)(hb:∀q,v.ownBlock=some q->q<w.heap.size->w'.heap[q]?=w.heap[q]?):w'.ownsRow F e k v n xs:=by
 obtain⟨h1,h2⟩:=h;refine⟨h1,?_⟩;rcases h2 with h2 | ⟨g,cap,cur,hv,hg,hx,r⟩
 ·exact .inl h2
 ·exact .inr ⟨g,cap,cur,hv,hg,by rw[hb g (by rw[hv];rfl) (lt_of_block hx)];exact hx,r⟩
theorem block {F:Nat}{e:TypeId}{k:Nat}{w:World}{v:Value}{n:Nat}{xs:List Value}(h:w.ownsRow F e k v n xs){q:Nat}(hq:v.ownBlock=some q):F<=q/\∃cs p,w.heap[q]?=some (.cells cs e p):=by
 obtain⟨h1,h2⟩:=h;rcases h2 with ⟨h2,_⟩|⟨g,cap,cur,hv,hg,hx,r⟩
 ·rw[h2] at hq;cases hq
 ·rw[hv] at hq;have hq':some g=some q:=hq;cases hq';exact⟨hg,_,_,hx⟩
theorem lies {F:Nat}{e:TypeId}{k:Nat}{w:World}{v:Value}{n:Nat}{xs:List Value}(h:w.ownsRow F e k v n xs):∃ao cap,v= .slice ao n cap/\(0<n->∃g,ao=some ⟨g,0,none⟩/\g<w.heap.size/\∀j u,xs[j]?=some u->w.cell? ⟨g,j,none⟩=some u):=by
 have h0:=h;obtain⟨h1,h2⟩:=h;rcases h2 with ⟨rfl,h2⟩|⟨g,cap,cur,rfl,hg,hx,r⟩
 ·exact⟨none,0,by rw[h2],fun h=>by omega⟩
 ·refine⟨_,cap,rfl,fun _=>⟨g,rfl,lt_of_block hx,fun j u hu=> ?_⟩⟩;have:=h0.cells (g:=g) rfl j u hu;rw[L.addr_add,Nat.zero_add] at this;exact this
end Al
end Go.Proofs.YtamfgmaipajodaaGreatDoor
