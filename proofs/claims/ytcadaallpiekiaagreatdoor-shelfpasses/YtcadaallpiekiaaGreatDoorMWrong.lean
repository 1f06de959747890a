import Derived.Test.YtcadaallpiekiaaGreatDoorCnUp
set_option maxHeartbeats 0
set_option maxRecDepth 20000
set_option linter.unusedSimpArgs false
set_option linter.unusedVariables false
namespace Go.Proofs.YtcadaallpiekiaaGreatDoor
open Go.Proofs.Tryz
namespace K
def firstR:Nat->List Rule->Int×Int
 | _,[]=>(0,0)
 | k,r::l=>if ruleE r=0 then firstR (k+1) l else (ruleE r,(k:Int))
def rulesF (l:List Rule):Int×Int:=if 200<l.length then (5,0) else firstR 0 l
def checkF (l:List Rule) (t:List Int):Int×Int:=if (rulesF l).1=0 then (textE t,0) else rulesF l
theorem zfx {l:List Rule}{k:Nat}{r:Rule}(h:l[k]?=some r):firstR k (l.drop k)=if ruleE r=0 then firstR (k+1) (l.drop (k+1)) else (ruleE r,(k:Int)):=by
 have hlt:=(qL.1 h).1;rw[List.drop_eq_getElem_cons hlt];have:l[k]=r:=by rw[List.getElem?_eq_getElem hlt] at h;exact Option.some.inj h
 rw[this];rfl
theorem zk3 {l:List Rule}:∀ {k:Nat},(firstR k l).1=0->∀r∈l,ruleE r=0:=by
 induction l with
 | nil=>intro k _ r hr;cases hr
 | cons x l ih =>
  intro k h r hr;rw[firstR] at h
  by_cases hx:ruleE x=0
  ·rw[if_pos hx] at h;rcases List.mem_cons.1 hr with rfl|hr
   ·exact hx
   ·exact ih h r hr
  ·rw[if_neg hx] at h;exact absurd h hx
theorem zqj {l:List Rule}:∀ {k:Nat},(firstR k l).1=0->firstR k l=(0,0):=by
 induction l with
 | nil=>intro k _;rfl
 | cons x l ih =>
  intro k h;rw[firstR] at h ⊢
  by_cases hx:ruleE x=0
  ·rw[if_pos hx] at h ⊢;exact ih h
  ·rw[if_neg hx] at h;exact absurd h hx
theorem zba {l:List Rule}(h:(rulesF l).1=0):l.length<=200/\(∀r∈l,ruleE r=0)/\rulesF l=(0,0):=by
 unfold rulesF at h ⊢
 by_cases h1:200<l.length
 ·rw[if_pos h1] at h;exact absurd h (by decide)
 ·rw[if_neg h1] at h ⊢;exact⟨by omega,zk3 h,zqj h⟩
theorem zld {l:List Rule}{t:List Int}(h:(checkF l t).1=0):(rulesF l).1=0/\textE t=0/\checkF l t=(0,0):=by
 unfold checkF at h ⊢
 by_cases h1:(rulesF l).1=0
 ·rw[if_pos h1] at h ⊢;exact⟨h1,h,by rw[show textE t=0 from h]⟩
 ·rw[if_neg h1] at h;exact absurd h h1
def whichN (t:List Int) (k:Int):Nat->List Rule->Int
 | _,[]=> -1
 | i,r::l=>if matchB r t k=true then (i:Int) else whichN t k (i+1) l
def which (l:List Rule) (t:List Int) (k:Int):Int:=whichN t k 0 l
theorem zjx {t:List Int}{k:Int}{l:List Rule}{i:Nat}{r:Rule}(h:l[i]?=some r):whichN t k i (l.drop i)=if matchB r t k=true then (i:Int) else whichN t k (i+1) (l.drop (i+1)):=by
 have hlt:=(qL.1 h).1;rw[List.drop_eq_getElem_cons hlt];have:l[i]=r:=by rw[List.getElem?_eq_getElem hlt] at h;exact Option.some.inj h
 rw[this];rfl
theorem zor {t:List Int}{k:Int}{l:List Rule}:∀ {i:Nat},whichN t k i l= -1∨∃(j:Nat) (r:Rule),l[j]?=some r/\matchB r t k=true/\whichN t k i l=((i+j:Nat):Int):=by
 induction l with
 | nil=>intro i;exact .inl rfl
 | cons x l ih =>
  intro i;rw[whichN]
  by_cases hx:matchB x t k=true
  ·rw[if_pos hx];exact .inr ⟨0,x,rfl,hx,by simp⟩
  ·rw[if_neg hx];rcases ih (i:=i+1) with h|⟨j,r,h1,h2,h3⟩
   ·exact .inl h
   ·exact .inr ⟨j+1,r,by simpa using h1,h2,by rw[h3];omega⟩
theorem ze1 {l:List Rule}{t:List Int}{k:Int}:which l t k= -1∨∃(j:Nat) (r:Rule),l[j]?=some r/\matchB r t k=true/\which l t k=(j:Int):=by
 rcases zor (t:=t) (k:=k) (l:=l) (i:=0) with h|⟨j,r,h1,h2,h3⟩
 ·exact .inl h
 ·exact .inr ⟨j,r,h1,h2,by unfold which;rw[h3];omega⟩
def noRule:Rule:=⟨false,false,[],[],[],[],0⟩
def restOf (r:Rule) (rest:List Int):List Int:=r.target++rest.drop r.source.length
def play (l:List Rule):Nat->List Int->List Int->Int->Int->Int×List Int×Int×Int
 | 0,done,rest,s,p=>if rest.length=0 then (0,done,s,p) else (9,[],0,0)
 | left+1,done,rest,s,p =>
  if rest.length=0 then (0,done,s,p)
  else if which l (done++rest) done.length<0 then play l left (done++rest.take 1) (rest.drop 1) (s+1) p
  else
   let r:=(l[(which l (done++rest) done.length).toNat]?).getD noRule
   if 4000<done.length+(restOf r rest).length then (4,[],0,0)
   else play l left (done++(restOf r rest).take r.cursor.toNat) ((restOf r rest).drop r.cursor.toNat) (s+1) (p+1)
theorem zdz {l:List Rule}{left:Nat}{done rest:List Int}{s p:Int}(h:rest.length=0):play l left done rest s p=(0,done,s,p):=by
 cases left <;> rw[play,if_pos h]
theorem zlv {l:List Rule}{done rest:List Int}{s p:Int}(h:¬rest.length=0):play l 0 done rest s p=(9,[],0,0):=by
 rw[play,if_neg h]
theorem zkn {l:List Rule}{left:Nat}{done rest:List Int}{s p:Int}(h:¬rest.length=0)(hk:which l (done++rest) done.length= -1):play l (left+1) done rest s p=play l left (done++rest.take 1) (rest.drop 1) (s+1) p:=by
 rw[play,if_neg h,if_pos (by rw[hk];decide)]
theorem zis {l:List Rule}{left:Nat}{done rest:List Int}{s p:Int}{j:Nat}{r:Rule}(h:¬rest.length=0)(hk:which l (done++rest) done.length=(j:Int))(hr:l[j]?=some r)(hm:4000<done.length+(restOf r rest).length):play l (left+1) done rest s p=(4,[],0,0):=by
 rw[play,if_neg h,if_neg (by rw[hk];omega),hk,Int.toNat_natCast,hr];simp only[Option.getD_some];rw[if_pos hm]
theorem zhr {l:List Rule}{left:Nat}{done rest:List Int}{s p:Int}{j:Nat}{r:Rule}(h:¬rest.length=0)(hk:which l (done++rest) done.length=(j:Int))(hr:l[j]?=some r)(hm:¬ 4000<done.length+(restOf r rest).length):play l (left+1) done rest s p=play l left (done++(restOf r rest).take r.cursor.toNat) ((restOf r rest).drop r.cursor.toNat) (s+1) (p+1):=by
 rw[play,if_neg h,if_neg (by rw[hk];omega),hk,Int.toNat_natCast,hr];simp only[Option.getD_some];rw[if_neg hm]
theorem fits {r:Rule}{done rest:List Int}(hE:ruleE r=0)(hm:matchB r (done++rest) done.length=true):r.source.length<=rest.length:=by
 have h:=zsi (zas hE).2.2.2.1 hm;rw[List.length_append] at h;omega
theorem zhq {r:Rule}{rest:List Int}:(restOf r rest).length=r.target.length+(rest.length-r.source.length):=by
 unfold restOf;simp
def runF (l:List Rule) (t:List Int):(List Int×Int×Int)×Int×Int :=
 if (checkF l t).1=0 then ((play l (8*t.length+40) [] t 0 0).2,(play l (8*t.length+40) [] t 0 0).1,0) else (([],0,0),checkF l t)
end K
namespace Cn
def passE (p:V.Pass):Int :=
 if p.name.toList= [] then (K.rulesF p.rules).1 else if R.passes p.name=true then (if 0<p.rules.length then 8 else 0) else 7
def firstP:Nat->List V.Pass->Int×Int
 | _,[]=>(0,0)
 | k,p::l=>if passE p=0 then firstP (k+1) l else (passE p,(k:Int))
def wrongF (s:V.Script):Int×Int :=
 if s.has=true/\¬S.wrongE s.only=0 then (S.wrongE s.only,0) else if 60<s.passes.length then (5,0) else firstP 0 s.passes
theorem zcs {l:List V.Pass}{k:Nat}{p:V.Pass}(h:l[k]?=some p):firstP k (l.drop k)=if passE p=0 then firstP (k+1) (l.drop (k+1)) else (passE p,(k:Int)):=by
 have hlt:=(qL.1 h).1;rw[List.drop_eq_getElem_cons hlt];have:l[k]=p:=by rw[List.getElem?_eq_getElem hlt] at h;exact Option.some.inj h
 rw[this];rfl
theorem zfy {l:List V.Pass}:∀ {k:Nat},(firstP k l).1=0->(∀p∈l,passE p=0)/\firstP k l=(0,0):=by
 induction l with
 | nil=>intro k _;exact⟨fun p hp=>by (cases hp),rfl⟩
 | cons x l ih =>
  intro k h;rw[firstP] at h ⊢
  by_cases hx:passE x=0
  ·rw[if_pos hx] at h ⊢;refine⟨fun p hp=> ?_,(ih h).2⟩;rcases List.mem_cons.1 hp with rfl|hp
   ·exact hx
   ·exact(ih h).1 p hp
  ·rw[if_neg hx] at h;exact absurd h hx
theorem ze3 {s:V.Script}(h:(wrongF s).1=0):(s.has=true->S.wrongE s.only=0)/\s.passes.length<=60/\(∀p∈s.passes,passE p=0)/\wrongF s=(0,0):=by
 unfold wrongF at h ⊢
 by_cases h1:s.has=true/\¬S.wrongE s.only=0
 ·rw[if_pos h1] at h;exact absurd h h1.2
 ·rw[if_neg h1] at h ⊢
  by_cases h2:60<s.passes.length
  ·rw[if_pos h2] at h;exact absurd h (by decide)
  ·rw[if_neg h2] at h ⊢;refine⟨fun hh=>Classical.byContradiction fun h3=>h1 ⟨hh,h3⟩,by omega,(zfy h).1,(zfy h).2⟩
abbrev Pl:=List K.Rule->List Int->List Int×Int
def passF (pl:Pl) (p:V.Pass) (x:List Int):List Int×Int :=
 if p.name.toList= [] then pl p.rules x
 else if p.name.toList= [117,112,112,101,114] then (x.map up,0)
 else if p.name.toList= [108,111,119,101,114] then (x.map low,0)
 else if p.name.toList= [110,117,108,108] then (x,0) else ([],0)
def thru (pl:Pl):Nat->List V.Pass->List Int->List Int×Int×Int
 | _,[],x=>(x,0,0)
 | k,p::l,x=>if (passF pl p x).2=0 then thru pl (k+1) l (passF pl p x).1 else ([],(passF pl p x).2,(k:Int))
theorem zh9 {pl:Pl}{l:List V.Pass}{k:Nat}{p:V.Pass}{x:List Int}(h:l[k]?=some p):thru pl k (l.drop k) x=if (passF pl p x).2=0 then thru pl (k+1) (l.drop (k+1)) (passF pl p x).1 else ([],(passF pl p x).2,(k:Int)):=by
 have hlt:=(qL.1 h).1;rw[List.drop_eq_getElem_cons hlt];have:l[k]=p:=by rw[List.getElem?_eq_getElem hlt] at h;exact Option.some.inj h
 rw[this];rfl
def Tx (x:List Int):Prop:=x.length<=4000/\K.allR x=true
theorem Tx.nil:Tx []:=⟨by simp,rfl⟩
theorem zeb {t:List Int}:K.textE t=0↔Tx t:=by
 unfold K.textE Tx
 by_cases h:4000<t.length
 ·rw[if_pos h];exact⟨fun h=>absurd h (by decide),fun h=>by omega⟩
 ·rw[if_neg h];cases K.allR t <;> simp <;> omega
theorem Tx.sub {x y:List Int}(h:Tx x)(hl:y.length<=x.length)(hs:∀r∈y,r∈x):Tx y :=
 ⟨Nat.le_trans hl h.1,List.all_eq_true.2 fun r hr=>List.all_eq_true.1 h.2 r (hs r hr)⟩
theorem Tx.range {x:List Int}(h:Tx x):∀r∈x,0<=r/\r<=1114111:=fun r hr=>by
 have:=List.all_eq_true.1 h.2 r hr;simp[M.right] at this;omega
theorem zrj {r:Int}(h:M.right r=true):M.right (up r)=true:=by
 simp[M.right] at h ⊢;unfold up;have:=zbz r;omega
theorem zi3 {r:Int}(h:M.right r=true):M.right (low r)=true:=by
 simp[M.right] at h ⊢;unfold low;have:=zbz (r+32);have:=zbz (r+80)
 repeat' split
 all_goals omega
theorem Tx.map {x:List Int}{f:Int->Int}(hf:∀r,M.right r=true->M.right (f r)=true)(h:Tx x):Tx (x.map f) :=
 ⟨by simpa using h.1,List.all_eq_true.2 fun r hr=>by
  obtain⟨q,hq,rfl⟩:=List.mem_map.1 hr
  exact hf q (List.all_eq_true.1 h.2 q hq)⟩
theorem zhs {pl:Pl}(hpl:∀l x,Tx (pl l x).1){p:V.Pass}{x:List Int}(hx:Tx x):Tx (passF pl p x).1:=by
 unfold passF
 repeat' split
 ·exact hpl _ _
 ·exact hx.map fun r=>zrj
 ·exact hx.map fun r=>zi3
 ·exact hx
 ·exact Tx.nil
theorem zj1 {pl:Pl}(hpl:∀l x,Tx (pl l x).1){l:List V.Pass}:∀ {k:Nat} {x:List Int},Tx x->Tx (thru pl k l x).1:=by
 induction l with
 | nil=>intro k x hx;exact hx
 | cons p l ih =>
  intro k x hx;rw[thru];split
  ·exact ih (zhs hpl hx)
  ·exact Tx.nil
def joinP (r:Int):List (List Int×Bool)->List (List Int×Bool)
 | (x,true)::q=>(r::x,true)::q
 | q=>([r],true)::q
def cut (P:Int->Bool):List Int->List (List Int×Bool)
 | []=> []
 | r::t=>if P r=true then joinP r (cut P t) else ([r],false)::cut P t
theorem zqs {P:Int->Bool}{r:Int}{t:List Int}(h:P r=false):cut P (r::t)=([r],false)::cut P t:=by
 rw[cut,if_neg (by simp[h])]
theorem zs4 {P:Int->Bool}{b:List Int}(hb:∀r,b.head?=some r->P r=false):∀(r:Int),joinP r (cut P b)=([r],true)::cut P b:=by
 intro r;cases b with
 | nil=>rfl
 | cons y t=>rw[zqs (hb y rfl)];rfl
theorem zqt {P:Int->Bool}{b:List Int}(hb:∀r,b.head?=some r->P r=false):∀ {a:List Int},a≠ []->(∀r∈a,P r=true)->cut P (a++b)=(a,true)::cut P b:=by
 intro a
 induction a with
 | nil=>intro h;exact absurd rfl h
 | cons r a ih =>
  intro _ h;rw[List.cons_append,cut,if_pos (h r List.mem_cons_self)]
  by_cases ha:a= []
  ·subst ha;exact zs4 hb r
  ·rw[ih ha fun x hx=>h x (List.mem_cons_of_mem _ hx)];rfl
def snocP (m:Bool) (r:Int):List (List Int×Bool)->List (List Int×Bool)
 | []=> [([r],m)]
 | [(x,true)]=>if m=true then [(x++ [r],true)] else [(x,true),([r],m)]
 | q::l=>q::snocP m r l
theorem zbv {m:Bool}{r:Int}{q:List Int×Bool}{l:List (List Int×Bool)}(hl:l≠ []):snocP m r (q::l)=q::snocP m r l:=by
 obtain⟨x,b⟩:=q;cases l with
 | nil=>exact absurd rfl hl
 | cons y l=>cases b <;> rfl
theorem zsn {y:Int}{l:List (List Int×Bool)}:joinP y l≠ []:=by
 unfold joinP;split <;> simp
theorem zoy {m:Bool}{r y:Int}{l:List (List Int×Bool)}(hl:l≠ []):snocP m r (joinP y l)=joinP y (snocP m r l):=by
 match l,hl with
 | (x,true)::q,_ =>
  cases q with
  | nil =>
   cases m <;> rfl
  | cons z q =>
   rw[zbv (by simp)];show snocP m r ((y::x,true)::z::q)=_;rw[zbv (by simp)];rfl
 | (x,false)::q,_ =>
  show snocP m r (([y],true)::(x,false)::q)=_;rw[zbv (by simp)];cases q with
  | nil=>rfl
  | cons z q=>rw[zbv (by simp)];rfl
theorem ztj {P:Int->Bool}{r:Int}{t:List Int}:cut P (r::t)≠ []:=by
 rw[cut];split
 ·exact zsn
 ·simp
theorem zh0 {P:Int->Bool}{r:Int}:∀ {t:List Int},cut P (t++ [r])=snocP (P r) r (cut P t):=by
 intro t
 induction t with
 | nil =>
  show cut P [r]= [([r],P r)];rw[cut];cases h:P r <;> rfl
 | cons y t ih =>
  rw[List.cons_append,cut,ih];cases t with
  | nil =>
   show (if P y=true then joinP y [([r],P r)] else ([y],false):: [([r],P r)])=snocP (P r) r (cut P [y]);rw[cut];cases h1:P y <;> cases h2:P r <;> rfl
  | cons z t =>
   conv=>rhs;rw[cut]
   split
   ·rw[zoy ztj]
   ·rw[zbv ztj]
theorem zic {m:Bool}{r:Int}{l:List (List Int×Bool)}{x:List Int}{b:Bool}:snocP m r (l++ [(x,b)])=if m=true/\b=true then l++ [(x++ [r],true)] else l++ [(x,b),([r],m)]:=by
 induction l with
 | nil=>cases b <;> cases m <;> rfl
 | cons q l ih =>
  rw[List.cons_append,zbv (by simp),ih];split <;> rfl
theorem zp7 {r:Int}{l:List (List Int×Bool)}:(joinP r l).length<=l.length+1:=by
 unfold joinP;split <;> simp
theorem zqu {P:Int->Bool}:∀ {t:List Int},(cut P t).length<=t.length:=by
 intro t
 induction t with
 | nil=>exact qN
 | cons r t ih =>
  rw[cut];split
  ·have:=zp7 (r:=r) (l:=cut P t);simp;omega
  ·simp;omega
theorem zp6 {r:Int}{l:List (List Int×Bool)}{N:Nat}(h:∀q∈l,q.1.length<=N):∀q∈joinP r l,q.1.length<=N+1:=by
 intro q hq;unfold joinP at hq;split at hq
 ·rcases List.mem_cons.1 hq with rfl|hq
  ·have:=h _ List.mem_cons_self;simp at this ⊢;omega
  ·have:=h q (List.mem_cons_of_mem _ hq);omega
 ·rcases List.mem_cons.1 hq with rfl|hq
  ·simp
  ·have:=h q hq;omega
theorem zjg {P:Int->Bool}:∀ {t:List Int},∀q∈cut P t,q.1.length<=t.length:=by
 intro t
 induction t with
 | nil=>intro q hq;cases hq
 | cons r t ih =>
  intro q hq;rw[cut] at hq;split at hq
  ·exact zp6 ih q hq
  ·rcases List.mem_cons.1 hq with rfl|hq
   ·simp
   ·have:=ih q hq;simp;omega
theorem zp5 {r:Int}{l:List (List Int×Bool)}{A:List Int}(h:∀q∈l,∀x∈q.1,x∈A):∀q∈joinP r l,∀x∈q.1,x∈r::A:=by
 intro q hq x hx;unfold joinP at hq;split at hq
 ·rcases List.mem_cons.1 hq with rfl|hq
  ·rcases List.mem_cons.1 hx with rfl|hx
   ·exact List.mem_cons_self
   ·exact List.mem_cons_of_mem _ (h _ List.mem_cons_self x hx)
  ·exact List.mem_cons_of_mem _ (h q (List.mem_cons_of_mem _ hq) x hx)
 ·rcases List.mem_cons.1 hq with rfl|hq
  ·simp at hx;subst hx;exact List.mem_cons_self
  ·exact List.mem_cons_of_mem _ (h q hq x hx)
theorem zuv {P:Int->Bool}:∀ {t:List Int},∀q∈cut P t,∀x∈q.1,x∈t:=by
 intro t
 induction t with
 | nil=>intro q hq;cases hq
 | cons r t ih =>
  intro q hq x hx;rw[cut] at hq;split at hq
  ·exact zp5 ih q hq x hx
  ·rcases List.mem_cons.1 hq with rfl|hq
   ·simp at hx;subst hx;exact List.mem_cons_self
   ·exact List.mem_cons_of_mem _ (ih q hq x hx)
theorem zvh {P:Int->Bool}{t:List Int}(h:Tx t):∀q∈cut P t,Tx q.1:=fun q hq=>h.sub (zjg q hq) (zuv q hq)
def runP (pl:Pl) (ps:List V.Pass):List (List Int×Bool)->List Int->List Int×Int×Int
 | [],out=>(out,0,0)
 | q::l,out=>if q.2=true then (if (thru pl 0 ps q.1).2.1=0 then runP pl ps l (out++(thru pl 0 ps q.1).1) else ([],(thru pl 0 ps q.1).2)) else runP pl ps l (out++q.1)
theorem zo5 {pl:Pl}{ps:List V.Pass}{l:List (List Int×Bool)}{k:Nat}{q:List Int×Bool}{out:List Int}(h:l[k]?=some q):runP pl ps (l.drop k) out=if q.2=true then (if (thru pl 0 ps q.1).2.1=0 then runP pl ps (l.drop (k+1)) (out++(thru pl 0 ps q.1).1) else ([],(thru pl 0 ps q.1).2)) else runP pl ps (l.drop (k+1)) (out++q.1):=by
 have hlt:=(qL.1 h).1;rw[List.drop_eq_getElem_cons hlt];have:l[k]=q:=by rw[List.getElem?_eq_getElem hlt] at h;exact Option.some.inj h
 rw[this];rfl
def inS (s:V.Script) (r:Int):Bool:= !s.has||S.memb s.only r
def goF (pl:Pl) (s:V.Script) (t:List Int):List Int×Int×Int :=
 if (wrongF s).1=0 then
  if K.textE t=0 then
   if (runP pl s.passes (cut (inS s) t) []).2.1=0 then
    if 4000<(runP pl s.passes (cut (inS s) t) []).1.length then ([],4,(s.passes.length:Int)) else ((runP pl s.passes (cut (inS s) t) []).1,0,0)
   else ([],(runP pl s.passes (cut (inS s) t) []).2)
  else ([],K.textE t,0)
 else ([],wrongF s)
end Cn
namespace K
open Go.Proofs.YtcadaallpiekiaaGreatDoor.S
def headS (r:Rule):List Sp:=r.source.headD []
def firstsL (l:List Rule):List Sp:=l.flatMap headS
end K
section
open Go.RowKit Go.Shelf
theorem znd (r:Int)(w:World) :
  Calls prog 49 #[.int .i32 r] w fun e w'=>e=.returned (.bool (M.right r))/\w'=w:=by
 go_enter func49,ntmps49
 go_wp2
 all_goals go_ret
 all_goals refine⟨L.zaj ?_,rfl⟩
 all_goals (unfold M.right;rw[Bool.eq_iff_iff];simp;try omega)
theorem zkq (r:Int)(w:World) :
  Calls prog 105 #[.int .i32 r] w fun e w'=>e=.returned (.bool (!M.right r))/\w'=w:=by
 go_enter func105,ntmps105
 go_wp2_with (go_at_call 49;refine(znd r _).mono ?_;rintro e w' ⟨rfl,rfl⟩)
 go_ret;exact⟨rfl,rfl⟩
theorem znf (w:World)(v:Value)(l:List Int)(R:L.Rd w v .i32 l)(hl:l.length<=4000) :
  Calls prog 76 #[v,.func (.func 105) #[] #[]] w fun e w'=>∃i:Int,e=.returned (.int .i64 i)/\decide (0<=i)= !K.allR l/\Bl w w':=by
 obtain⟨ao,cap,rfl,hn,hc⟩:=R;have eg:∀args w,(callFunc 105 args).run prog w=.ok (.enter 105 args) w:=enters_of func105 (by kernel_rfl) rfl
 go_enter func76,ntmps76
 go_wp2
 go_loopw [8] (fun i wr=>∃k:Nat,k<=l.length/\i=.int .i64 k/\Hid (K.allR (l.take k)=true)/\Hid (Bl w wr)) (fun i _=>l.length-(intOf i).toNat)
 case atStart=>exact⟨0,Nat.zero_le _,rfl,by show K.allR (l.take 0)=true;simp[K.allR],qR w⟩
 case round =>
  obtain⟨k,hk,rfl,HW,HB⟩:=hrel
  by_cases hlt:k<l.length
  ·obtain⟨b,off,rfl,hcell⟩:=hc (by intro h;subst h;simp at hlt);obtain⟨x,hx⟩:∃x,l[k]?=some x:=⟨l[k],by simp[hlt]⟩;have c1:=hcell k x hx;have hb:=L.block_lt c1;rw[<- HB.out.cell (p:=⟨b,_,none⟩) hb] at c1;have HX:=qH hx;have hsz:=HB.out.size;have hob:=zkq x wr;clear hx hcell hc;cases hbad:M.right x with
   | false =>
    rw[hbad] at hob;have HR:=qH hbad;clear hbad
    go_wp2_with fail
    refine hob.mono ?_;rintro e w1 ⟨rfl,rfl⟩;go_wp2;go_ret;refine⟨k,rfl,?_,HB.out⟩;have:K.allR l=false:=List.all_eq_false.2 ⟨_,List.mem_of_getElem? HX.out,by rw[HR.out];simp⟩;rw[this];simp
   | true =>
    rw[hbad] at hob;have HR:=qH hbad;clear hbad
    go_wp2_with fail
    refine hob.mono ?_;rintro e w1 ⟨rfl,rfl⟩;go_wp2
    go_roundw
    case rel =>
     refine⟨k+1,by omega,by go_num,?_,HB.out⟩;show K.allR (l.take (k+1))=true;have h:=HW.out;unfold K.allR at h ⊢;rw[List.take_add_one,HX.out,List.all_append,h];simp[HR.out]
    case measure=>simp[intOf];omega
  ·go_wp2;go_ret
   refine⟨-1,rfl,?_,HB.out⟩;have h:=HW.out;rw[List.take_of_length_le (by omega)] at h;rw[h];rfl
theorem zhv (w:World)(v:Value)(l:List Int)(R:L.Rd w v .i32 l)(hl:l.length<=4000) :
  Calls prog 104 #[v,.func (.func 105) #[] #[]] w fun e w'=>e=.returned (.bool (!K.allR l))/\Bl w w':=by
 have h:=znf w v l R hl;obtain⟨ao,cap,rfl,hn,hc⟩:=R;clear hc
 go_enter func104,ntmps104
 go_wp2_with fail
 refine h.mono ?_;rintro e w1 ⟨i,rfl,hi,hb⟩;have HI:Hid _:=hi;clear hi;go_wp2;go_ret;exact⟨L.zaj HI.out,hb⟩
theorem zd3 (w:World)(v:Value)(l:List Int)(R:L.Rd w v .i32 l)(hl:l.length<=4000) :
  Calls prog 75 #[v] w fun e w'=>e=.returned (.bool (K.allR l))/\Bl w w':=by
 have h:=zhv w v l R hl;obtain⟨ao,cap,rfl,hn,hc⟩:=R;clear hc
 go_enter func75,ntmps75
 go_wp2_with fail
 refine h.mono ?_;rintro e w1 ⟨rfl,hb⟩;go_wp2;go_ret;exact⟨by simp,hb⟩
theorem zi1 (w:World)(v:Value)(l:List Int)(R:L.Rd w v .i32 l)(hl:l.length<=140737488355328) :
  Calls prog 45 #[v] w fun e w'=>e=.returned (.int .i64 (K.textE l))/\Bl w w':=by
 have h:=zd3 w v l R;obtain⟨ao,cap,rfl,hn,hc⟩:=R;clear hc;unfold K.textE
 by_cases h4:4000<l.length
 ·rw[if_pos h4]
  go_enter func45,ntmps45
  go_wp2;go_ret
  exact⟨rfl,qR w⟩
 ·rw[if_neg h4];have h':=h (by omega);clear h;generalize K.allR l=bb at h' ⊢;cases bb with
  | true =>
   go_enter func45,ntmps45
   go_wp2_with fail
   refine h'.mono ?_;rintro e w1 ⟨rfl,hb⟩;go_wp2;go_ret;exact⟨rfl,hb⟩
  | false =>
   go_enter func45,ntmps45
   go_wp2_with fail
   refine h'.mono ?_;rintro e w1 ⟨rfl,hb⟩;go_wp2;go_ret;exact⟨rfl,hb⟩
theorem zb9 (w:World)(v:Value)(l:List (List S.Sp))(R:K.Ss w v l) :
  Calls prog 141 #[v] w fun e w'=>e=.returned (.int .i64 (K.setsE l))/\Bl w w':=by
 have HR0:=qH R;have hfew:=R.few;obtain⟨ao,cap,rfl⟩:=R.len;clear R;unfold K.setsE
 by_cases hbig:20<l.length
 ·rw[if_pos hbig]
  go_enter func141,ntmps141
  go_wp2;go_ret
  exact⟨rfl,qR w⟩
 ·rw[if_neg hbig]
  go_enter func141,ntmps141
  go_wp2
  go_loopw [11] (fun i wr=>∃k:Nat,k<=l.length/\i=.int .i64 k/\Hid (K.firstE l=K.firstE (l.drop k))/\Hid (Bl w wr)) (fun i _=>l.length-(intOf i).toNat)
  case atStart=>exact⟨0,Nat.zero_le _,rfl,rfl,qR w⟩
  case round =>
   obtain⟨k,hk,rfl,HW,HB⟩:=hrel
   by_cases hlt:k<l.length
   ·obtain⟨s,hs⟩:∃s,l[k]?=some s:=⟨l[k],by simp[hlt]⟩;obtain⟨b,off,so,sc,rfl,c1,R1,F1⟩:=(HR0.out.below HB.out).at hs;have HD:=K.zfz hs;rw[<- HW.out] at HD;have hsz:=HB.out.size;have hw:=zcc wr _ s R1 F1;clear R1 F1 hs;obtain⟨e0,he0⟩:=qE (S.wrongE s);rw[<- he0] at HD hw;have HD2:=qH HD;clear HD he0
    by_cases h0:e0=0
    ·subst h0
     go_wp2_with fail
     refine hw.mono ?_;rintro e w1 ⟨rfl,hb⟩;have HB1:=qH<|HB.out.trans (hb.mono hsz);go_wp2
     go_roundw
     case rel=>exact⟨k+1,by omega,by go_num,by show _=_;have:=HD2.out;simpa using this,HB1.out⟩
     case measure=>simp[intOf];omega
    ·go_wp2_with fail
     refine hw.mono ?_;rintro e w1 ⟨rfl,hb⟩;have HB1:=qH<|HB.out.trans (hb.mono hsz);go_wp2;go_ret;exact⟨by have h1:=HD2.out;rw[if_neg h0] at h1;rw[h1];rfl,HB1.out⟩
   ·go_wp2;go_ret
    refine⟨?_,HB.out⟩;rw[HW.out,List.drop_eq_nil_of_le (by omega)];rfl
theorem zni (w:World)(v:Value)(r:K.Rule)(R:K.RuIs w v r) :
  Calls prog 119 #[v] w fun e w'=>e=.returned (.int .i64 (K.ruleE r))/\Bl w w':=by
 obtain⟨bo,bc,so,sc,ao,ac,tgo,tc,rfl,R1,R2,R3,R4,hl4,hcur⟩:=R;have f2:=R2.few;have hI1:=hcur.1;have hI2:=hcur.2;have B2:=qH<|fun o1 o2=>((qR w).alloc qN o1).alloc (by simp) o2
 have C1:=qH<|fun X hX=>zb9 X _ _ (R1.below hX)
 have C2:=qH<|fun X hX=>zb9 X _ _ (R2.below hX)
 have C3:=qH<|fun X hX=>zb9 X _ _ (R3.below hX)
 have C4:Hid (r.target.length<=20->∀X,Bl w X->Calls prog 75 #[.slice tgo r.target.length tc] X fun e w'=>e=.returned (.bool (K.allR r.target))/\Bl X w'):=fun h X hX=>zd3 X _ _ (R4.below hX qN) (by omega)
 obtain⟨o,HO⟩:∃o,Hid (K.ruleE r=o):=⟨_,rfl⟩;rw[HO.out];unfold K.ruleE K.tailE at HO;obtain⟨e1,he1⟩:=qE (K.setsE r.before);obtain⟨e2,he2⟩:=qE (K.setsE r.source);obtain⟨e3,he3⟩:=qE (K.setsE r.after);obtain⟨e4,he4⟩:=qE (K.allR r.target);rw[<- he1,<- he2,<- he3,<- he4] at HO;rw[<- he1] at C1;rw[<- he2] at C2;rw[<- he3] at C3;rw[<- he4] at C4;clear he1 he2 he3 he4 R1 R2 R3 R4 hcur;obtain⟨st,fi,be,sou,af,ta,cu⟩:=r;simp only at *
 go_enter func119,ntmps119
 go_wp2;refine wp_loop_rounds 4 ?_
 rw[rounds_succ]
 go_wp2_with fail
 refine(C1.out _ (B2.out _ _)).mono ?_;rintro e w1 ⟨rfl,hb⟩;obtain⟨h1,h2,HB1,hs1⟩:=K.za3 hb;have HB1':=qH HB1;have HH1:Hid (w1.heap[w.heap.size]?=some (.cells #[.bool st,.bool fi,.slice bo be.length bc,.slice so sou.length sc,.slice ao af.length ac,.slice tgo ta.length tc,.int .i64 cu] 79)/\w1.heap[w.heap.size+1]?=some (.cells #[.slice bo be.length bc,.slice so sou.length sc,.slice ao af.length ac] 77)):=⟨h1,h2⟩;clear hb HB1 h1 h2
 by_cases q1:e1=0
 ·subst q1;have d2:=K.zad (i:=1) HH1.out.2 rfl;go_wp2;rw[rounds_succ]
  go_wp2_with fail
  refine(C2.out _ HB1'.out).mono ?_;rintro e w2 ⟨rfl,hb⟩;have HB2:=qH<|HB1'.out.trans (hb.mono (by omega));have HH2:Hid (w2.heap[w.heap.size]?=some (.cells #[.bool st,.bool fi,.slice bo be.length bc,.slice so sou.length sc,.slice ao af.length ac,.slice tgo ta.length tc,.int .i64 cu] 79)/\w2.heap[w.heap.size+1]?=some (.cells #[.slice bo be.length bc,.slice so sou.length sc,.slice ao af.length ac] 77)):=⟨K.zae HH1.out.1 hb,K.zae HH1.out.2 hb⟩;have hs2:=hb.size;clear hb d2
  by_cases q2:e2=0
  ·subst q2;have d3:=K.zad (i:=2) HH2.out.2 rfl;go_wp2;rw[rounds_succ]
   go_wp2_with fail
   refine(C3.out _ HB2.out).mono ?_;rintro e w3 ⟨rfl,hb⟩;have HB3:=qH<|HB2.out.trans (hb.mono (by omega));have HH3:=qH<|K.zae HH2.out.1 hb;have hs3:=hb.size;clear hb d3
   by_cases q3:e3=0
   ·subst q3;have d3:=K.zad (i:=3) HH3.out rfl;have d5:=K.zad (i:=5) HH3.out rfl;have d6:=K.zad (i:=6) HH3.out rfl
    have HO2:Hid ((if sou.length=0 then (6:Int) else if 20<ta.length then 5 else if e4=false then 3 else if cu<0 then 3 else if (ta.length:Int)<cu then 3 else 0)=o):=by
     have h:=HO.out;rw[if_neg (by simp),if_neg (by simp),if_neg (by simp)] at h;exact h
    go_wp2;rw[rounds_succ]
    by_cases q4:sou.length=0
    ·go_wp2;go_ret
     exact⟨by rw[<- HO2.out,if_pos q4];rfl,HB3.out⟩
    ·by_cases q5:20<ta.length
     ·go_wp2;go_ret
      exact⟨by rw[<- HO2.out,if_neg q4,if_pos q5];rfl,HB3.out⟩
     ·have hC4:=C4.out (by omega) w3 HB3.out
      go_wp2_with fail
      refine hC4.mono ?_;rintro e w4 ⟨rfl,hb⟩;have HB4:=qH<|HB3.out.trans (hb.mono (by omega));have HH4:=K.zae HH3.out hb;have g5:=K.zad (i:=5) HH4 rfl;have g6:=K.zad (i:=6) HH4 rfl;clear hb HH4 d3 d5 d6
      have HO3:Hid ((if e4=false then (3:Int) else if cu<0 then 3 else if (ta.length:Int)<cu then 3 else 0)=o):=by
       have h:=HO2.out;rw[if_neg q4,if_neg q5] at h;exact h
      cases e4 with
      | false =>
       go_wp2;go_ret
       exact⟨by rw[<- HO3.out];rfl,HB4.out⟩
      | true =>
       by_cases q6:cu<0
       ·go_wp2;go_ret
        exact⟨by rw[<- HO3.out,if_neg (by simp),if_pos q6];rfl,HB4.out⟩
       ·by_cases q7:(ta.length:Int)<cu
        ·go_wp2;go_ret
         exact⟨by rw[<- HO3.out,if_neg (by simp),if_neg (by omega),if_pos (by omega)];rfl,HB4.out⟩
        ·go_wp2;go_ret
         exact⟨by rw[<- HO3.out,if_neg (by simp),if_neg (by omega),if_neg (by omega)];rfl,HB4.out⟩
   ·go_wp2;go_ret
    exact⟨by rw[<- HO.out,if_neg (by simp),if_neg (by simp),if_pos q3];rfl,HB3.out⟩
  ·go_wp2;go_ret
   exact⟨by rw[<- HO.out,if_neg (by simp),if_pos q2];rfl,HB2.out⟩
 ·go_wp2;go_ret
  exact⟨by rw[<- HO.out,if_pos q1];rfl,HB1'.out⟩
