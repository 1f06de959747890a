import Derived.Test.YthnmmmkeamcfkaaGreatDoorKRight
set_option maxHeartbeats 0
namespace Go.Proofs.YthnmmmkeamcfkaaGreatDoor
open Go.Proofs.Tryz
namespace K
open S (Sp)
structure Rule where
 start:Bool
 fin:Bool
 before:List (List Sp)
 source:List (List Sp)
 after:List (List Sp)
 target:List Int
 cursor:Int
def firstE:List (List Sp)->Int
 | []=>0
 | s::l=>if S.wrongE s=0 then firstE l else S.wrongE s
def setsE (l:List (List Sp)):Int:=if 20<l.length then 5 else firstE l
def tailE (r:Rule):Int :=
 if r.source.length=0 then 6 else if 20<r.target.length then 5
 else if allR r.target=false then 3 else if r.cursor<0 then 3 else if (r.target.length:Int)<r.cursor then 3 else 0
def ruleE (r:Rule):Int :=
 if setsE r.before≠0 then setsE r.before else if setsE r.source≠0 then setsE r.source else if setsE r.after≠0 then setsE r.after else tailE r
theorem zk2 {l:List (List Sp)}{k:Nat}{s:List Sp}(h:l[k]?=some s):firstE (l.drop k)=if S.wrongE s=0 then firstE (l.drop (k+1)) else S.wrongE s:=by
 have hlt:=(qL.1 h).1;rw[List.drop_eq_getElem_cons hlt];have:l[k]=s:=by rw[List.getElem?_eq_getElem hlt] at h;exact Option.some.inj h
 rw[this];rfl
theorem zdf {l:List (List Sp)}:firstE l=0↔∀s∈l,S.wrongE s=0:=by
 induction l with
 | nil=>simp[firstE]
 | cons s l ih =>
  rw[firstE]
  by_cases h:S.wrongE s=0
  ·simp[h,ih]
  ·simp[h]
def Good (l:List (List Sp)):Prop:=l.length<=20/\∀s∈l,S.Nf 0 s/\s.length<=200
theorem zed {l:List (List Sp)}:setsE l=0↔Good l:=by
 unfold setsE Good
 by_cases h:20<l.length
 ·rw[if_pos h];exact⟨fun h=>absurd h (by decide),fun h=>by omega⟩
 ·rw[if_neg h,zdf];exact⟨fun h'=>⟨by omega,fun s hs=>⟨(S.zat.1 (h' s hs)).2,(S.zat.1 (h' s hs)).1⟩⟩,fun h' s hs=>S.zat.2 ⟨(h'.2 s hs).2,(h'.2 s hs).1⟩⟩
theorem zal {r:Rule}(h:ruleE r=0):Good r.before/\Good r.source/\Good r.after/\0<r.source.length/\r.target.length<=20/\allR r.target=true/\0<=r.cursor/\r.cursor<=r.target.length:=by
 unfold ruleE at h
 by_cases h1:setsE r.before=0
 ·rw[if_neg (by simp[h1])] at h
  by_cases h2:setsE r.source=0
  ·rw[if_neg (by simp[h2])] at h
   by_cases h3:setsE r.after=0
   ·rw[if_neg (by simp[h3])] at h;refine⟨zed.1 h1,zed.1 h2,zed.1 h3,?_⟩;unfold tailE at h
    by_cases h4:r.source.length=0
    ·rw[if_pos h4] at h;exact absurd h (by decide)
    ·rw[if_neg h4] at h
     by_cases h5:20<r.target.length
     ·rw[if_pos h5] at h;exact absurd h (by decide)
     ·rw[if_neg h5] at h
      by_cases h6:allR r.target=false
      ·rw[if_pos h6] at h;exact absurd h (by decide)
      ·rw[if_neg h6] at h
       by_cases h7:r.cursor<0
       ·rw[if_pos h7] at h;exact absurd h (by decide)
       ·rw[if_neg h7] at h
        by_cases h8:(r.target.length:Int)<r.cursor
        ·rw[if_pos h8] at h;exact absurd h (by decide)
        ·exact⟨by omega,by omega,by simpa using h6,by omega,by omega⟩
   ·rw[if_pos h3] at h;exact absurd h h3
  ·rw[if_pos h2] at h;exact absurd h h2
 ·rw[if_pos h1] at h;exact absurd h h1
theorem zd9 {l:List Int}(h:textE l=0):l.length<=4000:=by
 unfold textE at h
 by_cases h1:4000<l.length
 ·rw[if_pos h1] at h;exact absurd h (by decide)
 ·omega
def runAt (t:List Int):Int->List (List Sp)->Bool
 | _,[]=>true
 | k,s::l=>(decide (0<=k)&&decide (k<t.length)&&S.memb s (t.getD k.toNat 0))&&runAt t (k+1) l
def matchB (r:Rule) (t:List Int) (at_:Int):Bool :=
 runAt t (at_ - r.before.length) (r.before++r.source++r.after)&& !(r.start&&decide (0<at_ - r.before.length))&& !(r.fin&&decide (at_+r.source.length+r.after.length<t.length))
def putL (r:Rule) (t:List Int) (at_:Int):List Int:=t.take at_.toNat++r.target++t.drop (at_.toNat+r.source.length)
theorem zbn (t:List Int)(a b:List (List Sp)):∀k,runAt t k (a++b)=(runAt t k a&&runAt t (k+a.length) b):=by
 induction a with
 | nil=>intro k;simp[runAt]
 | cons s a ih =>
  intro k;rw[List.cons_append,runAt,runAt,ih,List.length_cons];rw[show k+1+(a.length:Int)=k+((a.length+1:Nat):Int) by omega];simp only[Bool.and_assoc]
theorem zgp {t:List Int}{l:List (List Sp)}:∀ {k},runAt t k l=true->l≠ []->0<=k/\k+l.length<=t.length:=by
 induction l with
 | nil=>intro k _ h;exact absurd rfl h
 | cons s l ih =>
  intro k h _;rw[runAt] at h;simp only[Bool.and_eq_true,decide_eq_true_eq] at h
  by_cases hl:l= []
  ·subst hl;simp only[List.length_cons,List.length_nil];omega
  ·have:=ih h.2 hl;simp only[List.length_cons];omega
theorem zgq {t:List Int}{l:List (List Sp)}{i:Nat}{s:List Sp}{k:Int}(h:l[i]?=some s):runAt t (k+i) (l.drop i)=((decide (0<=k+i)&&decide (k+i<t.length)&&S.memb s (t.getD (k+i).toNat 0))&&runAt t (k+(i+1:Nat)) (l.drop (i+1))):=by
 have hlt:=(qL.1 h).1;rw[List.drop_eq_getElem_cons hlt];have:l[i]=s:=by rw[List.getElem?_eq_getElem hlt] at h;exact Option.some.inj h
 rw[this,runAt];rw[show k+(i:Int)+1=k+((i+1:Nat):Int) by omega]
theorem zhy {r:Rule}{t:List Int}{at_:Int}(hs:0<r.source.length)
  (h:at_ - r.before.length<0∨(t.length:Int) - at_ - r.source.length - r.after.length<0∨(r.start=true/\0<at_ - r.before.length)∨(r.fin=true/\0<(t.length:Int) - at_ - r.source.length - r.after.length)):matchB r t at_=false:=by
 unfold matchB;cases hr:runAt t (at_ - r.before.length) (r.before++r.source++r.after) with
 | false=>simp
 | true =>
  have hne:r.before++r.source++r.after≠ []:=by
   intro he;have:=congrArg List.length he;simp only[List.length_append,List.length_nil] at this;omega
  have hm:=zgp hr hne;simp only[List.length_append] at hm;rcases h with h | h | ⟨h1,h2⟩|⟨h1,h2⟩
  ·omega
  ·omega
  ·simp[h1];omega
  ·simp[h1];intro _;omega
theorem zg3 {r:Rule}{t:List Int}{at_:Int}
  (h3:¬(r.start=true/\0<at_ - r.before.length)) (h4:¬(r.fin=true/\0<(t.length:Int) - at_ - r.source.length - r.after.length)) :
  matchB r t at_=(runAt t (at_ - r.before.length) r.before&&runAt t at_ r.source&&runAt t (at_+r.source.length) r.after):=by
 unfold matchB;rw[zbn,zbn];have e1:at_ - (r.before.length:Int)+r.before.length=at_:=by omega
 have e2:at_ - (r.before.length:Int)+((r.before++r.source).length:Nat)=at_+r.source.length:=by rw[List.length_append];omega
 rw[e1,e2]
 have e3:(!(r.start&&decide (0<at_ - (r.before.length:Int))))=true:=by
  cases hs:r.start with
  | false=>rfl
  | true=>have:¬(0<at_ - (r.before.length:Int)):=fun h=>h3 ⟨hs,h⟩;simp;omega
 have e4:(!(r.fin&&decide (at_+r.source.length+r.after.length<(t.length:Int))))=true:=by
  cases hs:r.fin with
  | false=>rfl
  | true=>have:¬(0<(t.length:Int) - at_ - r.source.length - r.after.length):=fun h=>h4 ⟨hs,h⟩;simp;omega
 rw[e3,e4];simp
theorem zhz {r:Rule}{t:List Int}{at_:Int}(hs:0<r.source.length)(h:matchB r t at_=true):0<=at_ - r.before.length/\at_+r.source.length+r.after.length<=t.length:=by
 unfold matchB at h;simp only[Bool.and_eq_true] at h
 have hne:r.before++r.source++r.after≠ []:=by
  intro he;have:=congrArg List.length he;simp only[List.length_append,List.length_nil] at this;omega
 have hm:=zgp h.1.1 hne;simp only[List.length_append] at hm;omega
end K
namespace K
open Go.RowKit
def I64 (n:Int):Prop:= -9223372036854775808<=n/\n<=9223372036854775807
def SetIs (w:World) (u:Value) (s:List S.Sp):Prop:=(∃so sc,u= .slice so s.length sc)/\S.Rd w u s/\S.Fit s
def Sets (w:World) (vs:List Value) (l:List (List S.Sp)):Prop:=vs.length=l.length/\∀(j:Nat) u s,vs[j]?=some u->l[j]?=some s->SetIs w u s
def Ss (w:World) (v:Value) (l:List (List S.Sp)):Prop :=
 ∃ao cap vs,v= .slice ao l.length cap/\(ao=none->cap=0)/\l.length<=140737488355328/\Sets w vs l/\(l≠ []->∃b off,ao=some ⟨b,off,none⟩/\∀(j:Nat) u,vs[j]?=some u->w.cell? ⟨b,off+j,none⟩=some u)
theorem SetIs.below {w w':World}{u:Value}{s:List S.Sp}(h:SetIs w u s)(hb:Below w.heap.size w w'):SetIs w' u s:=⟨h.1,h.2.1.below hb qN,h.2.2⟩
theorem Sets.below {w w':World}{vs:List Value}{l:List (List S.Sp)}(h:Sets w vs l)(hb:Below w.heap.size w w'):Sets w' vs l:=⟨h.1,fun j u s hu hs=>(h.2 j u s hu hs).below hb⟩
theorem Ss.below {w w':World}{v:Value}{l:List (List S.Sp)}(h:Ss w v l)(hb:Below w.heap.size w w'):Ss w' v l:=by
 obtain⟨ao,cap,vs,rfl,hn,hl,hs,hc⟩:=h;refine⟨ao,cap,vs,rfl,hn,hl,hs.below hb,fun hz=> ?_⟩;obtain⟨b,off,rfl,hc2⟩:=hc hz;refine⟨b,off,rfl,fun j u hj=> ?_⟩;have h1:=hc2 j u hj;have:=L.block_lt h1;rw[hb.cell (p:=⟨b,off+j,none⟩) this];exact h1
theorem Ss.len {w:World}{v:Value}{l:List (List S.Sp)}(h:Ss w v l):∃ao cap,v= .slice ao l.length cap:=by
 obtain⟨ao,cap,vs,rfl,_⟩:=h;exact⟨ao,cap,rfl⟩
theorem Ss.few {w:World}{v:Value}{l:List (List S.Sp)}(h:Ss w v l):l.length<=140737488355328:=by
 obtain⟨ao,cap,vs,rfl,_,h,_⟩:=h;exact h
theorem Ss.at {w:World}{ao:Option Addr}{n cap:Nat}{l:List (List S.Sp)}(h:Ss w (.slice ao n cap) l){j:Nat}{s:List S.Sp}(hj:l[j]?=some s) :
  ∃b off so sc,ao=some ⟨b,off,none⟩/\w.cell? ⟨b,off+j,none⟩=some (.slice so s.length sc)/\S.Rd w (.slice so s.length sc) s/\S.Fit s:=by
 obtain⟨ao',cap',vs,he,hn,hl,hs,hc⟩:=h;cases he;obtain⟨b,off,rfl,hc2⟩:=hc (by intro h;subst h;simp at hj);have hlt:j<vs.length:=by rw[hs.1];exact(qL.1 hj).1
 obtain⟨u,hu⟩:∃u,vs[j]?=some u:=⟨vs[j],by simp⟩;obtain⟨⟨so,sc,rfl⟩,h2,h3⟩:=hs.2 j u s hu hj;exact⟨b,off,so,sc,rfl,hc2 j _ hu,h2,h3⟩
theorem Sets.one {w:World}{vs:List Value}{l:List (List S.Sp)}(h:Sets w vs l){u:Value}(hu:u∈vs):u.oneCell'=true:=by
 obtain⟨j,hj⟩:=List.getElem?_of_mem hu;have hlt:j<l.length:=by rw[<- h.1];exact(qL.1 hj).1
 obtain⟨s,hs⟩:∃s,l[j]?=some s:=⟨l[j],by simp⟩;obtain⟨⟨so,sc,rfl⟩,_⟩:=h.2 j u s hj hs;rfl
/-! boxes -/
def RuIs (w:World) (v:Value) (r:Rule):Prop :=
 ∃bo bc so sc ao ac tgo tc,v= .agg #[.bool r.start,.bool r.fin,.slice bo r.before.length bc,.slice so r.source.length sc,.slice ao r.after.length ac,.slice tgo r.target.length tc,.int .i64 r.cursor] /\
  Ss w (.slice bo r.before.length bc) r.before/\Ss w (.slice so r.source.length sc) r.source/\Ss w (.slice ao r.after.length ac) r.after/\L.Rd w (.slice tgo r.target.length tc) .i32 r.target/\r.target.length<=140737488355328/\I64 r.cursor
theorem RuIs.below {w w':World}{v:Value}{r:Rule}(h:RuIs w v r)(hb:Below w.heap.size w w'):RuIs w' v r:=by
 obtain⟨bo,bc,so,sc,ao,ac,tgo,tc,rfl,h1,h2,h3,h4,h5⟩:=h;exact⟨bo,bc,so,sc,ao,ac,tgo,tc,rfl,h1.below hb,h2.below hb,h3.below hb,h4.below hb qN,h5⟩
end K
namespace V
open Go.RowKit
structure Pass where
 name:ByteArray
 rules:List K.Rule
structure Script where
 has:Bool
 only:List S.Sp
 passes:List Pass
theorem zec {w w':World}{v:Value}{l:List (List S.Sp)}(h:K.Ss w v l)(k:R.Keeps w w'):K.Ss w' v l:=by
 obtain⟨ao,cap,vs,rfl,hn,hl,hs,hc⟩:=h;refine⟨ao,cap,vs,rfl,hn,hl,⟨hs.1,fun j u s hu hj=> ?_⟩,fun hz=> ?_⟩
 ·obtain⟨h1,h2,h3⟩:=hs.2 j u s hu hj;exact⟨h1,R.zcx h2 k,h3⟩
 ·obtain⟨b,off,rfl,hc2⟩:=hc hz;exact⟨b,off,rfl,fun j u hj=>k _ _ _ (hc2 j u hj)⟩
theorem zj4 {w w':World}{v:Value}{l:List Int}(h:L.Rd w v .i32 l)(k:R.Keeps w w'):L.Rd w' v .i32 l:=by
 obtain⟨ao,cap,rfl,hn,h⟩:=h;refine⟨ao,cap,rfl,hn,fun hz=> ?_⟩;obtain⟨b,off,rfl,hc⟩:=h hz;exact⟨b,off,rfl,fun j z hj=>k _ _ _ (hc j z hj)⟩
theorem zef {w w':World}{v:Value}{r:K.Rule}(h:K.RuIs w v r)(k:R.Keeps w w'):K.RuIs w' v r:=by
 obtain⟨bo,bc,so,sc,ao,ac,tgo,tc,rfl,h1,h2,h3,h4,h5⟩:=h;exact⟨bo,bc,so,sc,ao,ac,tgo,tc,rfl,zec h1 k,zec h2 k,zec h3 k,zj4 h4 k,h5⟩
def Rus (w:World) (v:Value) (l:List K.Rule):Prop :=
 ∃ao cap,v= .slice ao l.length cap/\l.length<=140737488355328/\(l≠ []->∃b off,ao=some ⟨b,off,none⟩/\∀(j:Nat) r,l[j]?=some r ->
  ∃bo bc so sc ao ac tgo tc,
   w.cell? ⟨b,off+j*7,none⟩=some (.bool r.start) /\
   w.cell? ⟨b,off+j*7+1,none⟩=some (.bool r.fin) /\
   w.cell? ⟨b,off+j*7+2,none⟩=some (.slice bo r.before.length bc) /\
   w.cell? ⟨b,off+j*7+3,none⟩=some (.slice so r.source.length sc) /\
   w.cell? ⟨b,off+j*7+4,none⟩=some (.slice ao r.after.length ac) /\
   w.cell? ⟨b,off+j*7+5,none⟩=some (.slice tgo r.target.length tc) /\
   w.cell? ⟨b,off+j*7+6,none⟩=some (.int .i64 r.cursor) /\
   K.RuIs w (.agg #[.bool r.start,.bool r.fin,.slice bo r.before.length bc,.slice so r.source.length sc,.slice ao r.after.length ac,.slice tgo r.target.length tc,.int .i64 r.cursor]) r)
theorem Rus.nil (w:World):Rus w (.slice none 0 0) []:=⟨none,0,rfl,by simp,fun h=>absurd rfl h⟩
theorem Rus.len {w:World}{v:Value}{l:List K.Rule}(h:Rus w v l):∃ao cap,v= .slice ao l.length cap:=by
 obtain⟨ao,cap,rfl,_⟩:=h;exact⟨ao,cap,rfl⟩
theorem Rus.few {w:World}{v:Value}{l:List K.Rule}(h:Rus w v l):l.length<=140737488355328:=by
 obtain⟨ao,cap,rfl,h,_⟩:=h;exact h
theorem Rus.keeps {w w':World}{v:Value}{l:List K.Rule}(h:Rus w v l)(k:R.Keeps w w'):Rus w' v l:=by
 obtain⟨ao,cap,rfl,hl,h⟩:=h;refine⟨ao,cap,rfl,hl,fun hz=> ?_⟩;obtain⟨b,off,rfl,hc⟩:=h hz;refine⟨b,off,rfl,fun j r hj=> ?_⟩;obtain⟨bo,bc,so,sc,ao,ac,tgo,tc,c0,c1,c2,c3,c4,c5,c6,hr⟩:=hc j r hj;exact⟨bo,bc,so,sc,ao,ac,tgo,tc,k _ _ _ c0,k _ _ _ c1,k _ _ _ c2,k _ _ _ c3,k _ _ _ c4,k _ _ _ c5,k _ _ _ c6,zef hr k⟩
theorem Rus.below {w w':World}{v:Value}{l:List K.Rule}(h:Rus w v l)(hb:Below w.heap.size w w'):Rus w' v l:=h.keeps (R.Keeps.of_below hb qN)
def Pas (w:World) (v:Value) (l:List Pass):Prop :=
 ∃ao cap,v= .slice ao l.length cap/\l.length<=140737488355328/\(l≠ []->∃b off,ao=some ⟨b,off,none⟩/\∀(j:Nat) p,l[j]?=some p ->
  w.cell? ⟨b,off+j*2,none⟩=some (.string p.name)/\p.name.size<=140737488355328 /\
  ∃ro rc,w.cell? ⟨b,off+j*2+1,none⟩=some (.slice ro p.rules.length rc)/\Rus w (.slice ro p.rules.length rc) p.rules)
theorem Pas.nil (w:World):Pas w (.slice none 0 0) []:=⟨none,0,rfl,by simp,fun h=>absurd rfl h⟩
theorem Pas.len {w:World}{v:Value}{l:List Pass}(h:Pas w v l):∃ao cap,v= .slice ao l.length cap:=by
 obtain⟨ao,cap,rfl,_⟩:=h;exact⟨ao,cap,rfl⟩
theorem Pas.few {w:World}{v:Value}{l:List Pass}(h:Pas w v l):l.length<=140737488355328:=by
 obtain⟨ao,cap,rfl,h,_⟩:=h;exact h
theorem Pas.keeps {w w':World}{v:Value}{l:List Pass}(h:Pas w v l)(k:R.Keeps w w'):Pas w' v l:=by
 obtain⟨ao,cap,rfl,hl,h⟩:=h;refine⟨ao,cap,rfl,hl,fun hz=> ?_⟩;obtain⟨b,off,rfl,hc⟩:=h hz;refine⟨b,off,rfl,fun j p hj=> ?_⟩;obtain⟨c0,hn,ro,rc,c1,hr⟩:=hc j p hj;exact⟨k _ _ _ c0,hn,ro,rc,k _ _ _ c1,hr.keeps k⟩
theorem Pas.below {w w':World}{v:Value}{l:List Pass}(h:Pas w v l)(hb:Below w.heap.size w w'):Pas w' v l:=h.keeps (R.Keeps.of_below hb qN)
def ScIs (w:World) (v:Value) (s:Script):Prop :=
 ∃oo oc po pc,v= .agg #[.bool s.has,.slice oo s.only.length oc,.slice po s.passes.length pc]/\S.Rd w (.slice oo s.only.length oc) s.only/\s.only.length<=140737488355328/\Pas w (.slice po s.passes.length pc) s.passes
theorem ScIs.keeps {w w':World}{v:Value}{s:Script}(h:ScIs w v s)(k:R.Keeps w w'):ScIs w' v s:=by
 obtain⟨oo,oc,po,pc,rfl,h1,h2,h3⟩:=h;exact⟨oo,oc,po,pc,rfl,R.zcx h1 k,h2,h3.keeps k⟩
theorem ScIs.below {w w':World}{v:Value}{s:Script}(h:ScIs w v s)(hb:Below w.heap.size w w'):ScIs w' v s:=h.keeps (R.Keeps.of_below hb qN)
/-! What a meaning hangs on: the blocks that there are, two of them aside (the row of the passes, the row of the last pass's rules). -/
def Out (X Y:Nat) (w w':World):Prop:=∀b,b<w.heap.size->b≠X->b≠Y->w'.heap[b]?=w.heap[b]?
def Off (X Y:Nat) (w:World) (Q:World->Prop):Prop:=∀w',w.heap.size<=w'.heap.size->Out X Y w w'->Q w'
theorem Off.here {X Y:Nat}{w:World}{Q:World->Prop}(h:Off X Y w Q):Q w:=h w qN fun _ _ _ _=>rfl
theorem Off.cell {X Y:Nat}{w:World}{b o:Nat}{u:Value}(h:w.cell? ⟨b,o,none⟩=some u)(hX:b≠X)(hY:b≠Y):Off X Y w fun w'=>w'.cell? ⟨b,o,none⟩=some u :=
 fun w' _ ho=>by
  have e:=ho b (L.block_lt h) hX hY;show w'.cell? ⟨b,o,none⟩=some u;rw[World.cell?_of_block (a:=⟨b,o,none⟩) e];exact h
end V
section
open Go.RowKit Go.Lib
set_option maxRecDepth 20000
set_option linter.unusedSimpArgs false
set_option linter.unusedVariables false
theorem Tryz.vinfoSp:(prog.info? 101).map (fun i=>(i.zero,i.size,i.bytes))=some (some (.agg #[.int .i32 0,.int .i32 0]),2,8):=by kernel_rfl
theorem Tryz.vinfoI32:(prog.info? 21).map (fun i=>(i.zero,i.size,i.bytes))=some (some (.int .i32 0),1,4):=by kernel_rfl
theorem zgl (w:World)(v:Value)(l:List S.Sp)(R:S.Rd w v l)(hl:l.length<=17592186044160) :
  Calls prog 114 #[v] w fun e w'=>∃v',e= .returned v'/\w'.ownsRow w.heap.size 101 2 v' l.length (S.cellsOf l)/\Below w.heap.size w w':=by
 obtain⟨ao,cap,rfl,hn,hc⟩:=R;obtain⟨i0,hi,hz0,hz1,hz2⟩:=info_parts Tryz.vinfoSp;have q22:∀(w:World) (a:Option Addr) (n c n' c':Nat),(binOp .eql 24 (.slice a n c) (.slice none n' c')).run prog w= .ok (.bool a.isNone) w:=fun w a n c n' c'=>Lib.run_eql_slice_nil w _ _ a n c n' c' underlying24
 cases ao with
 | none =>
  have h0:l= []:=by
   cases l with
   | nil=>rfl
   | cons z zs=>obtain⟨b,off,h,_⟩:=hc (by simp);simp at h
  subst h0;have:=hn rfl;subst this;clear hc
  go_enter func114,ntmps114
  go_wp2;go_ret
  exact⟨_,rfl,World.ownsRow_nil _ _ _ _,qR _⟩
 | some ad =>
  have HC:Hid (∀j u,(S.cellsOf l)[j]?=some u->w.cell? (ad.add j)=some u):=by
   intro j u hj;obtain⟨i,x,hx,hor⟩:=S.zld hj;obtain⟨b,off,hao,hcell⟩:=hc (by intro h;subst h;simp at hx);simp at hao;subst hao;have h1:=hcell i x hx;rw[L.addr_add];rcases hor with ⟨rfl,rfl⟩|⟨rfl,rfl⟩
   ·exact h1.1
   ·exact h1.2
  clear hc;have OW:Hid ((w.alloc (.cells #[] 101)).ownsRow w.heap.size 101 2 (.slice (some ⟨w.heap.size,0,none⟩) 0 0) 0 []):=World.ownsRow_made w #[] 0 qN (Nat.zero_le _) (by simp)
  go_enter func114,ntmps114
  go_wp2_with (at_builtin;go_must (refine wpList_append_own _ rfl _ _ 24 rfl w.heap.size 101 i0 (.agg #[.int .i32 0,.int .i32 0]) 2 8 underlying24 hi hz0 hz1 hz2 rfl (by decide) _ _ _ rfl OW.out ad l.length cap (S.cellsOf l) rfl (S.zbl l) (fun j u hj=>Lib.cell?_alloc_some _ (HC.out j u hj)) (fun u hu=>S.zlc hu) (by unfold maxLen;omega) (by omega) (by simp) ?_;intro v' w3 hown' hgrow3 hnil3))
  go_ret;refine⟨v',rfl,by simpa using hown',?_⟩
  exact((qR w).alloc qN _).grown hgrow3 (by simp) (fun k hk=>(OW.out.lt k hk).1)
def V.opp (s:ByteArray):ByteArray:=if (s.toList== [117,112,112,101,114])=true then ⟨#[108,111,119,101,114]⟩ else if (s.toList== [108,111,119,101,114])=true then ⟨#[117,112,112,101,114]⟩ else ⟨#[110,117,108,108]⟩
def V.against (d:Int):Int:=if d=1 then 2 else if d=2 then 1 else d
theorem zn4 (w:World)(a b c d:Value):Calls prog 168 #[.agg #[a,b,c,d]] w fun e w'=>e= .returned b/\w'=w.alloc (.cells #[a,b,c,d] 242):=by
 go_enter func168,ntmps168
 go_wp2;go_ret
 exact⟨rfl,rfl⟩
theorem V.push {w W1 w3:World}{e:TypeId}{c:Nat}{v v':Value}{n:Nat}{xs ys:List Value}{o:Obj}(hbw:Below w.heap.size w W1)(hown:W1.ownsRow w.heap.size e c v n xs)
  (hown':w3.ownsRow w.heap.size e c v' (n+1) (xs++ys)) (hgrow:(W1.alloc o).grownBy w3 v.ownBlock) :
  Hid (w3.ownsRow w.heap.size e c v' (n+1) (xs++ys)/\Below w.heap.size w w3) :=
 ⟨hown',Below.grown (hbw.alloc hbw.size _) hgrow (by have:=hbw.size;simp;omega) (fun j hj=>(hown.lt _ hj).1)⟩
theorem zrr (w:World)(v:Value)(l:List R.Item)(RR:R.Its w v l)(hl:l.length<=1000) :
  Calls prog 167 #[v,.func (.func 168) #[] #[]] w fun e w'=>∃v',e= .returned v'/\w'.ownsRow w.heap.size 21 1 v' l.length (l.map fun x=>Value.int .i32 x.rune)/\Below w.heap.size w w':=by
 have HR:=qH RR;obtain⟨ao,ca,rfl⟩:=RR.len;clear RR;obtain⟨i0,hi,hz0,hz1,hz2⟩:=info_parts Tryz.vinfoI32
 go_enter func167,ntmps167
 go_wp2
 go_loopw [5,10] (fun v i wr=>∃k:Nat,k<=l.length/\i= .int .i64 k/\Hid (wr.ownsRow w.heap.size 21 1 v k ((l.take k).map fun x=>Value.int .i32 x.rune)/\Below w.heap.size w wr)) (fun _ i _=>l.length - (RowKit.intOf i).toNat)
 case atStart=>exact⟨0,Nat.zero_le _,rfl,World.ownsRow_nil _ _ _ _,qR w⟩
 case round =>
  obtain⟨k,hk,rfl,HB⟩:=hrel
  by_cases hlt:k<l.length
  ·obtain⟨x,hx⟩:∃x,l[k]?=some x:=⟨l[k],by simp[hlt]⟩;obtain⟨ao',ca',e',hcs⟩:=HR.out.below HB.out.2;cases e';obtain⟨b,off,rfl,hcell⟩:=hcs (by intro h;subst h;simp at hlt);obtain⟨c0,c1,c3,⟨so,sc,c2,r2⟩,hf,_⟩:=hcell k x hx;clear hcell hcs r2 hf;have HX:=qH hx;clear hx;obtain⟨xk,xr,xs,xn⟩:=x;simp only at c0 c1 c2 c3;have hb1:=L.block_lt c0
   go_wp2_with fail
   refine(zn4 _ _ _ _ _).mono ?_;rintro e w5 ⟨rfl,hw5⟩;have BW:Below wr.heap.size wr w5:=by rw[hw5];exact((qR wr).alloc qN _).alloc (by simp) _
   have HO:Hid (w5.ownsRow w.heap.size 21 1 u5 k ((l.take k).map fun x=>Value.int .i32 x.rune)):=by rw[hw5];exact(HB.out.1.alloc _).alloc _
   have HBW:=qH <| HB.out.2.trans (BW.mono HB.out.2.size);have hsz5:=HBW.out.size;clear hw5 BW c0 c1 c2 c3 hb1
   go_wp2_with (at_builtin;go_must (refine wpList_append_own _ rfl _ _ 33 rfl w.heap.size 21 i0 (.int .i32 0) 1 4 underlying33 hi hz0 hz1 hz2 rfl (by decide) _ _ _ rfl (HO.out.alloc _) ⟨w5.heap.size,0,none⟩ 1 1 [.int .i32 xr] rfl rfl (cell_one_new _ _ _) (fun x hx=>by simp at hx;subst hx;rfl) (by unfold maxLen;omega) (by omega) (by simp;omega) ?_;intro v' w3 hown' hgrow3 hnil3;have HX3:=V.push HBW.out HO.out hown' hgrow3;clear hown' hgrow3 hnil3))
   go_roundw
   case rel=>exact⟨k+1,by omega,by go_num,by rw[List.take_add_one,HX.out];simpa using HX3.out.1,HX3.out.2⟩
   case measure=>simp[RowKit.intOf];omega
  ·have hkl:k=l.length:=by omega
   subst hkl;go_wp2;go_ret;exact⟨_,rfl,by simpa using HB.out.1,HB.out.2⟩
