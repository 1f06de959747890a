/-
 Scripts in memory: what reads as a list of rules, of passes, as a script; and what a meaning hangs on.
-/
import Derived.Test.YtddiojckgjobmaaGreatUni2
import Derived.Test.YtddiojckgjobmaaGreatRLib
namespace Go.Proofs.YtddiojckgjobmaaGreat.V
open Go.RowKit
structure Pass where
 name:ByteArray
 rules:List K.Rule
structure Script where
 has:Bool
 only:List S.Sp
 passes:List Pass
theorem zcc {w w':World}{v:Value}{l:List (List S.Sp)}(h:K.Ss w v l)(k:R.Keeps w w'):K.Ss w' v l:=by
 obtain⟨ao,cap,vs,rfl,hn,hl,hs,hc⟩:=h;refine⟨ao,cap,vs,rfl,hn,hl,⟨hs.1,fun j u s hu hj=> ?_⟩,fun hz=> ?_⟩
 ·obtain⟨h1,h2,h3⟩:=hs.2 j u s hu hj;exact⟨h1,R.zco h2 k,h3⟩
 ·obtain⟨b,off,rfl,hc2⟩:=hc hz;exact⟨b,off,rfl,fun j u hj=>k _ _ _ (hc2 j u hj)⟩
theorem zfb {w w':World}{v:Value}{l:List Int}(h:L.Rd w v .i32 l)(k:R.Keeps w w'):L.Rd w' v .i32 l:=by
 obtain⟨ao,cap,rfl,hn,h⟩:=h;refine⟨ao,cap,rfl,hn,fun hz=> ?_⟩;obtain⟨b,off,rfl,hc⟩:=h hz;exact⟨b,off,rfl,fun j z hj=>k _ _ _ (hc j z hj)⟩
theorem zdg {w w':World}{v:Value}{r:K.Rule}(h:K.RuIs w v r)(k:R.Keeps w w'):K.RuIs w' v r:=by
 obtain⟨bo,bc,so,sc,ao,ac,tgo,tc,rfl,h1,h2,h3,h4,h5⟩:=h;exact⟨bo,bc,so,sc,ao,ac,tgo,tc,rfl,zcc h1 k,zcc h2 k,zcc h3 k,zfb h4 k,h5⟩
def Rus (w:World) (v:Value) (l:List K.Rule):Prop :=
 ∃ao cap,v= .slice ao l.length cap/\l.length<=140737488355328/\(l≠ []->∃b off,ao=some ⟨b,off,none⟩/\∀(j:Nat) r,l[j]?=some r ->
  ∃bo bc so sc ao ac tgo tc,
   w.cell? ⟨b,off+j*7,none⟩=some (.bool r.start) /\
   w.cell? ⟨b,off+j*7+1,none⟩=some (.bool r.fin) /\
   w.cell? ⟨b,off+j*7+2,none⟩=some (.slice bo r.before.length bc) /\
   w.cell? ⟨b,off+j*7+3,none⟩=some (.slice so r.source.length sc) /\
   w.cell? ⟨b,off+j*7+4,none⟩=some (.slice ao r.after.length ac) /\
   w.cell? ⟨b,off+j*7+5,none⟩=some (.slice tgo r.target.length tc) /\
   w.cell? ⟨b,off+j*7+6,none⟩=some (.int .i64 r.cursor) /\
   K.RuIs w (.agg #[.bool r.start,.bool r.fin,.slice bo r.before.length bc,.slice so r.source.length sc,.slice ao r.after.length ac,.slice tgo r.target.length tc,.int .i64 r.cursor]) r)
theorem Rus.nil (w:World):Rus w (.slice none 0 0) []:=⟨none,0,rfl,by simp,fun h=>absurd rfl h⟩
theorem Rus.len {w:World}{v:Value}{l:List K.Rule}(h:Rus w v l):∃ao cap,v= .slice ao l.length cap:=by
 obtain⟨ao,cap,rfl,_⟩:=h;exact⟨ao,cap,rfl⟩
theorem Rus.few {w:World}{v:Value}{l:List K.Rule}(h:Rus w v l):l.length<=140737488355328:=by
 obtain⟨ao,cap,rfl,h,_⟩:=h;exact h
theorem Rus.keeps {w w':World}{v:Value}{l:List K.Rule}(h:Rus w v l)(k:R.Keeps w w'):Rus w' v l:=by
 obtain⟨ao,cap,rfl,hl,h⟩:=h;refine⟨ao,cap,rfl,hl,fun hz=> ?_⟩;obtain⟨b,off,rfl,hc⟩:=h hz;refine⟨b,off,rfl,fun j r hj=> ?_⟩;obtain⟨bo,bc,so,sc,ao,ac,tgo,tc,c0,c1,c2,c3,c4,c5,c6,hr⟩:=hc j r hj;exact⟨bo,bc,so,sc,ao,ac,tgo,tc,k _ _ _ c0,k _ _ _ c1,k _ _ _ c2,k _ _ _ c3,k _ _ _ c4,k _ _ _ c5,k _ _ _ c6,zdg hr k⟩
theorem Rus.below {w w':World}{v:Value}{l:List K.Rule}(h:Rus w v l)(hb:Below w.heap.size w w'):Rus w' v l:=h.keeps (R.Keeps.of_below hb qN)
def Pas (w:World) (v:Value) (l:List Pass):Prop :=
 ∃ao cap,v= .slice ao l.length cap/\l.length<=140737488355328/\(l≠ []->∃b off,ao=some ⟨b,off,none⟩/\∀(j:Nat) p,l[j]?=some p ->
  w.cell? ⟨b,off+j*2,none⟩=some (.string p.name)/\p.name.size<=140737488355328 /\
  ∃ro rc,w.cell? ⟨b,off+j*2+1,none⟩=some (.slice ro p.rules.length rc)/\Rus w (.slice ro p.rules.length rc) p.rules)
theorem Pas.nil (w:World):Pas w (.slice none 0 0) []:=⟨none,0,rfl,by simp,fun h=>absurd rfl h⟩
theorem Pas.len {w:World}{v:Value}{l:List Pass}(h:Pas w v l):∃ao cap,v= .slice ao l.length cap:=by
 obtain⟨ao,cap,rfl,_⟩:=h;exact⟨ao,cap,rfl⟩
theorem Pas.few {w:World}{v:Value}{l:List Pass}(h:Pas w v l):l.length<=140737488355328:=by
 obtain⟨ao,cap,rfl,h,_⟩:=h;exact h
theorem Pas.keeps {w w':World}{v:Value}{l:List Pass}(h:Pas w v l)(k:R.Keeps w w'):Pas w' v l:=by
 obtain⟨ao,cap,rfl,hl,h⟩:=h;refine⟨ao,cap,rfl,hl,fun hz=> ?_⟩;obtain⟨b,off,rfl,hc⟩:=h hz;refine⟨b,off,rfl,fun j p hj=> ?_⟩;obtain⟨c0,hn,ro,rc,c1,hr⟩:=hc j p hj;exact⟨k _ _ _ c0,hn,ro,rc,k _ _ _ c1,hr.keeps k⟩
theorem Pas.below {w w':World}{v:Value}{l:List Pass}(h:Pas w v l)(hb:Below w.heap.size w w'):Pas w' v l:=h.keeps (R.Keeps.of_below hb qN)
def ScIs (w:World) (v:Value) (s:Script):Prop :=
 ∃oo oc po pc,v= .agg #[.bool s.has,.slice oo s.only.length oc,.slice po s.passes.length pc]/\S.Rd w (.slice oo s.only.length oc) s.only/\s.only.length<=140737488355328/\Pas w (.slice po s.passes.length pc) s.passes
theorem ScIs.keeps {w w':World}{v:Value}{s:Script}(h:ScIs w v s)(k:R.Keeps w w'):ScIs w' v s:=by
 obtain⟨oo,oc,po,pc,rfl,h1,h2,h3⟩:=h;exact⟨oo,oc,po,pc,rfl,R.zco h1 k,h2,h3.keeps k⟩
theorem ScIs.below {w w':World}{v:Value}{s:Script}(h:ScIs w v s)(hb:Below w.heap.size w w'):ScIs w' v s:=h.keeps (R.Keeps.of_below hb qN)
/-! What a meaning hangs on: the blocks that there are, two of them aside (the row of the passes, the row of the last pass's rules). -/
def Out (X Y:Nat) (w w':World):Prop:=∀b,b<w.heap.size->b≠X->b≠Y->w'.heap[b]?=w.heap[b]?
def Off (X Y:Nat) (w:World) (Q:World->Prop):Prop:=∀w',w.heap.size<=w'.heap.size->Out X Y w w'->Q w'
theorem Off.here {X Y:Nat}{w:World}{Q:World->Prop}(h:Off X Y w Q):Q w:=h w qN fun _ _ _ _=>rfl
theorem Off.on {X Y:Nat}{w w1:World}{Q:World->Prop}(h:Off X Y w Q)(hs:w.heap.size<=w1.heap.size)(ho:Out X Y w w1):Off X Y w1 Q :=
 fun w' hs' ho'=>h w' (Nat.le_trans hs hs') fun b hb h1 h2=>(ho' b (Nat.lt_of_lt_of_le hb hs) h1 h2).trans (ho b hb h1 h2)
theorem Off.imp {X Y:Nat}{w:World}{Q Q':World->Prop}(h:Off X Y w Q)(k:∀w',Q w'->Q' w'):Off X Y w Q':=fun w' hs ho=>k w' (h w' hs ho)
theorem Off.and {X Y:Nat}{w:World}{Q Q':World->Prop}(h:Off X Y w Q)(h':Off X Y w Q'):Off X Y w fun w'=>Q w'/\Q' w':=fun w' hs ho=>⟨h w' hs ho,h' w' hs ho⟩
theorem Off.cell {X Y:Nat}{w:World}{b o:Nat}{u:Value}(h:w.cell? ⟨b,o,none⟩=some u)(hX:b≠X)(hY:b≠Y):Off X Y w fun w'=>w'.cell? ⟨b,o,none⟩=some u :=
 fun w' _ ho=>by
  have e:=ho b (L.block_lt h) hX hY;show w'.cell? ⟨b,o,none⟩=some u;rw[World.cell?_of_block (a:=⟨b,o,none⟩) e];exact h
end Go.Proofs.YtddiojckgjobmaaGreat.V
namespace Go.Proofs.YtddiojckgjobmaaGreat.K
def firstR:Nat->List Rule->Int×Int
 | _,[]=>(0,0)
 | k,r::l=>if ruleE r=0 then firstR (k+1) l else (ruleE r,(k:Int))
def rulesF (l:List Rule):Int×Int:=if 200<l.length then (5,0) else firstR 0 l
def checkF (l:List Rule) (t:List Int):Int×Int:=if (rulesF l).1=0 then (textE t,0) else rulesF l
theorem zc2 {l:List Rule}{k:Nat}{r:Rule}(h:l[k]?=some r):firstR k (l.drop k)=if ruleE r=0 then firstR (k+1) (l.drop (k+1)) else (ruleE r,(k:Int)):=by
 have hlt:=(qL.1 h).1;rw[List.drop_eq_getElem_cons hlt];have:l[k]=r:=by rw[List.getElem?_eq_getElem hlt] at h;exact Option.some.inj h
 rw[this];rfl
theorem zfr {l:List Rule}:∀ {k:Nat},(firstR k l).1=0->∀r∈l,ruleE r=0:=by
 induction l with
 | nil=>intro k _ r hr;cases hr
 | cons x l ih =>
  intro k h r hr;rw[firstR] at h
  by_cases hx:ruleE x=0
  ·rw[if_pos hx] at h;rcases List.mem_cons.1 hr with rfl | hr
   ·exact hx
   ·exact ih h r hr
  ·rw[if_neg hx] at h;exact absurd h hx
theorem zix {l:List Rule}:∀ {k:Nat},(firstR k l).1=0->firstR k l=(0,0):=by
 induction l with
 | nil=>intro k _;rfl
 | cons x l ih =>
  intro k h;rw[firstR] at h ⊢
  by_cases hx:ruleE x=0
  ·rw[if_pos hx] at h ⊢;exact ih h
  ·rw[if_neg hx] at h;exact absurd h hx
theorem zal {l:List Rule}(h:(rulesF l).1=0):l.length<=200/\(∀r∈l,ruleE r=0)/\rulesF l=(0,0):=by
 unfold rulesF at h ⊢
 by_cases h1:200<l.length
 ·rw[if_pos h1] at h;exact absurd h (by decide)
 ·rw[if_neg h1] at h ⊢;exact⟨by omega,zfr h,zix h⟩
theorem zfx {l:List Rule}{t:List Int}(h:(checkF l t).1=0):(rulesF l).1=0/\textE t=0/\checkF l t=(0,0):=by
 unfold checkF at h ⊢
 by_cases h1:(rulesF l).1=0
 ·rw[if_pos h1] at h ⊢;exact⟨h1,h,by rw[show textE t=0 from h]⟩
 ·rw[if_neg h1] at h;exact absurd h h1
def whichN (t:List Int) (k:Int):Nat->List Rule->Int
 | _,[]=> -1
 | i,r::l=>if matchB r t k=true then (i:Int) else whichN t k (i+1) l
def which (l:List Rule) (t:List Int) (k:Int):Int:=whichN t k 0 l
theorem ze8 {t:List Int}{k:Int}{l:List Rule}{i:Nat}{r:Rule}(h:l[i]?=some r):whichN t k i (l.drop i)=if matchB r t k=true then (i:Int) else whichN t k (i+1) (l.drop (i+1)):=by
 have hlt:=(qL.1 h).1;rw[List.drop_eq_getElem_cons hlt];have:l[i]=r:=by rw[List.getElem?_eq_getElem hlt] at h;exact Option.some.inj h
 rw[this];rfl
theorem zh6 {t:List Int}{k:Int}{l:List Rule}:∀ {i:Nat},whichN t k i l= -1∨∃(j:Nat) (r:Rule),l[j]?=some r/\matchB r t k=true/\whichN t k i l=((i+j:Nat):Int):=by
 induction l with
 | nil=>intro i;exact .inl rfl
 | cons x l ih =>
  intro i;rw[whichN]
  by_cases hx:matchB x t k=true
  ·rw[if_pos hx];exact .inr ⟨0,x,rfl,hx,by simp⟩
  ·rw[if_neg hx];rcases ih (i:=i+1) with h | ⟨j,r,h1,h2,h3⟩
   ·exact .inl h
   ·exact .inr ⟨j+1,r,by simpa using h1,h2,by rw[h3];omega⟩
theorem zcn {l:List Rule}{t:List Int}{k:Int}:which l t k= -1∨∃(j:Nat) (r:Rule),l[j]?=some r/\matchB r t k=true/\which l t k=(j:Int):=by
 rcases zh6 (t:=t) (k:=k) (l:=l) (i:=0) with h | ⟨j,r,h1,h2,h3⟩
 ·exact .inl h
 ·exact .inr ⟨j,r,h1,h2,by unfold which;rw[h3];omega⟩
def noRule:Rule:=⟨false,false,[],[],[],[],0⟩
def restOf (r:Rule) (rest:List Int):List Int:=r.target++rest.drop r.source.length
def play (l:List Rule):Nat->List Int->List Int->Int->Int->Int×List Int×Int×Int
 | 0,done,rest,s,p=>if rest.length=0 then (0,done,s,p) else (9,[],0,0)
 | left+1,done,rest,s,p =>
  if rest.length=0 then (0,done,s,p)
  else if which l (done++rest) done.length<0 then play l left (done++rest.take 1) (rest.drop 1) (s+1) p
  else
   let r:=(l[(which l (done++rest) done.length).toNat]?).getD noRule
   if 4000<done.length+(restOf r rest).length then (4,[],0,0)
   else play l left (done++(restOf r rest).take r.cursor.toNat) ((restOf r rest).drop r.cursor.toNat) (s+1) (p+1)
theorem zdx {l:List Rule}{left:Nat}{done rest:List Int}{s p:Int}(h:rest.length=0):play l left done rest s p=(0,done,s,p):=by
 cases left <;> rw[play,if_pos h]
theorem zf5 {l:List Rule}{done rest:List Int}{s p:Int}(h:¬rest.length=0):play l 0 done rest s p=(9,[],0,0):=by
 rw[play,if_neg h]
theorem zik {l:List Rule}{left:Nat}{done rest:List Int}{s p:Int}(h:¬rest.length=0)(hk:which l (done++rest) done.length= -1):play l (left+1) done rest s p=play l left (done++rest.take 1) (rest.drop 1) (s+1) p:=by
 rw[play,if_neg h,if_pos (by rw[hk];decide)]
theorem zem {l:List Rule}{left:Nat}{done rest:List Int}{s p:Int}{j:Nat}{r:Rule}(h:¬rest.length=0)(hk:which l (done++rest) done.length=(j:Int))(hr:l[j]?=some r)(hm:4000<done.length+(restOf r rest).length):play l (left+1) done rest s p=(4,[],0,0):=by
 rw[play,if_neg h,if_neg (by rw[hk];omega),hk,Int.toNat_natCast,hr];simp only[Option.getD_some];rw[if_pos hm]
theorem zf4 {l:List Rule}{left:Nat}{done rest:List Int}{s p:Int}{j:Nat}{r:Rule}(h:¬rest.length=0)(hk:which l (done++rest) done.length=(j:Int))(hr:l[j]?=some r)(hm:¬ 4000<done.length+(restOf r rest).length):play l (left+1) done rest s p=play l left (done++(restOf r rest).take r.cursor.toNat) ((restOf r rest).drop r.cursor.toNat) (s+1) (p+1):=by
 rw[play,if_neg h,if_neg (by rw[hk];omega),hk,Int.toNat_natCast,hr];simp only[Option.getD_some];rw[if_neg hm]
theorem fits {r:Rule}{done rest:List Int}(hE:ruleE r=0)(hm:matchB r (done++rest) done.length=true):r.source.length<=rest.length:=by
 have h:=zjx (zai hE).2.2.2.1 hm;rw[List.length_append] at h;omega
theorem zdw {r:Rule}{rest:List Int}:(restOf r rest).length=r.target.length+(rest.length - r.source.length):=by
 unfold restOf;simp
def runF (l:List Rule) (t:List Int):(List Int×Int×Int)×Int×Int :=
 if (checkF l t).1=0 then ((play l (8*t.length+40) [] t 0 0).2,(play l (8*t.length+40) [] t 0 0).1,0) else (([],0,0),checkF l t)
end Go.Proofs.YtddiojckgjobmaaGreat.K
namespace Go.Proofs.YtddiojckgjobmaaGreat.Cn
def lessF (r:Int):Int :=
 if (97<=r/\r<=122∨224<=r/\r<=246)∨248<=r/\r<=254 then 32
 else if (945<=r/\r<=961∨963<=r/\r<=969)∨1072<=r/\r<=1103 then 32
 else if 1104<=r/\r<=1119 then 80 else 0
def up (r:Int):Int:=r - lessF r
def low (r:Int):Int:=if lessF (r+32)=32 then r+32 else if lessF (r+80)=80 then r+80 else r
def passE (p:V.Pass):Int :=
 if p.name.toList= [] then (K.rulesF p.rules).1 else if R.passes p.name=true then (if 0<p.rules.length then 8 else 0) else 7
def firstP:Nat->List V.Pass->Int×Int
 | _,[]=>(0,0)
 | k,p::l=>if passE p=0 then firstP (k+1) l else (passE p,(k:Int))
def wrongF (s:V.Script):Int×Int :=
 if s.has=true/\¬S.wrongE s.only=0 then (S.wrongE s.only,0) else if 60<s.passes.length then (5,0) else firstP 0 s.passes
theorem zbj {l:List V.Pass}{k:Nat}{p:V.Pass}(h:l[k]?=some p):firstP k (l.drop k)=if passE p=0 then firstP (k+1) (l.drop (k+1)) else (passE p,(k:Int)):=by
 have hlt:=(qL.1 h).1;rw[List.drop_eq_getElem_cons hlt];have:l[k]=p:=by rw[List.getElem?_eq_getElem hlt] at h;exact Option.some.inj h
 rw[this];rfl
theorem zc3 {l:List V.Pass}:∀ {k:Nat},(firstP k l).1=0->(∀p∈l,passE p=0)/\firstP k l=(0,0):=by
 induction l with
 | nil=>intro k _;exact⟨fun p hp=>by (cases hp),rfl⟩
 | cons x l ih =>
  intro k h;rw[firstP] at h ⊢
  by_cases hx:passE x=0
  ·rw[if_pos hx] at h ⊢;refine⟨fun p hp=> ?_,(ih h).2⟩;rcases List.mem_cons.1 hp with rfl | hp
   ·exact hx
   ·exact(ih h).1 p hp
  ·rw[if_neg hx] at h;exact absurd h hx
theorem zcs {s:V.Script}(h:(wrongF s).1=0):(s.has=true->S.wrongE s.only=0)/\s.passes.length<=60/\(∀p∈s.passes,passE p=0)/\wrongF s=(0,0):=by
 unfold wrongF at h ⊢
 by_cases h1:s.has=true/\¬S.wrongE s.only=0
 ·rw[if_pos h1] at h;exact absurd h h1.2
 ·rw[if_neg h1] at h ⊢
  by_cases h2:60<s.passes.length
  ·rw[if_pos h2] at h;exact absurd h (by decide)
  ·rw[if_neg h2] at h ⊢;refine⟨fun hh=>Classical.byContradiction fun h3=>h1 ⟨hh,h3⟩,by omega,(zc3 h).1,(zc3 h).2⟩
abbrev Pl:=List K.Rule->List Int->List Int×Int
def passF (pl:Pl) (p:V.Pass) (x:List Int):List Int×Int :=
 if p.name.toList= [] then pl p.rules x
 else if p.name.toList= [117,112,112,101,114] then (x.map up,0)
 else if p.name.toList= [108,111,119,101,114] then (x.map low,0)
 else if p.name.toList= [110,117,108,108] then (x,0) else ([],0)
def thru (pl:Pl):Nat->List V.Pass->List Int->List Int×Int×Int
 | _,[],x=>(x,0,0)
 | k,p::l,x=>if (passF pl p x).2=0 then thru pl (k+1) l (passF pl p x).1 else ([],(passF pl p x).2,(k:Int))
theorem zea {pl:Pl}{l:List V.Pass}{k:Nat}{p:V.Pass}{x:List Int}(h:l[k]?=some p):thru pl k (l.drop k) x=if (passF pl p x).2=0 then thru pl (k+1) (l.drop (k+1)) (passF pl p x).1 else ([],(passF pl p x).2,(k:Int)):=by
 have hlt:=(qL.1 h).1;rw[List.drop_eq_getElem_cons hlt];have:l[k]=p:=by rw[List.getElem?_eq_getElem hlt] at h;exact Option.some.inj h
 rw[this];rfl
def Tx (x:List Int):Prop:=x.length<=4000/\K.allR x=true
theorem Tx.nil:Tx []:=⟨by simp,rfl⟩
theorem zdr {t:List Int}:K.textE t=0↔Tx t:=by
 unfold K.textE Tx
 by_cases h:4000<t.length
 ·rw[if_pos h];exact⟨fun h=>absurd h (by decide),fun h=>by omega⟩
 ·rw[if_neg h];cases K.allR t <;> simp <;> omega
theorem Tx.sub {x y:List Int}(h:Tx x)(hl:y.length<=x.length)(hs:∀r∈y,r∈x):Tx y :=
 ⟨Nat.le_trans hl h.1,List.all_eq_true.2 fun r hr=>List.all_eq_true.1 h.2 r (hs r hr)⟩
theorem Tx.range {x:List Int}(h:Tx x):∀r∈x,0<=r/\r<=1114111:=fun r hr=>by
 have:=List.all_eq_true.1 h.2 r hr;simp[M.right] at this;omega
theorem za3 (r:Int):lessF r=0∨(lessF r=32/\97<=r/\r<=1103)∨(lessF r=80/\1104<=r/\r<=1119):=by
 unfold lessF;repeat' split
 all_goals omega
theorem zjg {r:Int}(h:M.right r=true):M.right (up r)=true:=by
 simp[M.right] at h ⊢;unfold up;have:=za3 r;omega
theorem zio {r:Int}(h:M.right r=true):M.right (low r)=true:=by
 simp[M.right] at h ⊢;unfold low;have:=za3 (r+32);have:=za3 (r+80)
 repeat' split
 all_goals omega
theorem Tx.map {x:List Int}{f:Int->Int}(hf:∀r,M.right r=true->M.right (f r)=true)(h:Tx x):Tx (x.map f) :=
 ⟨by simpa using h.1,List.all_eq_true.2 fun r hr=>by
  obtain⟨q,hq,rfl⟩:=List.mem_map.1 hr
  exact hf q (List.all_eq_true.1 h.2 q hq)⟩
theorem zdy {pl:Pl}(hpl:∀l x,Tx (pl l x).1){p:V.Pass}{x:List Int}(hx:Tx x):Tx (passF pl p x).1:=by
 unfold passF
 repeat' split
 ·exact hpl _ _
 ·exact hx.map fun r=>zjg
 ·exact hx.map fun r=>zio
 ·exact hx
 ·exact Tx.nil
theorem zfa {pl:Pl}(hpl:∀l x,Tx (pl l x).1){l:List V.Pass}:∀ {k:Nat} {x:List Int},Tx x->Tx (thru pl k l x).1:=by
 induction l with
 | nil=>intro k x hx;exact hx
 | cons p l ih =>
  intro k x hx;rw[thru];split
  ·exact ih (zdy hpl hx)
  ·exact Tx.nil
def joinP (r:Int):List (List Int×Bool)->List (List Int×Bool)
 | (x,true)::q=>(r::x,true)::q
 | q=>([r],true)::q
def cut (P:Int->Bool):List Int->List (List Int×Bool)
 | []=> []
 | r::t=>if P r=true then joinP r (cut P t) else ([r],false)::cut P t
theorem zi0 {P:Int->Bool}{r:Int}{t:List Int}(h:P r=false):cut P (r::t)=([r],false)::cut P t:=by
 rw[cut,if_neg (by simp[h])]
theorem zj3 {P:Int->Bool}{b:List Int}(hb:∀r,b.head?=some r->P r=false):∀(r:Int),joinP r (cut P b)=([r],true)::cut P b:=by
 intro r;cases b with
 | nil=>rfl
 | cons y t=>rw[zi0 (hb y rfl)];rfl
theorem zj9 {P:Int->Bool}{b:List Int}(hb:∀r,b.head?=some r->P r=false):∀ {a:List Int},a≠ []->(∀r∈a,P r=true)->cut P (a++b)=(a,true)::cut P b:=by
 intro a
 induction a with
 | nil=>intro h;exact absurd rfl h
 | cons r a ih =>
  intro _ h;rw[List.cons_append,cut,if_pos (h r List.mem_cons_self)]
  by_cases ha:a= []
  ·subst ha;exact zj3 hb r
  ·rw[ih ha fun x hx=>h x (List.mem_cons_of_mem _ hx)];rfl
def snocP (m:Bool) (r:Int):List (List Int×Bool)->List (List Int×Bool)
 | []=> [([r],m)]
 | [(x,true)]=>if m=true then [(x++ [r],true)] else [(x,true),([r],m)]
 | q::l=>q::snocP m r l
theorem za2 {m:Bool}{r:Int}{q:List Int×Bool}{l:List (List Int×Bool)}(hl:l≠ []):snocP m r (q::l)=q::snocP m r l:=by
 obtain⟨x,b⟩:=q;cases l with
 | nil=>exact absurd rfl hl
 | cons y l=>cases b <;> rfl
theorem zjz {y:Int}{l:List (List Int×Bool)}:joinP y l≠ []:=by
 unfold joinP;split <;> simp
theorem zib {m:Bool}{r y:Int}{l:List (List Int×Bool)}(hl:l≠ []):snocP m r (joinP y l)=joinP y (snocP m r l):=by
 match l,hl with
 | (x,true)::q,_ =>
  cases q with
  | nil =>
   cases m <;> rfl
  | cons z q =>
   rw[za2 (by simp)];show snocP m r ((y::x,true)::z::q)=_;rw[za2 (by simp)];rfl
 | (x,false)::q,_ =>
  show snocP m r (([y],true)::(x,false)::q)=_;rw[za2 (by simp)];cases q with
  | nil=>rfl
  | cons z q=>rw[za2 (by simp)];rfl
theorem zj8 {P:Int->Bool}{r:Int}{t:List Int}:cut P (r::t)≠ []:=by
 rw[cut];split
 ·exact zjz
 ·simp
theorem zj2 {P:Int->Bool}{r:Int}:∀ {t:List Int},cut P (t++ [r])=snocP (P r) r (cut P t):=by
 intro t
 induction t with
 | nil =>
  show cut P [r]= [([r],P r)];rw[cut];cases h:P r <;> rfl
 | cons y t ih =>
  rw[List.cons_append,cut,ih];cases t with
  | nil =>
   show (if P y=true then joinP y [([r],P r)] else ([y],false):: [([r],P r)])=snocP (P r) r (cut P [y]);rw[cut];cases h1:P y <;> cases h2:P r <;> rfl
  | cons z t =>
   conv=>rhs;rw[cut]
   split
   ·rw[zib zj8]
   ·rw[za2 zj8]
theorem zec {m:Bool}{r:Int}{l:List (List Int×Bool)}{x:List Int}{b:Bool}:snocP m r (l++ [(x,b)])=if m=true/\b=true then l++ [(x++ [r],true)] else l++ [(x,b),([r],m)]:=by
 induction l with
 | nil=>cases b <;> cases m <;> rfl
 | cons q l ih =>
  rw[List.cons_append,za2 (by simp),ih];split <;> rfl
theorem zit {r:Int}{l:List (List Int×Bool)}:(joinP r l).length<=l.length+1:=by
 unfold joinP;split <;> simp
theorem zi1 {P:Int->Bool}:∀ {t:List Int},(cut P t).length<=t.length:=by
 intro t
 induction t with
 | nil=>exact qN
 | cons r t ih =>
  rw[cut];split
  ·have:=zit (r:=r) (l:=cut P t);simp;omega
  ·simp;omega
theorem zis {r:Int}{l:List (List Int×Bool)}{N:Nat}(h:∀q∈l,q.1.length<=N):∀q∈joinP r l,q.1.length<=N+1:=by
 intro q hq;unfold joinP at hq;split at hq
 ·rcases List.mem_cons.1 hq with rfl | hq
  ·have:=h _ List.mem_cons_self;simp at this ⊢;omega
  ·have:=h q (List.mem_cons_of_mem _ hq);omega
 ·rcases List.mem_cons.1 hq with rfl | hq
  ·simp
  ·have:=h q hq;omega
theorem zey {P:Int->Bool}:∀ {t:List Int},∀q∈cut P t,q.1.length<=t.length:=by
 intro t
 induction t with
 | nil=>intro q hq;cases hq
 | cons r t ih =>
  intro q hq;rw[cut] at hq;split at hq
  ·exact zis ih q hq
  ·rcases List.mem_cons.1 hq with rfl | hq
   ·simp
   ·have:=ih q hq;simp;omega
theorem zir {r:Int}{l:List (List Int×Bool)}{A:List Int}(h:∀q∈l,∀x∈q.1,x∈A):∀q∈joinP r l,∀x∈q.1,x∈r::A:=by
 intro q hq x hx;unfold joinP at hq;split at hq
 ·rcases List.mem_cons.1 hq with rfl | hq
  ·rcases List.mem_cons.1 hx with rfl | hx
   ·exact List.mem_cons_self
   ·exact List.mem_cons_of_mem _ (h _ List.mem_cons_self x hx)
  ·exact List.mem_cons_of_mem _ (h q (List.mem_cons_of_mem _ hq) x hx)
 ·rcases List.mem_cons.1 hq with rfl | hq
  ·simp at hx;subst hx;exact List.mem_cons_self
  ·exact List.mem_cons_of_mem _ (h q hq x hx)
theorem zkv {P:Int->Bool}:∀ {t:List Int},∀q∈cut P t,∀x∈q.1,x∈t:=by
 intro t
 induction t with
 | nil=>intro q hq;cases hq
 | cons r t ih =>
  intro q hq x hx;rw[cut] at hq;split at hq
  ·exact zir ih q hq x hx
  ·rcases List.mem_cons.1 hq with rfl | hq
   ·simp at hx;subst hx;exact List.mem_cons_self
   ·exact List.mem_cons_of_mem _ (ih q hq x hx)
theorem zk7 {P:Int->Bool}{t:List Int}(h:Tx t):∀q∈cut P t,Tx q.1:=fun q hq=>h.sub (zey q hq) (zkv q hq)
def runP (pl:Pl) (ps:List V.Pass):List (List Int×Bool)->List Int->List Int×Int×Int
 | [],out=>(out,0,0)
 | q::l,out=>if q.2=true then (if (thru pl 0 ps q.1).2.1=0 then runP pl ps l (out++(thru pl 0 ps q.1).1) else ([],(thru pl 0 ps q.1).2)) else runP pl ps l (out++q.1)
theorem zid {pl:Pl}{ps:List V.Pass}{l:List (List Int×Bool)}{k:Nat}{q:List Int×Bool}{out:List Int}(h:l[k]?=some q):runP pl ps (l.drop k) out=if q.2=true then (if (thru pl 0 ps q.1).2.1=0 then runP pl ps (l.drop (k+1)) (out++(thru pl 0 ps q.1).1) else ([],(thru pl 0 ps q.1).2)) else runP pl ps (l.drop (k+1)) (out++q.1):=by
 have hlt:=(qL.1 h).1;rw[List.drop_eq_getElem_cons hlt];have:l[k]=q:=by rw[List.getElem?_eq_getElem hlt] at h;exact Option.some.inj h
 rw[this];rfl
def inS (s:V.Script) (r:Int):Bool:= !s.has||S.memb s.only r
def goF (pl:Pl) (s:V.Script) (t:List Int):List Int×Int×Int :=
 if (wrongF s).1=0 then
  if K.textE t=0 then
   if (runP pl s.passes (cut (inS s) t) []).2.1=0 then
    if 4000<(runP pl s.passes (cut (inS s) t) []).1.length then ([],4,(s.passes.length:Int)) else ((runP pl s.passes (cut (inS s) t) []).1,0,0)
   else ([],(runP pl s.passes (cut (inS s) t) []).2)
  else ([],K.textE t,0)
 else ([],wrongF s)
end Go.Proofs.YtddiojckgjobmaaGreat.Cn
