import Derived.Test.YthnmmmkeamcfkaaGreatDoorVSmall
set_option maxHeartbeats 0
set_option maxRecDepth 20000
set_option linter.unusedSimpArgs false
set_option linter.unusedVariables false
namespace Go.Proofs.YthnmmmkeamcfkaaGreatDoor
open Go.Proofs.Tryz
namespace Cn
def lessF (r:Int):Int :=
 if (97<=r/\r<=122∨224<=r/\r<=246)∨248<=r/\r<=254 then 32
 else if (945<=r/\r<=961∨963<=r/\r<=969)∨1072<=r/\r<=1103 then 32
 else if 1104<=r/\r<=1119 then 80 else 0
def up (r:Int):Int:=r - lessF r
def low (r:Int):Int:=if lessF (r+32)=32 then r+32 else if lessF (r+80)=80 then r+80 else r
theorem zbw (r:Int):lessF r=0∨(lessF r=32/\97<=r/\r<=1103)∨(lessF r=80/\1104<=r/\r<=1119):=by
 unfold lessF;repeat' split
 all_goals omega
end Cn
section
open Go.RowKit
theorem zmy (r a b:Int)(w:World) :
  Calls prog 207 #[.int .i32 r,.int .i32 a,.int .i32 b] w fun e w'=>e= .returned (.bool (decide (a<=r)&&decide (r<=b)))/\w'=w:=by
 go_enter func207,ntmps207
 go_wp2
 all_goals go_ret
 all_goals refine⟨L.zaj ?_,rfl⟩
 all_goals (rw[Bool.eq_iff_iff];simp;try omega)
theorem zh0 (r:Int)(w:World) :
  Calls prog 187 #[.int .i32 r] w fun e w'=>e= .returned (.int .i32 (Cn.lessF r))/\w'=w:=by
 have H:=qH <| fun a b=>zmy r a b w
 go_enter func187,ntmps187
 go_wp2_with (go_at_call 207;refine(H.out _ _).mono ?_;rintro e w' ⟨rfl,rfl⟩)
 all_goals go_ret
 all_goals (refine⟨?_,rfl⟩;unfold Cn.lessF;simp_all)
 all_goals (try omega)
theorem Cn.wrap32 (x:Int):IntKind.i32.wrap x=if x % 4294967296≥2147483648 then x % 4294967296 - 4294967296 else x % 4294967296:=by
 have hb2:(2:Int) ^ IntKind.i32.bits=4294967296:=by decide
 have hb3:(2:Int) ^ (IntKind.i32.bits - 1)=2147483648:=by decide
 have hs:IntKind.i32.signed=true:=by decide
 simp only[IntKind.wrap,hb2,hb3,hs,Bool.true_and,decide_eq_true_eq]
theorem Cn.ziz (r d:Int)(h1: -2147483648<=r)(h2:r<=2147483647)(hd:0<d)(hd2:d<=80):Cn.lessF (IntKind.i32.wrap (r+d))=Cn.lessF (r+d)/\(¬Cn.lessF (r+d)=0->IntKind.i32.wrap (r+d)=r+d):=by
 by_cases hb:r+d<=2147483647
 ·have:IntKind.i32.wrap (r+d)=r+d:=by
   rw[Cn.wrap32];split <;> omega
  rw[this];exact⟨rfl,fun _=>rfl⟩
 ·have e:IntKind.i32.wrap (r+d)=r+d - 4294967296:=by
   rw[Cn.wrap32];split <;> omega
  rw[e];have z1:Cn.lessF (r+d - 4294967296)=0:=by rcases Cn.zbw (r+d - 4294967296) with h | h | h <;> omega
  have z2:Cn.lessF (r+d)=0:=by rcases Cn.zbw (r+d) with h | h | h <;> omega
  rw[z1,z2];exact⟨rfl,fun h=>absurd rfl h⟩
theorem zla (r:Int)(h1: -2147483648<=r)(h2:r<=2147483647)(w:World) :
  Calls prog 147 #[.int .i32 r] w fun e w'=>e= .returned (.int .i32 (Cn.low r))/\w'=w:=by
 have hw32:∀x,IntKind.i32.wrap x=wrap32 x:=fun x=>by rw[Cn.wrap32];unfold wrap32;split <;> omega
 have H1:=zh0 (IntKind.i32.wrap (r+32)) w;have H2:=zh0 (IntKind.i32.wrap (r+80)) w;have w1:=Cn.ziz r 32 h1 h2 (by decide) (by decide);have w2:=Cn.ziz r 80 h1 h2 (by decide) (by decide);rw[w1.1] at H1;rw[w2.1] at H2;have e1:=w1.2;have e2:=w2.2;have x0:∀w,(Instr.index 174 (.agg #[.int .i32 32,.int .i32 80]) (.int .i64 0)).run prog w= .ok (.int .i32 32) w:=fun w=>by kernel_rfl
 have x1:∀w,(Instr.index 174 (.agg #[.int .i32 32,.int .i32 80]) (.int .i64 1)).run prog w= .ok (.int .i32 80) w:=fun w=>by kernel_rfl
 rw[hw32] at H1 H2 e1 e2;clear w1 w2 hw32;obtain⟨o,HO⟩:∃o,Hid (Cn.low r=o):=⟨_,rfl⟩;rw[show Cn.low r=o from HO.out];have HE:Hid ((¬Cn.lessF (r+32)=0->wrap32 (r+32)=r+32)/\(¬Cn.lessF (r+80)=0->wrap32 (r+80)=r+80)):=⟨e1,e2⟩;have HL:Hid (Cn.low r=if Cn.lessF (r+32)=32 then r+32 else if Cn.lessF (r+80)=80 then r+80 else r):=rfl;generalize Cn.lessF (r+32)=d1 at H1 HE HL;generalize Cn.lessF (r+80)=d2 at H2 HE HL;clear e1 e2
 go_enter func147,ntmps147
 go_wp2;refine wp_loop_rounds 3 ?_
 rw[rounds_succ]
 go_wp2_with fail
 refine H1.mono ?_;rintro e w' ⟨rfl,rfl⟩
 by_cases q1:d1=32
 ·have hb1:=HE.out.1 (by omega);go_wp2;go_ret;exact⟨L.zfs (by rw[<- HO.out,HL.out,if_pos q1,hb1]),rfl⟩
 ·go_wp2;rw[rounds_succ]
  go_wp2_with fail
  refine H2.mono ?_;rintro e w' ⟨rfl,rfl⟩
  by_cases q2:d2=80
  ·have hb1:=HE.out.2 (by omega);go_wp2;go_ret;exact⟨L.zfs (by rw[<- HO.out,HL.out,if_neg q1,if_pos q2,hb1]),rfl⟩
  ·go_wp2;rw[rounds_succ]
   go_wp2;go_ret
   exact⟨L.zfs (by rw[<- HO.out,HL.out,if_neg q1,if_neg q2]),rfl⟩
end
section
open Go.RowKit
theorem zpe (r:Int)(h1: -2147483648<=r)(h2:r<=2147483647)(w:World) :
  Calls prog 172 #[.int .i32 r] w fun e w'=>e= .returned (.int .i32 (Cn.up r))/\w'=w:=by
 have H:=zh0 r w;have hc:=Cn.zbw r;unfold Cn.up;generalize Cn.lessF r=d at H hc;have b1: -2147483648<=r - d:=by omega
 have b2:r - d<=2147483647:=by omega
 go_enter func172,ntmps172
 go_wp2_with (go_at_call 187;refine H.mono ?_;rintro e w' ⟨rfl,rfl⟩)
 go_ret;exact⟨rfl,rfl⟩
end
namespace K
def firstR:Nat->List Rule->Int×Int
 | _,[]=>(0,0)
 | k,r::l=>if ruleE r=0 then firstR (k+1) l else (ruleE r,(k:Int))
def rulesF (l:List Rule):Int×Int:=if 200<l.length then (5,0) else firstR 0 l
def checkF (l:List Rule) (t:List Int):Int×Int:=if (rulesF l).1=0 then (textE t,0) else rulesF l
theorem zk0 {l:List Rule}{k:Nat}{r:Rule}(h:l[k]?=some r):firstR k (l.drop k)=if ruleE r=0 then firstR (k+1) (l.drop (k+1)) else (ruleE r,(k:Int)):=by
 have hlt:=(qL.1 h).1;rw[List.drop_eq_getElem_cons hlt];have:l[k]=r:=by rw[List.getElem?_eq_getElem hlt] at h;exact Option.some.inj h
 rw[this];rfl
theorem zkz {l:List Rule}:∀ {k:Nat},(firstR k l).1=0->∀r∈l,ruleE r=0:=by
 induction l with
 | nil=>intro k _ r hr;cases hr
 | cons x l ih =>
  intro k h r hr;rw[firstR] at h
  by_cases hx:ruleE x=0
  ·rw[if_pos hx] at h;rcases List.mem_cons.1 hr with rfl | hr
   ·exact hx
   ·exact ih h r hr
  ·rw[if_neg hx] at h;exact absurd h hx
theorem zrl {l:List Rule}:∀ {k:Nat},(firstR k l).1=0->firstR k l=(0,0):=by
 induction l with
 | nil=>intro k _;rfl
 | cons x l ih =>
  intro k h;rw[firstR] at h ⊢
  by_cases hx:ruleE x=0
  ·rw[if_pos hx] at h ⊢;exact ih h
  ·rw[if_neg hx] at h;exact absurd h hx
theorem zax {l:List Rule}(h:(rulesF l).1=0):l.length<=200/\(∀r∈l,ruleE r=0)/\rulesF l=(0,0):=by
 unfold rulesF at h ⊢
 by_cases h1:200<l.length
 ·rw[if_pos h1] at h;exact absurd h (by decide)
 ·rw[if_neg h1] at h ⊢;exact⟨by omega,zkz h,zrl h⟩
theorem zcn {l:List Rule}{t:List Int}(h:(checkF l t).1=0):(rulesF l).1=0/\textE t=0/\checkF l t=(0,0):=by
 unfold checkF at h ⊢
 by_cases h1:(rulesF l).1=0
 ·rw[if_pos h1] at h ⊢;exact⟨h1,h,by rw[show textE t=0 from h]⟩
 ·rw[if_neg h1] at h;exact absurd h h1
def whichN (t:List Int) (k:Int):Nat->List Rule->Int
 | _,[]=> -1
 | i,r::l=>if matchB r t k=true then (i:Int) else whichN t k (i+1) l
def which (l:List Rule) (t:List Int) (k:Int):Int:=whichN t k 0 l
theorem zju {t:List Int}{k:Int}{l:List Rule}{i:Nat}{r:Rule}(h:l[i]?=some r):whichN t k i (l.drop i)=if matchB r t k=true then (i:Int) else whichN t k (i+1) (l.drop (i+1)):=by
 have hlt:=(qL.1 h).1;rw[List.drop_eq_getElem_cons hlt];have:l[i]=r:=by rw[List.getElem?_eq_getElem hlt] at h;exact Option.some.inj h
 rw[this];rfl
theorem zpc {t:List Int}{k:Int}{l:List Rule}:∀ {i:Nat},whichN t k i l= -1∨∃(j:Nat) (r:Rule),l[j]?=some r/\matchB r t k=true/\whichN t k i l=((i+j:Nat):Int):=by
 induction l with
 | nil=>intro i;exact .inl rfl
 | cons x l ih =>
  intro i;rw[whichN]
  by_cases hx:matchB x t k=true
  ·rw[if_pos hx];exact .inr ⟨0,x,rfl,hx,by simp⟩
  ·rw[if_neg hx];rcases ih (i:=i+1) with h | ⟨j,r,h1,h2,h3⟩
   ·exact .inl h
   ·exact .inr ⟨j+1,r,by simpa using h1,h2,by rw[h3];omega⟩
theorem zcw {l:List Rule}{t:List Int}{k:Int}:which l t k= -1∨∃(j:Nat) (r:Rule),l[j]?=some r/\matchB r t k=true/\which l t k=(j:Int):=by
 rcases zpc (t:=t) (k:=k) (l:=l) (i:=0) with h | ⟨j,r,h1,h2,h3⟩
 ·exact .inl h
 ·exact .inr ⟨j,r,h1,h2,by unfold which;rw[h3];omega⟩
def noRule:Rule:=⟨false,false,[],[],[],[],0⟩
def restOf (r:Rule) (rest:List Int):List Int:=r.target++rest.drop r.source.length
def play (l:List Rule):Nat->List Int->List Int->Int->Int->Int×List Int×Int×Int
 | 0,done,rest,s,p=>if rest.length=0 then (0,done,s,p) else (9,[],0,0)
 | left+1,done,rest,s,p =>
  if rest.length=0 then (0,done,s,p)
  else if which l (done++rest) done.length<0 then play l left (done++rest.take 1) (rest.drop 1) (s+1) p
  else
   let r:=(l[(which l (done++rest) done.length).toNat]?).getD noRule
   if 4000<done.length+(restOf r rest).length then (4,[],0,0)
   else play l left (done++(restOf r rest).take r.cursor.toNat) ((restOf r rest).drop r.cursor.toNat) (s+1) (p+1)
theorem zck {l:List Rule}{left:Nat}{done rest:List Int}{s p:Int}(h:rest.length=0):play l left done rest s p=(0,done,s,p):=by
 cases left <;> rw[play,if_pos h]
theorem zl2 {l:List Rule}{done rest:List Int}{s p:Int}(h:¬rest.length=0):play l 0 done rest s p=(9,[],0,0):=by
 rw[play,if_neg h]
theorem zht {l:List Rule}{left:Nat}{done rest:List Int}{s p:Int}(h:¬rest.length=0)(hk:which l (done++rest) done.length= -1):play l (left+1) done rest s p=play l left (done++rest.take 1) (rest.drop 1) (s+1) p:=by
 rw[play,if_neg h,if_pos (by rw[hk];decide)]
theorem zfu {l:List Rule}{left:Nat}{done rest:List Int}{s p:Int}{j:Nat}{r:Rule}(h:¬rest.length=0)(hk:which l (done++rest) done.length=(j:Int))(hr:l[j]?=some r)(hm:4000<done.length+(restOf r rest).length):play l (left+1) done rest s p=(4,[],0,0):=by
 rw[play,if_neg h,if_neg (by rw[hk];omega),hk,Int.toNat_natCast,hr];simp only[Option.getD_some];rw[if_pos hm]
theorem ze4 {l:List Rule}{left:Nat}{done rest:List Int}{s p:Int}{j:Nat}{r:Rule}(h:¬rest.length=0)(hk:which l (done++rest) done.length=(j:Int))(hr:l[j]?=some r)(hm:¬ 4000<done.length+(restOf r rest).length):play l (left+1) done rest s p=play l left (done++(restOf r rest).take r.cursor.toNat) ((restOf r rest).drop r.cursor.toNat) (s+1) (p+1):=by
 rw[play,if_neg h,if_neg (by rw[hk];omega),hk,Int.toNat_natCast,hr];simp only[Option.getD_some];rw[if_neg hm]
theorem fits {r:Rule}{done rest:List Int}(hE:ruleE r=0)(hm:matchB r (done++rest) done.length=true):r.source.length<=rest.length:=by
 have h:=zhz (zal hE).2.2.2.1 hm;rw[List.length_append] at h;omega
theorem zhs {r:Rule}{rest:List Int}:(restOf r rest).length=r.target.length+(rest.length - r.source.length):=by
 unfold restOf;simp
def runF (l:List Rule) (t:List Int):(List Int×Int×Int)×Int×Int :=
 if (checkF l t).1=0 then ((play l (8*t.length+40) [] t 0 0).2,(play l (8*t.length+40) [] t 0 0).1,0) else (([],0,0),checkF l t)
end K
