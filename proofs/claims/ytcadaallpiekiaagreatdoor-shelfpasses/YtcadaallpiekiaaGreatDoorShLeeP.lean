import Derived.Test.YtcadaallpiekiaaGreatDoorTpComp
namespace Go.Proofs.YtcadaallpiekiaaGreatDoor
namespace Sh
theorem zg2 (x:Int):∀c:List Int,(c.filter (· < x)).length+(c.filter (x< ·)).length<=c.length
 | []=>by simp
 | y::c=>by
  have ih:=zg2 x c;simp only[List.filter_cons,List.length_cons]
  by_cases h1:y<x
  ·have h2:¬x<y:=by omega
   simp[h1,h2];omega
  ·by_cases h2:x<y
   ·simp[h1,h2];omega
   ·simp[h1,h2];omega
theorem rise:∀l:List Int,∃c:List Int,c.Pairwise (· < ·)/\(∀y,y∈c↔y∈l)/\c.length<=l.length:=by
 intro l
 induction l with
 | nil=>exact⟨[],by simp,fun y=>by simp,by simp⟩
 | cons x l ih =>
  obtain⟨c,h1,h2,h5⟩:=ih;refine⟨c.filter (· < x)++x::c.filter (x< ·),?_,fun y=> ?_,?_⟩
  ·rw[List.pairwise_append,List.pairwise_cons];refine⟨h1.filter _,⟨fun a ha=>by simpa using (List.mem_filter.1 ha).2,h1.filter _⟩,fun a ha b hb=> ?_⟩;have ha2:a<x:=by simpa using (List.mem_filter.1 ha).2
   rcases List.mem_cons.1 hb with rfl|hb
   ·exact ha2
   ·have hb2:x<b:=by simpa using (List.mem_filter.1 hb).2
    omega
  ·rw[List.mem_append,List.mem_cons,List.mem_cons,List.mem_filter,List.mem_filter,h2];constructor
   ·rintro (h|h|h)
    ·exact .inr h.1
    ·exact .inl h
    ·exact .inr h.1
   ·rintro (h|h)
    ·exact .inr (.inl h)
    ·rcases Int.lt_trichotomy y x with h3|h3|h3
     ·exact .inl ⟨h,by simpa using h3⟩
     ·exact .inr (.inl h3)
     ·exact .inr (.inr ⟨h,by simpa using h3⟩)
  ·have:=zg2 x c;simp only[List.length_append,List.length_cons];omega
theorem chk {l:List K.Rule}{t:List Int}(hr:(K.rulesF l).1=0)(he:(J.edgesL l).length<=400)(hx:Cn.Tx t):∃o,Gm.Chk l t o/\o.2.1=0:=by
 obtain⟨c,h1,h2,h3⟩:=rise (J.edgesL l);have hc:J.Cuts l c:=⟨h1,h2⟩;exact⟨_,.inr (.inr ⟨hr,Cn.zeb.2 hx,.inr ⟨hr,c,hc,hc.two,.inr ⟨by omega,rfl⟩⟩⟩),rfl⟩
def oneS (l:List K.Rule):V.Script:=⟨false,[],[⟨⟨#[]⟩,l⟩]⟩
theorem zvc {pl:Cn.Pl}(hpl:Cn.PlOk pl){l:List K.Rule}{t x:List Int}{s p:Int}(hr:(K.rulesF l).1=0)(hed:(J.edgesL l).length<=400)(hx:Cn.Tx t)(hp:K.play l (8*t.length+40) [] t 0 0=(0,x,s,p)):Cn.goF pl (oneS l) t=(x,0,0):=by
 obtain⟨o,hc,h0⟩:=chk hr hed hx;have he:(⟨#[]⟩:ByteArray).toList= []:=by decide +kernel
 have hE:Cn.passE ⟨⟨#[]⟩,l⟩=0:=by unfold Cn.passE;rw[if_pos he];exact hr
 have hw:(Cn.wrongF (oneS l)).1=0:=by
  unfold Cn.wrongF oneS;rw[if_neg (by simp),if_neg (by simp)];show (Cn.firstP 0 [⟨⟨#[]⟩,l⟩]).1=0;rw[Cn.firstP,if_pos hE];rfl
 have hply:=hpl.1 _ _ _ _ _ _ _ ⟨o,hc,.inr ⟨h0,hp,rfl⟩⟩
 have hlen:x.length<=4000:=by
  have h1:=hpl.2 l t;rw[hply] at h1;exact h1.1
 unfold Cn.goF;rw[if_pos hw,if_pos (Cn.zeb.2 hx)]
 by_cases hz:t= []
 ·subst hz;rw[K.zdz rfl] at hp;simp only[Prod.mk.injEq] at hp;obtain⟨_,rfl,_⟩:=hp;rfl
 ·have hcut:Cn.cut (Cn.inS (oneS l)) t= [(t,true)]:=by
   have:=Cn.zqt (P:=Cn.inS (oneS l)) (b:= []) (fun r hr=>by cases hr) hz (fun r _=>rfl);rw[List.append_nil] at this;exact this
  have hth:Cn.thru pl 0 [⟨⟨#[]⟩,l⟩] t=(x,0,0):=by
   have hpf:Cn.passF pl ⟨⟨#[]⟩,l⟩ t=(x,0):=by unfold Cn.passF;rw[if_pos he];exact hply
   rw[Cn.thru,hpf,if_pos rfl];rfl
  rw[hcut]
  have hrun:Cn.runP pl (oneS l).passes [(t,true)] []=(x,0,0):=by
   show Cn.runP pl [⟨⟨#[]⟩,l⟩] [(t,true)] []=_;rw[Cn.runP,if_pos rfl,hth,if_pos rfl];rfl
  rw[hrun,if_pos rfl,if_neg (by simp;exact hlen)]
def em (f:List Int->Int->List Int->List Int):List Int->List Int->List Int
 | done,[]=>done
 | done,r::rest=>em f (done++f done r rest) rest
theorem zt8 {l:List K.Rule}{f:List Int->Int->List Int->List Int}{m:Nat}(hm:1<=m)
  (h:∀done r rest,(K.which l (done++r::rest) done.length= -1/\f done r rest= [r])∨∃(j:Nat) (x:K.Rule),K.which l (done++r::rest) done.length=(j:Int)/\l[j]?=some x/\x.source.length=1/\x.cursor=x.target.length/\x.target.length<=m/\f done r rest=x.target) :
  ∀(rest:List Int) (left:Nat) (done:List Int) (s p:Int),rest.length<=left->done.length+m*rest.length<=4000->∃s' p',K.play l left done rest s p=(0,em f done rest,s',p'):=by
 intro rest
 induction rest with
 | nil=>intro left done s p _ _;exact⟨s,p,K.zdz rfl⟩
 | cons r rest ih =>
  intro left done s p hl hd;obtain⟨n,rfl⟩:∃n,left=n+1:=⟨left-1,by simp at hl;omega⟩;rw[List.length_cons,Nat.mul_add,Nat.mul_one] at hd;have hlr:rest.length<=m*rest.length:=Nat.le_mul_of_pos_left _ (by omega);simp only[List.length_cons] at hl;have hne:¬(r::rest).length=0:=by simp
  rcases h done r rest with ⟨h1,h2⟩|⟨j,x,h1,h2,h3,h4,h5,h6⟩
  ·rw[K.zkn hne h1,em,h2];exact ih n (done++ [r]) (s+1) p (by omega) (by simp;omega)
  ·have e:K.restOf x (r::rest)=x.target++rest:=by unfold K.restOf;rw[h3];rfl
   have hc:x.cursor.toNat=x.target.length:=by rw[h4];simp
   rw[K.zhr hne h1 h2 (by rw[e];simp;omega),em,h6,e,hc,List.take_left,List.drop_left];exact ih n (done++x.target) (s+1) (p+1) (by omega) (by simp;omega)
theorem zvq {pl:Cn.Pl}(hpl:Cn.PlOk pl){l:List K.Rule}{f:List Int->Int->List Int->List Int}{m:Nat}(hm:1<=m)(hm4:m<=4)(hr:(K.rulesF l).1=0)(hed:(J.edgesL l).length<=400)
  (h:∀done r rest,(K.which l (done++r::rest) done.length= -1/\f done r rest= [r])∨∃(j:Nat) (x:K.Rule),K.which l (done++r::rest) done.length=(j:Int)/\l[j]?=some x/\x.source.length=1/\x.cursor=x.target.length/\x.target.length<=m/\f done r rest=x.target)
  {t:List Int} (ht:t.length<=1000) (hR:∀z∈t,M.right z=true):Cn.goF pl (oneS l) t=(em f [] t,0,0):=by
 have hb:m*t.length<=4000:=Nat.le_trans (Nat.mul_le_mul hm4 ht) (by omega);obtain⟨s,p,hp⟩:=zt8 hm h t (8*t.length+40) [] 0 0 (by omega) (by simpa using hb);exact zvc hpl hr hed ⟨by omega,by unfold K.allR;rw[List.all_eq_true];exact hR⟩ hp
theorem zu0 (a:List Int)(r:Int)(b:List Int):(a++r::b).getD ((a.length:Int)).toNat 0=r:=by
 rw[Int.toNat_natCast,List.getD_eq_getElem?_getD,List.getElem?_append_right qN];simp
end Sh
namespace Sh
set_option linter.unusedSimpArgs false
def r1 (x:List S.Sp×List Int):K.Rule:=⟨false,false,[],[x.1],[],x.2,x.2.length⟩
def look:List (List S.Sp×List Int)->Int->Option (List Int)
 | [],_=>none
 | x::l,r=>if S.memb x.1 r=true then some x.2 else look l r
def by1 (l:List (List S.Sp×List Int)) (r:Int):List Int:=(look l r).getD [r]
theorem zul (x:List S.Sp×List Int)(done:List Int)(r:Int)(rest:List Int):K.matchB (r1 x) (done++r::rest) done.length=S.memb x.1 r:=by
 have e1:=zu0 done r rest;have e0:(done.length:Int)-((([]:List (List S.Sp)).length:Nat):Int)=(done.length:Int):=by simp
 simp only[K.matchB,r1,e0,List.nil_append,List.append_nil,K.runAt,Bool.and_true,Bool.false_and,Bool.not_false,e1];have h1:decide ((0:Int)<=(done.length:Int))=true:=by simp
 have h2:decide ((done.length:Int)<((done++r::rest).length:Int))=true:=by first|(simp;done)|(simp;omega)
 rw[h1,h2,Bool.true_and,Bool.true_and]
theorem ztp (done:List Int)(r:Int)(rest:List Int):∀(l:List (List S.Sp×List Int)) (i:Nat),(K.whichN (done++r::rest) done.length i (l.map r1)= -1/\look l r=none)∨∃(j:Nat) (x:List S.Sp×List Int),K.whichN (done++r::rest) done.length i (l.map r1)=((i+j:Nat):Int)/\l[j]?=some x/\look l r=some x.2:=by
 intro l
 induction l with
 | nil=>intro i;exact .inl ⟨rfl,rfl⟩
 | cons x l ih =>
  intro i;rw[List.map_cons,K.whichN,zul,look]
  by_cases h:S.memb x.1 r=true
  ·rw[if_pos h,if_pos h];exact .inr ⟨0,x,rfl,rfl,rfl⟩
  ·rw[if_neg h,if_neg h];rcases ih (i+1) with ⟨h1,h2⟩|⟨j,y,h1,h2,h3⟩
   ·exact .inl ⟨h1,h2⟩
   ·exact .inr ⟨j+1,y,by rw[h1];congr 1;omega,by simpa using h2,h3⟩
theorem zvt (f:Int->List Int):∀(rest done:List Int),em (fun _ r _=>f r) done rest=done++rest.flatMap f:=by
 intro rest
 induction rest with
 | nil=>intro done;simp[em]
 | cons r rest ih=>intro done;rw[em,ih,List.flatMap_cons,List.append_assoc]
theorem zvr {pl:Cn.Pl}(hpl:Cn.PlOk pl){l:List (List S.Sp×List Int)}(hr:(K.rulesF (l.map r1)).1=0)(hed:(J.edgesL (l.map r1)).length<=400)(hl:∀x∈l,x.2.length<=4)
  {t:List Int} (ht:t.length<=1000) (hR:∀z∈t,M.right z=true):Cn.goF pl (oneS (l.map r1)) t=(t.flatMap (by1 l),0,0):=by
 have h:=zvq hpl (l:=l.map r1) (f:=fun _ r _=>by1 l r) (m:=4) (by omega) (by omega) hr hed (fun done r rest=> ?_) ht hR
 ·rw[h,zvt];rfl
 ·rcases ztp done r rest l 0 with ⟨h1,h2⟩|⟨j,x,h1,h2,h3⟩
  ·exact .inl ⟨h1,by unfold by1;rw[h2];rfl⟩
  ·refine .inr ⟨j,r1 x,by unfold K.which;rw[h1,Nat.zero_add],by rw[List.getElem?_map,h2];rfl,rfl,rfl,hl x (List.mem_of_getElem? h2),by unfold by1;rw[h3];rfl⟩
/- german -/
def gmL:List (List S.Sp×List Int):= [([(228,228)],[97,101]),([(246,246)],[111,101]),([(252,252)],[117,101]),([(223,223)],[115,115]),([(196,196)],[65,101]),([(214,214)],[79,101]),([(220,220)],[85,101])]
/- rovar -/
def rvC:List Int:= [98,99,100,102,103,104,106,107,108,109,110,112,113,114,115,116,118,119,120,122]
def rvL:List (List S.Sp×List Int):=rvC.map fun c=>([(c,c)],[c,111,c])
/- vowels -/
def vwS:List S.Sp:= [(65,65),(69,69),(73,73),(79,79),(85,85),(97,97),(101,101),(105,105),(111,111),(117,117)]
def vwC:List Int:= [65,69,73,79,85,97,101,105,111,117]
def vwL:List (List S.Sp×List Int):= [(vwS,[])]
theorem go_g {pl:Cn.Pl}(hpl:Cn.PlOk pl){t:List Int}(ht:t.length<=1000)(hR:∀z∈t,M.right z=true):Cn.goF pl (oneS (gmL.map r1)) t=(t.flatMap (by1 gmL),0,0):=zvr hpl (by decide +kernel) (by decide +kernel) (by decide) ht hR
end Sh
section
open Go.RowKit
def oneR (n c b1 b2 b3:Nat):Nat×Nat:=if M.bad (Lib.decodeN n c b1 b2 b3) then (0,0) else Lib.decodeN n c b1 b2 b3
theorem zpa {x:Int}(h:M.right x=true):0<=x/\x<=1114111/\(x<55296∨57343<x):=by unfold M.right at h;exact of_decide_eq_true h
theorem ends {n c b1 b2 b3 x y:Nat}{X Y:Int}(h:oneR n c b1 b2 b3=(x,y))(hx:X=(x:Int))(hy:Y=(y:Int)):X=((oneR n c b1 b2 b3).1:Int)/\Y=((oneR n c b1 b2 b3).2:Int):=by
 rw[h];exact⟨hx,hy⟩
variable {n c b1 b2 b3:Nat}
end
namespace Sh
def ltL:List (List S.Sp×List Int):= [([(97,97)],[52]),([(101,101)],[51]),([(105,105)],[49]),([(111,111)],[48]),([(115,115)],[53]),([(116,116)],[55])]
def lowerS (l:List K.Rule):V.Script:=⟨false,[],[⟨⟨#[108,111,119,101,114]⟩,[]⟩,⟨⟨#[]⟩,l⟩]⟩
theorem zi3 {r:Int}(h:M.right r=true):M.right (Cn.low r)=true:=by
 have h1:=zpa h;unfold Cn.low;split
 ·rename_i h2
  unfold Cn.lessF at h2;unfold M.right;rw[decide_eq_true_eq]
  repeat' split at h2
  all_goals omega
 ·split
  ·rename_i h2
   unfold Cn.lessF at h2;unfold M.right;rw[decide_eq_true_eq]
   repeat' split at h2
   all_goals omega
  ·exact h
end Sh
