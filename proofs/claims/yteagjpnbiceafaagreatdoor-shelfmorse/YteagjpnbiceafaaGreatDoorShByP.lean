/-
 There are heads of any right rules: plain lists.
-/
import Derived.Test.YteagjpnbiceafaaGreatDoorCnPass
set_option linter.unusedSimpArgs false
namespace Go.Proofs.YteagjpnbiceafaaGreatDoor.Cn
theorem rise:∀l:List Int,∃c:List Int,c.Pairwise (· < ·)/\∀y,y∈c↔y∈l:=by
 intro l
 induction l with
 | nil=>exact⟨[],by simp,fun y=>by simp⟩
 | cons x l ih =>
  obtain⟨c,h1,h2⟩:=ih;refine⟨c.filter (· < x)++x::c.filter (x< ·),?_,fun y=> ?_⟩
  ·rw[List.pairwise_append,List.pairwise_cons];refine⟨h1.filter _,⟨fun a ha=>by simpa using (List.mem_filter.1 ha).2,h1.filter _⟩,fun a ha b hb=> ?_⟩;have ha2:a<x:=by simpa using (List.mem_filter.1 ha).2
   rcases List.mem_cons.1 hb with rfl | hb
   ·exact ha2
   ·have hb2:x<b:=by simpa using (List.mem_filter.1 hb).2
    omega
  ·rw[List.mem_append,List.mem_cons,List.mem_cons,List.mem_filter,List.mem_filter,h2];constructor
   ·rintro (h | h | h)
    ·exact .inr h.1
    ·exact .inl h
    ·exact .inr h.1
   ·rintro (h | h)
    ·exact .inr (.inl h)
    ·rcases Int.lt_trichotomy y x with h3 | h3 | h3
     ·exact .inl ⟨h,by simpa using h3⟩
     ·exact .inr (.inl h3)
     ·exact .inr (.inr ⟨h,by simpa using h3⟩)
end Go.Proofs.YteagjpnbiceafaaGreatDoor.Cn
namespace Go.Proofs.YteagjpnbiceafaaGreatDoor.Sh
theorem zf1 (x:Int):∀c:List Int,(c.filter (· < x)).length+(c.filter (x< ·)).length<=c.length
 | []=>by simp
 | y::c=>by
  have ih:=zf1 x c;simp only[List.filter_cons,List.length_cons]
  by_cases h1:y<x
  ·have h2:¬x<y:=by omega
   simp[h1,h2];omega
  ·by_cases h2:x<y
   ·simp[h1,h2];omega
   ·simp[h1,h2];omega
theorem rise:∀l:List Int,∃c:List Int,c.Pairwise (· < ·)/\(∀y,y∈c↔y∈l)/\c.length<=l.length:=by
 intro l
 induction l with
 | nil=>exact⟨[],by simp,fun y=>by simp,by simp⟩
 | cons x l ih =>
  obtain⟨c,h1,h2,h5⟩:=ih;refine⟨c.filter (· < x)++x::c.filter (x< ·),?_,fun y=> ?_,?_⟩
  ·rw[List.pairwise_append,List.pairwise_cons];refine⟨h1.filter _,⟨fun a ha=>by simpa using (List.mem_filter.1 ha).2,h1.filter _⟩,fun a ha b hb=> ?_⟩;have ha2:a<x:=by simpa using (List.mem_filter.1 ha).2
   rcases List.mem_cons.1 hb with rfl | hb
   ·exact ha2
   ·have hb2:x<b:=by simpa using (List.mem_filter.1 hb).2
    omega
  ·rw[List.mem_append,List.mem_cons,List.mem_cons,List.mem_filter,List.mem_filter,h2];constructor
   ·rintro (h | h | h)
    ·exact .inr h.1
    ·exact .inl h
    ·exact .inr h.1
   ·rintro (h | h)
    ·exact .inr (.inl h)
    ·rcases Int.lt_trichotomy y x with h3 | h3 | h3
     ·exact .inl ⟨h,by simpa using h3⟩
     ·exact .inr (.inl h3)
     ·exact .inr (.inr ⟨h,by simpa using h3⟩)
  ·have:=zf1 x c;simp only[List.length_append,List.length_cons];omega
theorem chk {l:List K.Rule}{t:List Int}(hr:(K.rulesF l).1=0)(he:(J.edgesL l).length<=400)(hx:Cn.Tx t):∃o,Gm.Chk l t o/\o.2.1=0:=by
 obtain⟨c,h1,h2,h3⟩:=rise (J.edgesL l);have hc:J.Cuts l c:=⟨h1,h2⟩;exact⟨_,.inr (.inr ⟨hr,Cn.zgd.2 hx,.inr ⟨hr,c,hc,hc.two,.inr ⟨by omega,rfl⟩⟩⟩),rfl⟩
def oneS (l:List K.Rule):V.Script:=⟨false,[],[⟨⟨#[]⟩,l⟩]⟩
theorem zri {pl:Cn.Pl}(hpl:Cn.PlOk pl){l:List K.Rule}{t x:List Int}{s p:Int}(hr:(K.rulesF l).1=0)(hed:(J.edgesL l).length<=400)(hx:Cn.Tx t)(hp:K.play l (8*t.length+40) [] t 0 0=(0,x,s,p)):Cn.goF pl (oneS l) t=(x,0,0):=by
 obtain⟨o,hc,h0⟩:=chk hr hed hx;have he:(⟨#[]⟩:ByteArray).toList= []:=by decide +kernel
 have hE:Cn.passE ⟨⟨#[]⟩,l⟩=0:=by unfold Cn.passE;rw[if_pos he];exact hr
 have hw:(Cn.wrongF (oneS l)).1=0:=by
  unfold Cn.wrongF oneS;rw[if_neg (by simp),if_neg (by simp)];show (Cn.firstP 0 [⟨⟨#[]⟩,l⟩]).1=0;rw[Cn.firstP,if_pos hE];rfl
 have hply:=hpl.1 _ _ _ _ _ _ _ ⟨o,hc,.inr ⟨h0,hp,rfl⟩⟩
 have hlen:x.length<=4000:=by
  have h1:=hpl.2 l t;rw[hply] at h1;exact h1.1
 unfold Cn.goF;rw[if_pos hw,if_pos (Cn.zgd.2 hx)]
 by_cases hz:t= []
 ·subst hz;rw[K.zck rfl] at hp;simp only[Prod.mk.injEq] at hp;obtain⟨_,rfl,_⟩:=hp;rfl
 ·have hcut:Cn.cut (Cn.inS (oneS l)) t= [(t,true)]:=by
   have:=Cn.zoz (P:=Cn.inS (oneS l)) (b:= []) (fun r hr=>by cases hr) hz (fun r _=>rfl);rw[List.append_nil] at this;exact this
  have hth:Cn.thru pl 0 [⟨⟨#[]⟩,l⟩] t=(x,0,0):=by
   have hpf:Cn.passF pl ⟨⟨#[]⟩,l⟩ t=(x,0):=by unfold Cn.passF;rw[if_pos he];exact hply
   rw[Cn.thru,hpf,if_pos rfl];rfl
  rw[hcut]
  have hrun:Cn.runP pl (oneS l).passes [(t,true)] []=(x,0,0):=by
   show Cn.runP pl [⟨⟨#[]⟩,l⟩] [(t,true)] []=_;rw[Cn.runP,if_pos rfl,hth,if_pos rfl];rfl
  rw[hrun,if_pos rfl,if_neg (by simp;exact hlen)]
def em (f:List Int->Int->List Int->List Int):List Int->List Int->List Int
 | done,[]=>done
 | done,r::rest=>em f (done++f done r rest) rest
theorem zr9 {l:List K.Rule}{f:List Int->Int->List Int->List Int}{m:Nat}(hm:1<=m)
  (h:∀done r rest,(K.which l (done++r::rest) done.length= -1/\f done r rest= [r])∨∃(j:Nat) (x:K.Rule),K.which l (done++r::rest) done.length=(j:Int)/\l[j]?=some x/\x.source.length=1/\x.cursor=x.target.length/\x.target.length<=m/\f done r rest=x.target) :
  ∀(rest:List Int) (left:Nat) (done:List Int) (s p:Int),rest.length<=left->done.length+m*rest.length<=4000->∃s' p',K.play l left done rest s p=(0,em f done rest,s',p'):=by
 intro rest
 induction rest with
 | nil=>intro left done s p _ _;exact⟨s,p,K.zck rfl⟩
 | cons r rest ih =>
  intro left done s p hl hd;obtain⟨n,rfl⟩:∃n,left=n+1:=⟨left - 1,by simp at hl;omega⟩;rw[List.length_cons,Nat.mul_add,Nat.mul_one] at hd;have hlr:rest.length<=m*rest.length:=Nat.le_mul_of_pos_left _ (by omega);simp only[List.length_cons] at hl;have hne:¬(r::rest).length=0:=by simp
  rcases h done r rest with ⟨h1,h2⟩|⟨j,x,h1,h2,h3,h4,h5,h6⟩
  ·rw[K.zi1 hne h1,em,h2];exact ih n (done++ [r]) (s+1) p (by omega) (by simp;omega)
  ·have e:K.restOf x (r::rest)=x.target++rest:=by unfold K.restOf;rw[h3];rfl
   have hc:x.cursor.toNat=x.target.length:=by rw[h4];simp
   rw[K.zgo hne h1 h2 (by rw[e];simp;omega),em,h6,e,hc,List.take_left,List.drop_left];exact ih n (done++x.target) (s+1) (p+1) (by omega) (by simp;omega)
theorem zsy (a:List Int)(r:Int)(b:List Int):(a++r::b).getD ((a.length:Int)).toNat 0=r:=by
 rw[Int.toNat_natCast,List.getD_eq_getElem?_getD,List.getElem?_append_right qN];simp
end Go.Proofs.YteagjpnbiceafaaGreatDoor.Sh
namespace Go.Proofs.YteagjpnbiceafaaGreatDoor.Sh
abbrev Sr:=List Int×List Int
def rl (x:Sr):K.Rule:=⟨false,false,[],x.1.map fun c=> [(c,c)],[],x.2,x.2.length⟩
def pfx (l:List Sr) (t:List Int):Option Sr:=l.find? fun x=>x.1.isPrefixOf t
def sc (l:List Sr):Nat->List Int->List Int
 | 0,t=>t
 | _+1,[]=> []
 | n+1,r::t=>match pfx l (r::t) with
  | some x=>x.2++sc l n ((r::t).drop x.1.length)
  | none=>r::sc l n t
theorem znj (done rest:List Int):∀(src:List Int) (i:Nat),K.runAt (done++rest) ((done.length:Int)+(i:Nat)) (src.map fun c=> [(c,c)])=src.isPrefixOf (rest.drop i):=by
 intro src
 induction src with
 | nil=>intro i;simp[K.runAt]
 | cons c src ih =>
  intro i;have e:(done.length:Int)+(i:Nat)+1=(done.length:Int)+((i+1:Nat):Int):=by omega
  have em:∀z:Int,S.memb [(c,c)] z=decide (z=c):=fun z=>by simp[S.memb];rw[Bool.eq_iff_iff];simp;omega
  rw[List.map_cons,K.runAt,e,ih,em];have h1:decide ((0:Int)<=(done.length:Int)+(i:Nat))=true:=by simp;omega
  have h3:((done.length:Int)+(i:Nat)).toNat=done.length+i:=by omega
  rw[h1,h3,Bool.true_and]
  by_cases hi:i<rest.length
  ·have h2:decide ((done.length:Int)+(i:Nat)<((done++rest).length:Int))=true:=by simp;omega
   have h4:(done++rest).getD (done.length+i) 0=rest[i]:=by
    rw[List.getD_eq_getElem?_getD,List.getElem?_append_right (by omega),Nat.add_sub_cancel_left];simp[hi]
   rw[h2,h4,Bool.true_and,List.drop_eq_getElem_cons hi,List.isPrefixOf];congr 1;rw[Bool.eq_iff_iff];simp;exact eq_comm
  ·have h2:decide ((done.length:Int)+(i:Nat)<((done++rest).length:Int))=false:=by simp;omega
   have h5:rest.drop i= []:=List.drop_eq_nil_of_le (by omega);rw[h2,h5];simp[List.isPrefixOf]
theorem zqg (x:Sr)(done rest:List Int):K.matchB (rl x) (done++rest) done.length=x.1.isPrefixOf rest:=by
 have h:=znj done rest x.1 0;have e0:(done.length:Int) - ((([]:List (List S.Sp)).length:Nat):Int)=(done.length:Int)+((0:Nat):Int):=by simp
 simp only[K.matchB,rl,List.nil_append,List.append_nil,Bool.false_and,Bool.not_false,Bool.and_true];rw[e0,h,List.drop_zero]
theorem zpl (done rest:List Int):∀(l:List Sr) (i:Nat),(K.whichN (done++rest) done.length i (l.map rl)= -1/\pfx l rest=none)∨∃(j:Nat) (x:Sr),K.whichN (done++rest) done.length i (l.map rl)=((i+j:Nat):Int)/\l[j]?=some x/\pfx l rest=some x:=by
 intro l
 induction l with
 | nil=>intro i;exact .inl ⟨rfl,rfl⟩
 | cons x l ih =>
  intro i;rw[List.map_cons,K.whichN,zqg];unfold pfx;rw[List.find?_cons]
  by_cases h:x.1.isPrefixOf rest=true
  ·rw[if_pos h,h];exact .inr ⟨0,x,rfl,rfl,rfl⟩
  ·have h':x.1.isPrefixOf rest=false:=Bool.eq_false_iff.2 h;rw[if_neg h,h'];rcases ih (i+1) with ⟨h1,h2⟩|⟨j,y,h1,h2,h3⟩
   ·exact .inl ⟨h1,h2⟩
   ·exact .inr ⟨j+1,y,by rw[h1];congr 1;omega,by simpa using h2,h3⟩
theorem zsc {l:List Sr}{t:List Int}{x:Sr}(h:pfx l t=some x):x∈l/\x.1.length<=t.length:=by
 have h1:=List.mem_of_find?_eq_some h;have h2:=List.find?_some h;exact⟨h1,(List.isPrefixOf_iff_prefix.1 h2).length_le⟩
theorem zr8 {l:List Sr}(hl:∀x∈l,1<=x.1.length/\x.2.length<=x.1.length):∀(left:Nat) (rest done:List Int) (s p:Int),rest.length<=left->done.length+rest.length<=4000->∃s' p',K.play (l.map rl) left done rest s p=(0,done++sc l left rest,s',p'):=by
 intro left
 induction left with
 | zero =>
  intro rest done s p h _;obtain rfl:=List.eq_nil_of_length_eq_zero (Nat.le_zero.1 h);exact⟨s,p,by rw[K.zck rfl];simp[sc]⟩
 | succ n ih =>
  intro rest done s p hlen hd;cases rest with
  | nil=>exact⟨s,p,by rw[K.zck rfl];simp[sc]⟩
  | cons r rest =>
   have hne:¬(r::rest).length=0:=by simp
   simp only[List.length_cons] at hlen hd;rcases zpl done (r::rest) l 0 with ⟨h1,h2⟩|⟨j,x,h1,h2,h3⟩
   ·rw[K.zi1 hne h1];obtain⟨s',p',h⟩:=ih rest (done++ [r]) (s+1) p (by omega) (by simp;omega);refine⟨s',p',?_⟩;show K.play _ n (done++ [r]) rest (s+1) p=_;rw[h,sc,h2,List.append_assoc];rfl
   ·obtain⟨hm,hx⟩:=zsc h3;obtain⟨hx1,hx2⟩:=hl x hm;have h1':K.which (l.map rl) (done++r::rest) done.length=(j:Int):=by unfold K.which;rw[h1,Nat.zero_add]
    have h2':(l.map rl)[j]?=some (rl x):=by rw[List.getElem?_map,h2];rfl
    have e:K.restOf (rl x) (r::rest)=x.2++(r::rest).drop x.1.length:=by unfold K.restOf rl;simp
    have hc:(rl x).cursor.toNat=x.2.length:=by simp[rl]
    have hdl:((r::rest).drop x.1.length).length=rest.length+1 - x.1.length:=by simp
    simp only[List.length_cons] at hx;rw[K.zgo hne h1' h2' (by rw[e,List.length_append,hdl];omega),e,hc,List.take_left,List.drop_left];obtain⟨s',p',h⟩:=ih ((r::rest).drop x.1.length) (done++x.2) (s+1) (p+1) (by rw[hdl];omega) (by rw[hdl,List.length_append];omega);refine⟨s',p',?_⟩;rw[h,sc,h3,List.append_assoc]
end Go.Proofs.YteagjpnbiceafaaGreatDoor.Sh
namespace Go.Proofs.YteagjpnbiceafaaGreatDoor.Sh
def r1 (x:List S.Sp×List Int):K.Rule:=⟨false,false,[],[x.1],[],x.2,x.2.length⟩
def look:List (List S.Sp×List Int)->Int->Option (List Int)
 | [],_=>none
 | x::l,r=>if S.memb x.1 r=true then some x.2 else look l r
def by1 (l:List (List S.Sp×List Int)) (r:Int):List Int:=(look l r).getD [r]
theorem zsk (x:List S.Sp×List Int)(done:List Int)(r:Int)(rest:List Int):K.matchB (r1 x) (done++r::rest) done.length=S.memb x.1 r:=by
 have e1:=zsy done r rest;have e0:(done.length:Int) - ((([]:List (List S.Sp)).length:Nat):Int)=(done.length:Int):=by simp
 simp only[K.matchB,r1,e0,List.nil_append,List.append_nil,K.runAt,Bool.and_true,Bool.false_and,Bool.not_false,e1];have h1:decide ((0:Int)<=(done.length:Int))=true:=by simp
 have h2:decide ((done.length:Int)<((done++r::rest).length:Int))=true:=by first | (simp;done) | (simp;omega)
 rw[h1,h2,Bool.true_and,Bool.true_and]
theorem zrr (done:List Int)(r:Int)(rest:List Int):∀(l:List (List S.Sp×List Int)) (i:Nat),(K.whichN (done++r::rest) done.length i (l.map r1)= -1/\look l r=none)∨∃(j:Nat) (x:List S.Sp×List Int),K.whichN (done++r::rest) done.length i (l.map r1)=((i+j:Nat):Int)/\l[j]?=some x/\look l r=some x.2:=by
 intro l
 induction l with
 | nil=>intro i;exact .inl ⟨rfl,rfl⟩
 | cons x l ih =>
  intro i;rw[List.map_cons,K.whichN,zsk,look]
  by_cases h:S.memb x.1 r=true
  ·rw[if_pos h,if_pos h];exact .inr ⟨0,x,rfl,rfl,rfl⟩
  ·rw[if_neg h,if_neg h];rcases ih (i+1) with ⟨h1,h2⟩|⟨j,y,h1,h2,h3⟩
   ·exact .inl ⟨h1,h2⟩
   ·exact .inr ⟨j+1,y,by rw[h1];congr 1;omega,by simpa using h2,h3⟩
theorem zts (f:Int->List Int):∀(rest done:List Int),em (fun _ r _=>f r) done rest=done++rest.flatMap f:=by
 intro rest
 induction rest with
 | nil=>intro done;simp[em]
 | cons r rest ih=>intro done;rw[em,ih,List.flatMap_cons,List.append_assoc]
/- german -/
def gmL:List (List S.Sp×List Int):= [([(228,228)],[97,101]),([(246,246)],[111,101]),([(252,252)],[117,101]),([(223,223)],[115,115]),([(196,196)],[65,101]),([(214,214)],[79,101]),([(220,220)],[85,101])]
/- rovar -/
def rvC:List Int:= [98,99,100,102,103,104,106,107,108,109,110,112,113,114,115,116,118,119,120,122]
def rvL:List (List S.Sp×List Int):=rvC.map fun c=>([(c,c)],[c,111,c])
/- vowels -/
def vwS:List S.Sp:= [(65,65),(69,69),(73,73),(79,79),(85,85),(97,97),(101,101),(105,105),(111,111),(117,117)]
def vwC:List Int:= [65,69,73,79,85,97,101,105,111,117]
def vwL:List (List S.Sp×List Int):= [(vwS,[])]
end Go.Proofs.YteagjpnbiceafaaGreatDoor.Sh
