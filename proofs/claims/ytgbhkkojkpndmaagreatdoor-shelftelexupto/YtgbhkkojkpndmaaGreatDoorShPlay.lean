/-
 Rules of one rune each over a text: what comes of it, rune by rune. Plain lists.
-/
import Derived.Test.YtgbhkkojkpndmaaGreatDoorTpComp
namespace Go.Proofs.YtgbhkkojkpndmaaGreatDoor.Sh
theorem zf9 (x:Int):∀c:List Int,(c.filter (· < x)).length+(c.filter (x< ·)).length<=c.length
 | []=>by simp
 | y::c=>by
  have ih:=zf9 x c;simp only[List.filter_cons,List.length_cons]
  by_cases h1:y<x
  ·have h2:¬x<y:=by omega
   simp[h1,h2];omega
  ·by_cases h2:x<y
   ·simp[h1,h2];omega
   ·simp[h1,h2];omega
theorem rise:∀l:List Int,∃c:List Int,c.Pairwise (· < ·)/\(∀y,y∈c↔y∈l)/\c.length<=l.length:=by
 intro l
 induction l with
 | nil=>exact⟨[],by simp,fun y=>by simp,by simp⟩
 | cons x l ih =>
  obtain⟨c,h1,h2,h5⟩:=ih;refine⟨c.filter (· < x)++x::c.filter (x< ·),?_,fun y=> ?_,?_⟩
  ·rw[List.pairwise_append,List.pairwise_cons];refine⟨h1.filter _,⟨fun a ha=>by simpa using (List.mem_filter.1 ha).2,h1.filter _⟩,fun a ha b hb=> ?_⟩;have ha2:a<x:=by simpa using (List.mem_filter.1 ha).2
   rcases List.mem_cons.1 hb with rfl | hb
   ·exact ha2
   ·have hb2:x<b:=by simpa using (List.mem_filter.1 hb).2
    omega
  ·rw[List.mem_append,List.mem_cons,List.mem_cons,List.mem_filter,List.mem_filter,h2];constructor
   ·rintro (h | h | h)
    ·exact .inr h.1
    ·exact .inl h
    ·exact .inr h.1
   ·rintro (h | h)
    ·exact .inr (.inl h)
    ·rcases Int.lt_trichotomy y x with h3 | h3 | h3
     ·exact .inl ⟨h,by simpa using h3⟩
     ·exact .inr (.inl h3)
     ·exact .inr (.inr ⟨h,by simpa using h3⟩)
  ·have:=zf9 x c;simp only[List.length_append,List.length_cons];omega
theorem chk {l:List K.Rule}{t:List Int}(hr:(K.rulesF l).1=0)(he:(J.edgesL l).length<=400)(hx:Cn.Tx t):∃o,Gm.Chk l t o/\o.2.1=0:=by
 obtain⟨c,h1,h2,h3⟩:=rise (J.edgesL l);have hc:J.Cuts l c:=⟨h1,h2⟩;exact⟨_,.inr (.inr ⟨hr,Cn.zeo.2 hx,.inr ⟨hr,c,hc,hc.two,.inr ⟨by omega,rfl⟩⟩⟩),rfl⟩
def oneS (l:List K.Rule):V.Script:=⟨false,[],[⟨⟨#[]⟩,l⟩]⟩
theorem zst {pl:Cn.Pl}(hpl:Cn.PlOk pl){l:List K.Rule}{t x:List Int}{s p:Int}(hr:(K.rulesF l).1=0)(hed:(J.edgesL l).length<=400)(hx:Cn.Tx t)(hp:K.play l (8*t.length+40) [] t 0 0=(0,x,s,p)):Cn.goF pl (oneS l) t=(x,0,0):=by
 obtain⟨o,hc,h0⟩:=chk hr hed hx;have he:(⟨#[]⟩:ByteArray).toList= []:=by decide +kernel
 have hE:Cn.passE ⟨⟨#[]⟩,l⟩=0:=by unfold Cn.passE;rw[if_pos he];exact hr
 have hw:(Cn.wrongF (oneS l)).1=0:=by
  unfold Cn.wrongF oneS;rw[if_neg (by simp),if_neg (by simp)];show (Cn.firstP 0 [⟨⟨#[]⟩,l⟩]).1=0;rw[Cn.firstP,if_pos hE];rfl
 have hply:=hpl.1 _ _ _ _ _ _ _ ⟨o,hc,.inr ⟨h0,hp,rfl⟩⟩
 have hlen:x.length<=4000:=by
  have h1:=hpl.2 l t;rw[hply] at h1;exact h1.1
 unfold Cn.goF;rw[if_pos hw,if_pos (Cn.zeo.2 hx)]
 by_cases hz:t= []
 ·subst hz;rw[K.zdl rfl] at hp;simp only[Prod.mk.injEq] at hp;obtain⟨_,rfl,_⟩:=hp;rfl
 ·have hcut:Cn.cut (Cn.inS (oneS l)) t= [(t,true)]:=by
   have:=Cn.zkk (P:=Cn.inS (oneS l)) (b:= []) (fun r hr=>by cases hr) hz (fun r _=>rfl);rw[List.append_nil] at this;exact this
  have hth:Cn.thru pl 0 [⟨⟨#[]⟩,l⟩] t=(x,0,0):=by
   have hpf:Cn.passF pl ⟨⟨#[]⟩,l⟩ t=(x,0):=by unfold Cn.passF;rw[if_pos he];exact hply
   rw[Cn.thru,hpf,if_pos rfl];rfl
  rw[hcut]
  have hrun:Cn.runP pl (oneS l).passes [(t,true)] []=(x,0,0):=by
   show Cn.runP pl [⟨⟨#[]⟩,l⟩] [(t,true)] []=_;rw[Cn.runP,if_pos rfl,hth,if_pos rfl];rfl
  rw[hrun,if_pos rfl,if_neg (by simp;exact hlen)]
def em (f:List Int->Int->List Int->List Int):List Int->List Int->List Int
 | done,[]=>done
 | done,r::rest=>em f (done++f done r rest) rest
theorem znp {l:List K.Rule}{f:List Int->Int->List Int->List Int}{m:Nat}(hm:1<=m)
  (h:∀done r rest,(K.which l (done++r::rest) done.length= -1/\f done r rest= [r])∨∃(j:Nat) (x:K.Rule),K.which l (done++r::rest) done.length=(j:Int)/\l[j]?=some x/\x.source.length=1/\x.cursor=x.target.length/\x.target.length<=m/\f done r rest=x.target) :
  ∀(rest:List Int) (left:Nat) (done:List Int) (s p:Int),rest.length<=left->done.length+m*rest.length<=4000->∃s' p',K.play l left done rest s p=(0,em f done rest,s',p'):=by
 intro rest
 induction rest with
 | nil=>intro left done s p _ _;exact⟨s,p,K.zdl rfl⟩
 | cons r rest ih =>
  intro left done s p hl hd;obtain⟨n,rfl⟩:∃n,left=n+1:=⟨left - 1,by simp at hl;omega⟩;rw[List.length_cons,Nat.mul_add,Nat.mul_one] at hd;have hlr:rest.length<=m*rest.length:=Nat.le_mul_of_pos_left _ (by omega);simp only[List.length_cons] at hl;have hne:¬(r::rest).length=0:=by simp
  rcases h done r rest with ⟨h1,h2⟩|⟨j,x,h1,h2,h3,h4,h5,h6⟩
  ·rw[K.znn hne h1,em,h2];exact ih n (done++ [r]) (s+1) p (by omega) (by simp;omega)
  ·have e:K.restOf x (r::rest)=x.target++rest:=by unfold K.restOf;rw[h3];rfl
   have hc:x.cursor.toNat=x.target.length:=by rw[h4];simp
   rw[K.zj5 hne h1 h2 (by rw[e];simp;omega),em,h6,e,hc,List.take_left,List.drop_left];exact ih n (done++x.target) (s+1) (p+1) (by omega) (by simp;omega)
theorem zs6 {pl:Cn.Pl}(hpl:Cn.PlOk pl){l:List K.Rule}{f:List Int->Int->List Int->List Int}{m:Nat}(hm:1<=m)(hm4:m<=4)(hr:(K.rulesF l).1=0)(hed:(J.edgesL l).length<=400)
  (h:∀done r rest,(K.which l (done++r::rest) done.length= -1/\f done r rest= [r])∨∃(j:Nat) (x:K.Rule),K.which l (done++r::rest) done.length=(j:Int)/\l[j]?=some x/\x.source.length=1/\x.cursor=x.target.length/\x.target.length<=m/\f done r rest=x.target)
  {t:List Int} (ht:t.length<=1000) (hR:∀z∈t,M.right z=true):Cn.goF pl (oneS l) t=(em f [] t,0,0):=by
 have hb:m*t.length<=4000:=Nat.le_trans (Nat.mul_le_mul hm4 ht) (by omega);obtain⟨s,p,hp⟩:=znp hm h t (8*t.length+40) [] 0 0 (by omega) (by simpa using hb);exact zst hpl hr hed ⟨by omega,by unfold K.allR;rw[List.all_eq_true];exact hR⟩ hp
theorem zsf (a:List Int)(r:Int)(b:List Int):(a++r::b).getD ((a.length:Int)).toNat 0=r:=by
 rw[Int.toNat_natCast,List.getD_eq_getElem?_getD,List.getElem?_append_right qN];simp
end Go.Proofs.YtgbhkkojkpndmaaGreatDoor.Sh
