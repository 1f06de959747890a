/-
 Rules of one rune each over a text: what comes of it, rune by rune. Plain lists.
-/
import Derived.Test.YtdfjokdknanlfaaGreatDoorTpComp
import Derived.Test.YtdfjokdknanlfaaGreatDoorShOneA
import Derived.Test.YtdfjokdknanlfaaGreatDoorRName
import Derived.Laws.Concat
set_option maxHeartbeats 0
namespace Go.Proofs.YtdfjokdknanlfaaGreatDoor.Sh
theorem zf1 (x:Int):∀c:List Int,(c.filter (· < x)).length+(c.filter (x< ·)).length<=c.length
 | []=>by simp
 | y::c=>by
  have ih:=zf1 x c;simp only[List.filter_cons,List.length_cons]
  by_cases h1:y<x
  ·have h2:¬x<y:=by omega
   simp[h1,h2];omega
  ·by_cases h2:x<y
   ·simp[h1,h2];omega
   ·simp[h1,h2];omega
theorem rise:∀l:List Int,∃c:List Int,c.Pairwise (· < ·)/\(∀y,y∈c↔y∈l)/\c.length<=l.length:=by
 intro l
 induction l with
 | nil=>exact⟨[],by simp,fun y=>by simp,by simp⟩
 | cons x l ih =>
  obtain⟨c,h1,h2,h5⟩:=ih;refine⟨c.filter (· < x)++x::c.filter (x< ·),?_,fun y=> ?_,?_⟩
  ·rw[List.pairwise_append,List.pairwise_cons];refine⟨h1.filter _,⟨fun a ha=>by simpa using (List.mem_filter.1 ha).2,h1.filter _⟩,fun a ha b hb=> ?_⟩;have ha2:a<x:=by simpa using (List.mem_filter.1 ha).2
   rcases List.mem_cons.1 hb with rfl | hb
   ·exact ha2
   ·have hb2:x<b:=by simpa using (List.mem_filter.1 hb).2
    omega
  ·rw[List.mem_append,List.mem_cons,List.mem_cons,List.mem_filter,List.mem_filter,h2];constructor
   ·rintro (h | h | h)
    ·exact .inr h.1
    ·exact .inl h
    ·exact .inr h.1
   ·rintro (h | h)
    ·exact .inr (.inl h)
    ·rcases Int.lt_trichotomy y x with h3 | h3 | h3
     ·exact .inl ⟨h,by simpa using h3⟩
     ·exact .inr (.inl h3)
     ·exact .inr (.inr ⟨h,by simpa using h3⟩)
  ·have:=zf1 x c;simp only[List.length_append,List.length_cons];omega
theorem chk {l:List K.Rule}{t:List Int}(hr:(K.rulesF l).1=0)(he:(J.edgesL l).length<=400)(hx:Cn.Tx t):∃o,Gm.Chk l t o/\o.2.1=0:=by
 obtain⟨c,h1,h2,h3⟩:=rise (J.edgesL l);have hc:J.Cuts l c:=⟨h1,h2⟩;exact⟨_,.inr (.inr ⟨hr,Cn.zgc.2 hx,.inr ⟨hr,c,hc,hc.two,.inr ⟨by omega,rfl⟩⟩⟩),rfl⟩
def oneS (l:List K.Rule):V.Script:=⟨false,[],[⟨⟨#[]⟩,l⟩]⟩
theorem zsx {pl:Cn.Pl}(hpl:Cn.PlOk pl){l:List K.Rule}{t x:List Int}{s p:Int}(hr:(K.rulesF l).1=0)(hed:(J.edgesL l).length<=400)(hx:Cn.Tx t)(hp:K.play l (8*t.length+40) [] t 0 0=(0,x,s,p)):Cn.goF pl (oneS l) t=(x,0,0):=by
 obtain⟨o,hc,h0⟩:=chk hr hed hx;have he:(⟨#[]⟩:ByteArray).toList= []:=by decide +kernel
 have hE:Cn.passE ⟨⟨#[]⟩,l⟩=0:=by unfold Cn.passE;rw[if_pos he];exact hr
 have hw:(Cn.wrongF (oneS l)).1=0:=by
  unfold Cn.wrongF oneS;rw[if_neg (by simp),if_neg (by simp)];show (Cn.firstP 0 [⟨⟨#[]⟩,l⟩]).1=0;rw[Cn.firstP,if_pos hE];rfl
 have hply:=hpl.1 _ _ _ _ _ _ _ ⟨o,hc,.inr ⟨h0,hp,rfl⟩⟩
 have hlen:x.length<=4000:=by
  have h1:=hpl.2 l t;rw[hply] at h1;exact h1.1
 unfold Cn.goF;rw[if_pos hw,if_pos (Cn.zgc.2 hx)]
 by_cases hz:t= []
 ·subst hz;rw[K.zea rfl] at hp;simp only[Prod.mk.injEq] at hp;obtain⟨_,rfl,_⟩:=hp;rfl
 ·have hcut:Cn.cut (Cn.inS (oneS l)) t= [(t,true)]:=by
   have:=Cn.zos (P:=Cn.inS (oneS l)) (b:= []) (fun r hr=>by cases hr) hz (fun r _=>rfl);rw[List.append_nil] at this;exact this
  have hth:Cn.thru pl 0 [⟨⟨#[]⟩,l⟩] t=(x,0,0):=by
   have hpf:Cn.passF pl ⟨⟨#[]⟩,l⟩ t=(x,0):=by unfold Cn.passF;rw[if_pos he];exact hply
   rw[Cn.thru,hpf,if_pos rfl];rfl
  rw[hcut]
  have hrun:Cn.runP pl (oneS l).passes [(t,true)] []=(x,0,0):=by
   show Cn.runP pl [⟨⟨#[]⟩,l⟩] [(t,true)] []=_;rw[Cn.runP,if_pos rfl,hth,if_pos rfl];rfl
  rw[hrun,if_pos rfl,if_neg (by simp;exact hlen)]
def em (f:List Int->Int->List Int->List Int):List Int->List Int->List Int
 | done,[]=>done
 | done,r::rest=>em f (done++f done r rest) rest
theorem zru {l:List K.Rule}{f:List Int->Int->List Int->List Int}{m:Nat}(hm:1<=m)
  (h:∀done r rest,(K.which l (done++r::rest) done.length= -1/\f done r rest= [r])∨∃(j:Nat) (x:K.Rule),K.which l (done++r::rest) done.length=(j:Int)/\l[j]?=some x/\x.source.length=1/\x.cursor=x.target.length/\x.target.length<=m/\f done r rest=x.target) :
  ∀(rest:List Int) (left:Nat) (done:List Int) (s p:Int),rest.length<=left->done.length+m*rest.length<=4000->∃s' p',K.play l left done rest s p=(0,em f done rest,s',p'):=by
 intro rest
 induction rest with
 | nil=>intro left done s p _ _;exact⟨s,p,K.zea rfl⟩
 | cons r rest ih =>
  intro left done s p hl hd;obtain⟨n,rfl⟩:∃n,left=n+1:=⟨left - 1,by simp at hl;omega⟩;rw[List.length_cons,Nat.mul_add,Nat.mul_one] at hd;have hlr:rest.length<=m*rest.length:=Nat.le_mul_of_pos_left _ (by omega);simp only[List.length_cons] at hl;have hne:¬(r::rest).length=0:=by simp
  rcases h done r rest with ⟨h1,h2⟩|⟨j,x,h1,h2,h3,h4,h5,h6⟩
  ·rw[K.zni hne h1,em,h2];exact ih n (done++ [r]) (s+1) p (by omega) (by simp;omega)
  ·have e:K.restOf x (r::rest)=x.target++rest:=by unfold K.restOf;rw[h3];rfl
   have hc:x.cursor.toNat=x.target.length:=by rw[h4];simp
   rw[K.zj1 hne h1 h2 (by rw[e];simp;omega),em,h6,e,hc,List.take_left,List.drop_left];exact ih n (done++x.target) (s+1) (p+1) (by omega) (by simp;omega)
theorem zte {pl:Cn.Pl}(hpl:Cn.PlOk pl){l:List K.Rule}{f:List Int->Int->List Int->List Int}{m:Nat}(hm:1<=m)(hm4:m<=4)(hr:(K.rulesF l).1=0)(hed:(J.edgesL l).length<=400)
  (h:∀done r rest,(K.which l (done++r::rest) done.length= -1/\f done r rest= [r])∨∃(j:Nat) (x:K.Rule),K.which l (done++r::rest) done.length=(j:Int)/\l[j]?=some x/\x.source.length=1/\x.cursor=x.target.length/\x.target.length<=m/\f done r rest=x.target)
  {t:List Int} (ht:t.length<=1000) (hR:∀z∈t,M.right z=true):Cn.goF pl (oneS l) t=(em f [] t,0,0):=by
 have hb:m*t.length<=4000:=Nat.le_trans (Nat.mul_le_mul hm4 ht) (by omega);obtain⟨s,p,hp⟩:=zru hm h t (8*t.length+40) [] 0 0 (by omega) (by simpa using hb);exact zsx hpl hr hed ⟨by omega,by unfold K.allR;rw[List.all_eq_true];exact hR⟩ hp
theorem zgz {x:K.Rule}{t:List Int}{k:Int}:(K.matchB x t k=true->K.which [x] t k=((0:Nat):Int))/\(¬K.matchB x t k=true->K.which [x] t k= -1):=by
 unfold K.which;rw[K.whichN];exact⟨fun h=>by rw[if_pos h],fun h=>by rw[if_neg h];rfl⟩
theorem zsj (a:List Int)(r:Int)(b:List Int):(a++r::b).getD ((a.length:Int)).toNat 0=r:=by
 rw[Int.toNat_natCast,List.getD_eq_getElem?_getD,List.getElem?_append_right qN];simp
theorem zsi (a:List Int)(x r:Int)(b:List Int):((a++ [x])++r::b).getD (((a++ [x]).length:Int) - 1).toNat 0=x:=by
 have e:(((a++ [x]).length:Int) - 1).toNat=a.length:=by simp
 rw[e,List.getD_eq_getElem?_getD,List.append_assoc,List.getElem?_append_right qN];simp
end Go.Proofs.YtdfjokdknanlfaaGreatDoor.Sh
namespace Go.Proofs.YtdfjokdknanlfaaGreatDoor.Sh
def rB:K.Rule:=⟨false,false,[[(32,32)]],[[(32,32)]],[],[],0⟩
def fB (done:List Int) (r:Int) (_:List Int):List Int:=if r=32/\done.getLast?=some 32 then [] else [r]
def bl:Int->List Int->List Int
 | _,[]=> []
 | last,r::l=>if r=32/\last=32 then bl r l else r::bl r l
theorem zn0 (done:List Int)(r:Int)(rest:List Int):K.matchB rB (done++r::rest) done.length=true↔r=32/\done.getLast?=some 32:=by
 have e1:=zsj done r rest;have em:∀z:Int,S.memb [(32,32)] z=decide (z=32):=fun z=>by simp[S.memb];rw[Bool.eq_iff_iff];simp;omega
 rcases List.eq_nil_or_concat done with rfl | ⟨a,x,rfl⟩
 ·simp[K.matchB,K.runAt,rB]
 ·rw[List.concat_eq_append] at e1 ⊢;have e2:=zsi a x r rest;have hlast:(a++ [x]).getLast?=some x:=by simp
  rw[hlast];simp only[K.matchB,rB,List.length_cons,List.length_nil,List.append_nil,List.cons_append,List.nil_append,K.runAt,Bool.and_true,Bool.false_and,Bool.not_false,em];have e3:((a++ [x]).length:Int) - ((0+1:Nat):Int)+1=((a++ [x]).length:Int):=by omega
  have e4:((a++ [x]).length:Int) - ((0+1:Nat):Int)=((a++ [x]).length:Int) - 1:=by omega
  rw[e3,e4,e1,e2];simp;constructor
  ·rintro ⟨h1,h2⟩;exact⟨h2.2,h1.2⟩
  ·rintro ⟨h1,h2⟩;exact⟨⟨by omega,h2⟩,by omega,h1⟩
theorem ztg:∀(rest done:List Int),em fB done rest=done++bl ((done.getLast?).getD (-1)) rest:=by
 intro rest
 induction rest with
 | nil=>intro done;simp[em,bl]
 | cons r rest ih =>
  intro done;rw[em,ih,bl]
  by_cases h:r=32/\done.getLast?=some 32
  ·have e:fB done r rest= []:=by unfold fB;rw[if_pos h]
   rw[e,List.append_nil,h.2,h.1];simp
  ·have e:fB done r rest= [r]:=by unfold fB;rw[if_neg h]
   have h2:¬(r=32/\(done.getLast?).getD (-1)=32):=fun h3=>h ⟨h3.1,by
    cases hd:done.getLast? with
    | none=>rw[hd] at h3;exact absurd h3.2 (by decide)
    | some z=>rw[hd] at h3;have:=h3.2;simp at this;rw[this]⟩
   rw[e,if_neg h2];simp
theorem zqz:∀(t:List Int) (z:Int),bl z (bl z t)=bl z t:=by
 intro t
 induction t with
 | nil=>intro z;rfl
 | cons r t ih =>
  intro z;rw[bl]
  by_cases h:r=32/\z=32
  ·rw[if_pos h];obtain⟨rfl,rfl⟩:=h;exact ih 32
  ·rw[if_neg h,bl,if_neg h,ih]
theorem zs7:∀(t:List Int) (z y:Int),y∈bl z t->y∈t:=by
 intro t
 induction t with
 | nil=>intro z y h;exact h
 | cons r t ih =>
  intro z y h;rw[bl] at h;split at h
  ·exact List.mem_cons_of_mem _ (ih _ _ h)
  ·rcases List.mem_cons.1 h with rfl | h
   ·exact List.mem_cons_self
   ·exact List.mem_cons_of_mem _ (ih _ _ h)
theorem zs8:∀(t:List Int) (z:Int),(bl z t).length<=t.length:=by
 intro t
 induction t with
 | nil=>intro z;simp[bl]
 | cons r t ih =>
  intro z;have:=ih r;rw[bl];split
  ·simp;omega
  ·simp;omega
theorem zsz {pl:Cn.Pl}(hpl:Cn.PlOk pl){t:List Int}(ht:t.length<=1000)(hR:∀z∈t,M.right z=true):Cn.goF pl (oneS [rB]) t=(bl (-1) t,0,0):=by
 have h:=zte hpl (l:= [rB]) (f:=fB) (m:=1) (by omega) (by omega) (by decide +kernel) (by decide +kernel) (fun done r rest=> ?_) ht hR
 ·rw[h,ztg];rfl
 ·by_cases hm:K.matchB rB (done++r::rest) done.length=true
  ·exact .inr ⟨0,rB,zgz.1 hm,rfl,rfl,rfl,by decide,by unfold fB;rw[if_pos ((zn0 done r rest).1 hm)];rfl⟩
  ·exact .inl ⟨zgz.2 hm,by unfold fB;rw[if_neg (fun h=>hm ((zn0 done r rest).2 h))]⟩
end Go.Proofs.YtdfjokdknanlfaaGreatDoor.Sh
namespace Go.Proofs.YtdfjokdknanlfaaGreatDoor.Sh
open Go.RowKit
set_option maxRecDepth 40000
def uBlanks:List Int:= [35,32,111,110,101,32,98,108,97,110,107,32,119,104,101,114,101,32,116,104,101,114,101,32,119,101,114,101,32,109,111,114,101,10,39,32,39,32,123,32,39,32,39,32,62,32,59,10]
theorem zso:Scr nBlanks (oneS [rB]):=by
 have hx:M.rn tBlanks=uBlanks:=by
  have h:=T.zjy (l:=uBlanks) (by unfold T.rightL;decide);have e:T.bytesR uBlanks=tBlanks.data.toList:=by decide +kernel
  rw[e] at h;exact h
 have key:(match R.read uBlanks with | .ok l _=>V.forthF l | .bad _ _=>(oneS [rB],1,1))=(oneS [rB],0,0):=by kernel_rfl
 cases h:R.read uBlanks with
 | ok l q=>rw[h] at key;exact⟨tBlanks,l,q,by decide +kernel,by decide,by rw[hx];exact h,key⟩
 | bad e q=>rw[h] at key;simp at key
end Go.Proofs.YtdfjokdknanlfaaGreatDoor.Sh
namespace Go.Proofs.YtdfjokdknanlfaaGreatDoor
open Go.RowKit Go.Lib
set_option maxRecDepth 20000
set_option linter.unusedSimpArgs false
set_option linter.unusedVariables false
theorem zeo (hK:T.ClassOk)(w:World)(s:ByteArray):Calls Tryz.prog 3 #[.string s] w fun e w'=>e= .returned (.bool true)/\Below w.heap.size w w':=by
 have HS:Hid (∀X,Calls Tryz.prog 9 #[.string s] X fun e w'=>e= .returned (.bool (decide (s.size<=1000)))/\w'=X):=fun X=>zie s X
 by_cases hs:s.size<=1000
 ·rw[decide_eq_true hs] at HS;obtain⟨pl,hpl⟩:=Cn.zrv;have HD:Hid (∀X,Calls Tryz.prog 10 #[.string s] X fun e w'=>∃xo xc,e= .returned (.slice xo (M.rn s).length xc)/\L.Rd w' (.slice xo (M.rn s).length xc) .i32 (M.rn s)/\Below X.heap.size X w'):=fun X=>zg6 s (by omega) X
  have htl:(M.rn s).length<=1000:=Nat.le_trans (M.zg8 s) hs;have hR:=zjx s;have hRb:∀z∈Sh.bl (-1) (M.rn s),M.right z=true:=fun z hz=>hR z (Sh.zs7 _ _ _ hz)
  have HT1:Hid (∀X,Calls Tryz.prog 12 #[.string { data:=#[98,108,97,110,107,115] },.string s,.string (runesBytes (Sh.bl (-1) (M.rn s)))] X fun e w'=>e= .returned (.bool true)/\Below X.heap.size X w'):=fun X =>
   zd3 hK Sh.nBlanks _ Sh.zso s (by omega) pl hpl _ (Sh.zsz hpl htl hR) hRb _ rfl X
  have HT2:Hid (∀X,Calls Tryz.prog 12 #[.string { data:=#[98,108,97,110,107,115] },.string (runesBytes (Sh.bl (-1) (M.rn s))),.string (runesBytes (Sh.bl (-1) (M.rn s)))] X fun e w'=>e= .returned (.bool true)/\Below X.heap.size X w'):=fun X=>by
   have hl:=Sh.zs8 (M.rn s) (-1);refine zd3 hK Sh.nBlanks _ Sh.zso _ (Nat.le_trans (Sh.zdy _ hRb) (by omega)) pl hpl (Sh.bl (-1) (M.rn s)) ?_ hRb _ rfl X;rw[Sh.zrn hRb,Sh.zsz hpl (by omega) hRb,Sh.zqz]
  have HRt:Hid (∀z∈M.rn s,M.right z=true):=hR;clear hRb hR hs;generalize M.rn s=tx at HD htl HT1 HT2 HRt
  go_enter Tryz.func3,Tryz.ntmps3
  go_wp2_with fail
  refine(HS.out _).mono ?_;rintro e w0 ⟨rfl,rfl⟩;clear HS
  go_wp2_with fail
  refine(HD.out _).mono ?_;clear HD;rintro e w1 ⟨xo,xc,rfl,hd,b1⟩;have HB1:Hid (Below w0.heap.size w0 w1):=b1;obtain⟨ao',cap',e',_,hcs⟩:=hd;obtain⟨rfl,-,rfl⟩:=Value.slice.inj e';have HC:Hid (tx≠ []->∃b off,xo=some ⟨b,off,none⟩/\∀j z,tx[j]?=some z->w1.cell? ⟨b,off+j,none⟩=some (.int .i32 z)):=hcs;clear hcs e' b1;go_wp2
  go_loopw [3,4,13] (fun wa la i wr=>∃(j:Nat) (last:Int) (acc:List Int),j<=tx.length/\i= .int .i64 j/\la= .int .i32 last/\Hid (wa= .string (runesBytes acc))/\Hid (acc++Sh.bl last (tx.drop j)=Sh.bl (-1) tx)/\Hid (acc.length<=j/\∀z∈acc,M.right z=true)/\Hid (Below w1.heap.size w1 wr)) (fun _ _ i _=>tx.length - (intOf i).toNat)
  case atStart=>exact⟨0,-1,[],Nat.zero_le _,rfl,rfl,by show _=_;rfl,by show _=_;simp,⟨qN,fun z hz=>by cases hz⟩,qR _⟩
  case round =>
   obtain⟨j,last,acc,hj,rfl,rfl,HWa,HE,HA,HB⟩:=hrel;obtain⟨A,hA⟩:∃A,A=runesBytes acc:=⟨_,rfl⟩;have hAs:A.size<=4000:=by have:=Sh.zdy acc HA.out.2;have:=HA.out.1;rw[hA];omega
   have HA2:Hid (A=runesBytes acc):=hA;have hwa:=HWa.out;rw[<- hA] at hwa;subst hwa;clear HWa hA
   by_cases hlt:j<tx.length
   ·obtain⟨r,hr⟩:∃x,tx[j]?=some x:=⟨tx[j],by simp[hlt]⟩;obtain⟨b,off,rfl,hcell⟩:=HC.out (by intro h;subst h;simp at hlt);have c0:=hcell j r hr;rw[<- HB.out.cell (p:=⟨b,off+j,none⟩) (L.block_lt c0)] at c0;have hrr:=HRt.out r (List.mem_of_getElem? hr)
    have hdr:tx.drop j=r::tx.drop (j+1):=by
     have h2:=(qL.1 hr).2;rw[List.drop_eq_getElem_cons hlt,h2]
    have HE2:Hid (acc++(if r=32/\last=32 then Sh.bl r (tx.drop (j+1)) else r::Sh.bl r (tx.drop (j+1)))=Sh.bl (-1) tx):=by
     have h:=HE.out;rw[hdr,Sh.bl] at h;exact h
    have HP:Hid (∀X,Calls Tryz.prog 11 #[.int .i32 r] X fun e w'=>e= .returned (.string (runesBytes [r]))/\Below X.heap.size X w'):=fun X=>zif r hrr X
    have HRr:Hid (M.right r=true):=hrr;have hBs:(runesBytes [r]).size<=4:=by have:=Sh.zdy [r] (fun z hz=>by simp at hz;subst hz;exact hrr);simpa using this
    obtain⟨B,hB⟩:∃B,B=runesBytes [r]:=⟨_,rfl⟩;rw[<- hB] at HP hBs;have HB2:Hid (B=runesBytes [r]):=hB;clear hr hcell hdr hB hrr HE HC
    by_cases h1:r=32
    ·by_cases h2:last=32
     ·subst h1 h2;have HE3:Hid (acc++Sh.bl 32 (tx.drop (j+1))=Sh.bl (-1) tx):=by have h:=HE2.out;rw[if_pos ⟨rfl,rfl⟩] at h;exact h
      clear HE2 HP;go_wp2
      go_roundw
      case rel=>exact⟨j+1,32,acc,by omega,by go_num,rfl,by show _=_;rw[HA2.out],HE3,⟨by have:=HA.out.1;omega,HA.out.2⟩,HB⟩
      case measure=>simp[intOf];omega
     ·subst h1;have HE3:Hid ((acc++ [32])++Sh.bl 32 (tx.drop (j+1))=Sh.bl (-1) tx):=by have h:=HE2.out;rw[if_neg (fun h=>h2 h.2)] at h;rw[<- h];show _=_;simp
      clear HE2
      go_wp2_with fail
      refine(HP.out _).mono ?_;clear HP;rintro e w2 ⟨rfl,b2⟩;have HB3:Hid (Below w1.heap.size w1 w2):=HB.out.trans (b2.mono HB.out.size);clear b2;go_wp2
      go_roundw
      case rel=>exact⟨j+1,32,acc++ [32],by omega,by go_num,rfl,by show _=_;rw[Sh.zhy,HA2.out,HB2.out],HE3,⟨by have:=HA.out.1;simp;omega,fun z hz=>(List.mem_append.1 hz).elim (HA.out.2 z) (fun h=>by simp at h;subst h;exact HRr.out)⟩,HB3⟩
      case measure=>simp[intOf];omega
    ·have HE3:Hid ((acc++ [r])++Sh.bl r (tx.drop (j+1))=Sh.bl (-1) tx):=by have h:=HE2.out;rw[if_neg (fun h=>h1 h.1)] at h;rw[<- h];show _=_;simp
     clear HE2
     go_wp2_with fail
     refine(HP.out _).mono ?_;clear HP;rintro e w2 ⟨rfl,b2⟩;have HB3:Hid (Below w1.heap.size w1 w2):=HB.out.trans (b2.mono HB.out.size);clear b2;go_wp2
     go_roundw
     case rel=>exact⟨j+1,r,acc++ [r],by omega,by go_num,rfl,by show _=_;rw[Sh.zhy,HA2.out,HB2.out],HE3,⟨by have:=HA.out.1;simp;omega,fun z hz=>(List.mem_append.1 hz).elim (HA.out.2 z) (fun h=>by simp at h;subst h;exact HRr.out)⟩,HB3⟩
     case measure=>simp[intOf];omega
   ·have hkl:j=tx.length:=by omega
    subst hkl;have hacc:acc=Sh.bl (-1) tx:=by have h:=HE.out;rw[List.drop_length,Sh.bl,List.append_nil] at h;exact h
    rw[<- hacc,<- HA2.out] at HT1 HT2;clear hacc HE HA2 HA HC hAs
    go_wp2_with fail
    refine(HT1.out _).mono ?_;clear HT1;rintro e w2 ⟨rfl,b2⟩;have HB3:Hid (Below w1.heap.size w1 w2):=HB.out.trans (b2.mono HB.out.size);clear b2
    go_wp2_with fail
    refine(HT2.out _).mono ?_;clear HT2;rintro e w3 ⟨rfl,b3⟩;have HB4:Hid (Below w0.heap.size w0 w3):=HB1.out.trans ((HB3.out.trans (b3.mono HB3.out.size)).mono HB1.out.size);clear b3;go_wp2;go_ret;exact⟨rfl,HB4.out⟩
 ·rw[decide_eq_false hs] at HS;clear hs
  go_enter Tryz.func3,Tryz.ntmps3
  go_wp2_with fail
  refine(HS.out _).mono ?_;rintro e w0 ⟨rfl,rfl⟩;clear HS;go_wp2;go_ret;exact⟨rfl,qR _⟩
end Go.Proofs.YtdfjokdknanlfaaGreatDoor
