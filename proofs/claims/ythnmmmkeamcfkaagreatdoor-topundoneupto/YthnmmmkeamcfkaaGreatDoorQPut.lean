import Derived.Test.YthnmmmkeamcfkaaGreatDoorSSize
import Derived.Test.YthnmmmkeamcfkaaGreatDoorPrAll
import Derived.Laws.Externs
set_option maxHeartbeats 0
set_option maxRecDepth 20000
set_option linter.unusedSimpArgs false
set_option linter.unusedVariables false
namespace Go.Proofs.YthnmmmkeamcfkaaGreatDoor
open Go.Proofs.Tryz
section
open Go.RowKit
theorem zes (l m:List S.Sp):S.total (l++m)=S.total l+S.total m:=by
 induction l with
 | nil=>simp[S.total]
 | cons x l ih=>simp only[List.cons_append,S.total,ih];omega
theorem zm4 {l:List S.Sp}{k:Nat}{x:S.Sp}(hx:l[k]?=some x):S.total (l.take (k+1))=S.total (l.take k)+(x.2 - x.1+1):=by
 rw[List.take_add_one,hx,zes];simp[S.total]
theorem zlr {b:Int}{l:List S.Sp}(h:S.Nf b l)(hb:0<=b):S.total l<=1114112:=by
 rw[S.zpi h hb];have:=S.zwz (S.memb l) 1114112;omega
theorem zkb {w:World}{ao:Option Addr}{n c:Nat}{l:List S.Sp}(R:S.Rd w (.slice ao n c) l)(k:Nat)(hk:k<=l.length):S.Rd w (.slice ao k c) (l.take k):=by
 obtain⟨ao',cap',he,hn,hc⟩:=R;simp only[Value.slice.injEq] at he;obtain⟨rfl,rfl,rfl⟩:=he;refine⟨ao,c,by rw[List.length_take,Nat.min_eq_left hk],hn,fun h=> ?_⟩;obtain⟨b,off,e,hcell⟩:=hc (by intro h0;subst h0;simp at h);refine⟨b,off,e,fun j x hj=>hcell j x ?_⟩;rw[List.getElem?_take] at hj;split at hj
 ·exact hj
 ·cases hj
def cntF (l:List S.Sp):Int:=if S.wrongE l=0 then S.total l else 0
theorem zru (w:World)(v:Value)(l:List S.Sp)(R:S.Rd w v l)(F:S.Fit l) :
  Calls prog 38 #[v] w fun e w'=>e= .returned (.tuple #[.int .i64 (cntF l),.int .i64 (S.wrongE l)])/\Below w.heap.size w w':=by
 have hw:=zby w v l R F;obtain⟨ao,cap,rfl,hn,hc⟩:=R;unfold cntF
 by_cases hz:S.wrongE l=0
 ·obtain⟨hl,N⟩:=S.zat.1 hz;rw[if_pos hz];rw[hz] at hw ⊢;clear hz;have HN:=qH N;clear N
  go_enter func38,ntmps38
  go_wp2_with fail
  refine hw.mono ?_;clear hw;rintro e w1 ⟨rfl,b1⟩;have BW1:=qH b1;clear b1;go_wp2
  go_loopw [5,15] (fun s i wr=>∃(k:Nat) (acc:Int),k<=l.length/\i= .int .i64 k/\s= .int .i64 acc/\0<=acc/\acc<=1114112/\Hid (acc=S.total (l.take k))/\Hid (Below w.heap.size w wr)) (fun _ i _=>l.length - (intOf i).toNat)
  case atStart=>exact⟨0,0,Nat.zero_le _,rfl,rfl,by omega,by omega,by show _=_;simp[S.total],BW1⟩
  case round =>
   obtain⟨k,acc,hk,rfl,rfl,h0,h1,HT,HB⟩:=hrel;have hsz:=HB.out.size
   by_cases hlt:k<l.length
   ·obtain⟨b,off,rfl,hcell⟩:=hc (by intro h;subst h;simp at hlt);obtain⟨x,hx⟩:∃x,l[k]?=some x:=⟨l[k],by simp[hlt]⟩;have c0:=hcell k x hx;have hb:=L.block_lt c0.1;have c1:=c0.1;have c2:=c0.2;rw[<- HB.out.cell (p:=⟨b,_,none⟩) hb] at c1 c2;have hxo:=HN.out.mem (List.mem_of_getElem? hx);have hT2:=zm4 hx;rw[<- HT.out] at hT2;have hle:=zlr (HN.out.take (k+1)) (by omega);rw[hT2] at hle;obtain⟨x1,x2⟩:=x;simp only at c1 c2 hxo hle hT2;have HT2:Hid _:=hT2;have HBa:=qH <| fun o=>HB.out.alloc hsz o
    have hsi:=zsx (wr.alloc (.cells #[.int .i32 x1,.int .i32 x2] 101)) x1 x2 hxo.1 hxo.2.1 hxo.2.2;clear c0 hx hcell hc hT2
    go_wp2_with fail
    refine hsi.mono ?_;clear hsi;rintro e w2 ⟨rfl,b2⟩;have HB2:=qH <| (HBa.out _).trans (b2.mono (by simp;omega));clear b2;go_wp2
    go_roundw
    case rel=>exact⟨k+1,acc+(x2 - x1+1),by omega,by go_num,rfl,by omega,by omega,HT2.out.symm,HB2⟩
    case measure=>simp[intOf];omega
   ·go_wp2
    go_ret2
    refine⟨?_,HB.out⟩;rw[HT.out,List.take_of_length_le (by omega)];rfl
 ·rw[if_neg hz];generalize S.wrongE l=we at *
  go_enter func38,ntmps38
  go_wp2_with fail
  refine hw.mono ?_;clear hw;rintro e w1 ⟨rfl,b1⟩;go_wp2
  go_ret2
  exact⟨rfl,b1⟩
end
section
open Go.RowKit Go.Shelf
namespace Pr
theorem zfa (a:Int)(n:Nat):upFrom a (n+1)=upFrom a n++ [a+n]:=by
 unfold upFrom;rw[List.range_succ,List.map_append];rfl
theorem zd7 (a:Int)(n:Nat):(upFrom a n).length=n:=by unfold upFrom;simp
theorem zex {s:List S.Sp}{k:Nat}{x:S.Sp}(h:s[k]?=some x):numbers (s.take (k+1))=numbers (s.take k)++upFrom x.1 (x.2 - x.1+1).toNat:=by
 unfold numbers;rw[List.take_add_one,h,List.flatMap_append];simp
theorem zc9 {s:List S.Sp}(h:∀x∈s,x.1<=x.2):((numbers s).length:Int)=S.total s:=by
 induction s with
 | nil=>rfl
 | cons x s ih =>
  have h1:=h x (List.mem_cons_self ..);have h2:=ih fun y hy=>h y (List.mem_cons_of_mem _ hy)
  have e:numbers (x::s)=upFrom x.1 (x.2 - x.1+1).toNat++numbers s:=by simp[numbers]
  rw[e,List.length_append,zd7,S.total];omega
theorem zm5 {s:List S.Sp}(h:∀x∈s,x.1<=x.2)(k:Nat):S.total (s.take k)<=S.total s:=by
 have e:=zes (s.take k) (s.drop k);rw[List.take_append_drop] at e;have:=zc9 (s:=s.drop k) fun x hx=>h x (List.mem_of_mem_drop hx)
 omega
theorem zte {s:List S.Sp}(N:S.Nf 0 s)(hT:S.total s<=40){k j:Nat}{x:S.Sp}(hx:s[k]?=some x)(hj:j<=(x.2 - x.1+1).toNat):(numbers (s.take k)++upFrom x.1 j).length<=40:=by
 have hr:∀x∈s,x.1<=x.2:=fun y hy=>(N.mem hy).2.1
 have h1:=zc9 (s:=s.take (k+1)) fun y hy=>hr y (List.mem_of_mem_take hy)
 have h2:=zm5 hr (k+1);rw[zex hx,List.length_append,zd7] at h1;rw[List.length_append,zd7];omega
theorem zwm {w:World}{B:Nat}{v:Value}{n:Nat}{xs:List Value}{b:Nat}{c:Array Value}(h:w.ownsRow B 21 1 v n xs)(hb:w.heap[b]?=some (.cells c 101)):v.ownBlock≠some b:=by
 intro e;rcases h.2 with ⟨rfl,_⟩|⟨g,cap,cur,rfl,_,hg,_⟩
 ·cases e
 ·cases e;rw[hg] at hb;simp at hb
end Pr
theorem zkk (w:World)(v:Value)(s:List S.Sp)(R:S.Rd w v s)(N:S.Nf 0 s)(hl:s.length<=200)(hT:S.total s<=40) :
  Calls prog 40 #[v] w fun e w'=>∃v',e= .returned v'/\L.Rd w' v' .i32 (Pr.numbers s)/\Below w.heap.size w w':=by
 obtain⟨ao,cap,rfl,hn,hc⟩:=R;have HN:Hid (S.Nf 0 s/\S.total s<=40):=⟨N,hT⟩;clear N hT
 go_enter func40,ntmps40
 go_wp2
 go_loopw [3,9] (fun i3 i wr=>∃(k:Nat) (o:List Int) (vo:Option Addr) (vc:Nat),k<=s.length/\i= .int .i64 k/\i3= .slice vo o.length vc/\o.length<=40/\Hid (o=Pr.numbers (s.take k)/\wr.ownsRow w.heap.size 21 1 (.slice vo o.length vc) o.length (K.ints o)/\Below w.heap.size w wr)) (fun _ i _=>s.length - (intOf i).toNat)
 case atStart=>exact⟨0,[],none,0,Nat.zero_le _,rfl,rfl,by simp,⟨by simp[Pr.numbers],World.ownsRow_nil _ _ _ _,qR w⟩⟩
 case round =>
  obtain⟨k,o,vo,vc,hk,rfl,rfl,hol,HI⟩:=hrel;obtain⟨wo,hwo⟩:∃wo,wo=wr:=⟨_,rfl⟩;subst hwo
  by_cases hlt:k<s.length
  ·obtain⟨b,off,rfl,hcell⟩:=hc (by intro h;subst h;simp at hlt);obtain⟨x,hx⟩:∃x,s[k]?=some x:=⟨s[k],by simp[hlt]⟩;have c0:=hcell k x hx;have hb:=L.block_lt c0.1;have c1:=c0.1;have c2:=c0.2;rw[<- HI.out.2.2.cell (p:=⟨b,_,none⟩) hb] at c1 c2;have hxo:=HN.out.1.mem (List.mem_of_getElem? hx);have HP:Hid (∀j:Nat,j<=(x.2 - x.1+1).toNat->(o++Pr.upFrom x.1 j).length<=40):=fun j hj=>by rw[HI.out.1];exact Pr.zte HN.out.1 HN.out.2 hx hj
   have HT:Hid (Pr.numbers (s.take (k+1))=o++Pr.upFrom x.1 (x.2 - x.1+1).toNat):=by rw[HI.out.1];exact Pr.zex hx
   obtain⟨x1,x2⟩:=x;simp only at c1 c2 hxo HP HT;obtain⟨X,hX⟩:∃X,X=wo.alloc (.cells #[.int .i32 x1,.int .i32 x2] 101):=⟨_,rfl⟩;have HX:Hid (o=o++Pr.upFrom x1 0/\X.ownsRow w.heap.size 21 1 (.slice vo o.length vc) o.length (K.ints o)/\Below w.heap.size w X/\X.heap[wo.heap.size]?=some (.cells #[.int .i32 x1,.int .i32 x2] 101)):=⟨by simp[Pr.upFrom],by rw[hX];exact HI.out.2.1.alloc _,by rw[hX];exact HI.out.2.2.alloc HI.out.2.2.size _,by rw[hX];exact heap_alloc_new wo _⟩;have hwz:=HI.out.2.2.size;clear c0 hx hcell hc;go_wp2;rw[<- hX];clear c1 c2
   go_loopw [3,6] (fun i3 i6 wr=>∃(j:Nat) (q:List Int) (qo:Option Addr) (qc:Nat),j<=(x2 - x1+1).toNat/\i6= .int .i32 (x1+j)/\i3= .slice qo q.length qc/\q.length<=40/\Hid (q=o++Pr.upFrom x1 j/\wr.ownsRow w.heap.size 21 1 (.slice qo q.length qc) q.length (K.ints q)/\Below w.heap.size w wr/\wr.heap[wo.heap.size]?=some (.cells #[.int .i32 x1,.int .i32 x2] 101))) (fun _ i6 _=>(x2+1 - intOf i6).toNat)
   case atStart=>exact⟨0,o,vo,vc,Nat.zero_le _,by simp,rfl,hol,HX⟩
   case round =>
    obtain⟨j,q,qo,qc,hj,rfl,rfl,hql,HQ⟩:=hrel;have y0:=K.zad (i:=0) HQ.out.2.2.2 rfl;have y1:=K.zad (i:=1) HQ.out.2.2.2 rfl;have hbz:wo.heap.size+1<=wr.heap.size:=lt_of_block HQ.out.2.2.2
    by_cases hjx:x1+(j:Int)<=x2
    ·obtain⟨ao1,vc1,w1,run1,own1,kp1,sz1,be1⟩:=Cn.app1 HQ.out.2.1 (by omega) (by omega) (x1+(j:Int))
     have HR:Hid (q++ [x1+(j:Int)]=o++Pr.upFrom x1 (j+1)/\w1.ownsRow w.heap.size 21 1 (.slice ao1 (q.length+1) vc1) (q++ [x1+(j:Int)]).length (K.ints (q++ [x1+(j:Int)]))/\Below w.heap.size w w1/\w1.heap[wo.heap.size]?=some (.cells #[.int .i32 x1,.int .i32 x2] 101)/\(q++ [x1+(j:Int)]).length=q.length+1/\(q++ [x1+(j:Int)]).length<=40):=by
      refine⟨by rw[Pr.zfa,HQ.out.1,List.append_assoc],own1,HQ.out.2.2.1.trans be1,?_,by simp,?_⟩
      ·rw[kp1 _ (by omega) (Pr.zwm HQ.out.2.1 HQ.out.2.2.2)];exact HQ.out.2.2.2
      ·have:=HP.out (j+1) (by omega);rw[Pr.zfa,<- List.append_assoc,<- HQ.out.1] at this;exact this
     clear own1 kp1 be1 HX
     go_wp2_with (at_builtin;refine Lib.wpList_append_run _ rfl _ _ _ _ rfl _ _ rfl rfl _ _ (run1 _) ?_;clear run1)
     go_roundw
     case rel=>exact⟨j+1,q++ [x1+(j:Int)],ao1,vc1,by omega,by go_num,by rw[HR.out.2.2.2.2.1],HR.out.2.2.2.2.2,⟨HR.out.1,by rw[HR.out.2.2.2.2.1];have:=HR.out.2.1;rw[HR.out.2.2.2.2.1] at this;exact this,HR.out.2.2.1,HR.out.2.2.2.1⟩⟩
     case measure=>simp[intOf];omega
    ·have hje:j=(x2 - x1+1).toNat:=by omega
     have HE:Hid (q=Pr.numbers (s.take (k+1))/\wr.ownsRow w.heap.size 21 1 (.slice qo q.length qc) q.length (K.ints q)/\Below w.heap.size w wr):=⟨by rw[HT.out,HQ.out.1,hje],HQ.out.2.1,HQ.out.2.2.1⟩;clear HX hje;go_wp2
     go_roundw
     case rel=>exact⟨k+1,q,qo,qc,by omega,by go_num,rfl,hql,HE⟩
     case measure=>simp[intOf];omega
  ·have hkl:k=s.length:=by omega
   subst hkl;go_wp2;go_ret;have h:=HI.out;rw[List.take_length] at h;refine⟨_,rfl,?_,h.2.2⟩;rw[<- h.1];exact L.Rd.za4 h.2.1
end
section
open Go.RowKit Go.Shelf
namespace Pr
theorem ztq {l:List K.Rule}(hE:∀r∈l,K.ruleE r=0)(u:Int):(made l u).length<=20:=by
 unfold made;rcases zd3 (P:=hitB u) (l:=l) with hk | ⟨j,r,hj,_,hk⟩
 ·rw[hk,if_pos (by decide)];simp
 ·rw[hk,if_neg (by omega),Int.toNat_natCast,hj];exact(K.zal (hE r (List.mem_of_getElem? hj))).2.2.2.2.1
theorem zg4 {l:List K.Rule}(hE:∀r∈l,K.ruleE r=0)(dom:List Int):∀m∈images l dom,m.2.length<=1000:=fun m hm=>by
 unfold images at hm;obtain⟨u,_,rfl⟩:=List.mem_map.1 hm;have:=ztq hE u;show (made l u).length<=1000;omega
end Pr
theorem zm2 (w:World)(va vb:Value)(forth back:List K.Rule)(Ra:V.Rus w va forth)(Rb:V.Rus w vb back)(hla:forth.length<=200)(hlb:back.length<=200)(hEa:∀r∈forth,K.ruleE r=0)(hEb:∀r∈back,K.ruleE r=0)(vd:Value)(dom:List Int)(Rd:L.Rd w vd .i32 dom)(hd:dom.length<=40) :
  Calls prog 39 #[va,vb,vd] w fun e w'=>e= .returned (.bool (Pr.undoesB forth back dom))/\Below w.heap.size w w':=by
 have HP1:=qH <| zio w va forth Ra;have HP2:=qH <| fun X hX=>zio X vb back (Rb.below hX)
 have HO:=qH <| fun X hX=>zir X va forth (Ra.below hX) hEa vd dom (Rd.below hX qN) (by omega)
 have HI:=qH <| fun X hX=>zn7 X va forth (Ra.below hX) hla hEa vd dom (Rd.below hX qN) hd
 have HL:=qH <| fun X vi hX hi=>ztr X vi _ hi (Pr.zg4 hEa dom) vb back (Rb.below hX) hEb
 have HA:=qH <| fun X vi hX hi=>zlj X vi _ hi (Pr.zg4 hEa dom) vb back (Rb.below hX) hlb hEb
 unfold Pr.undoesB;generalize Pr.plainB forth=z1 at *;generalize Pr.plainB back=z2 at *;generalize Pr.oneByOneB forth dom=z3 at *;generalize Pr.images forth dom=im at *;generalize Pr.longB im back=z4 at *;generalize Pr.allB im back=z5 at *;obtain⟨aa,ca,rfl⟩:=Ra.len;obtain⟨ba,cb,rfl⟩:=Rb.len;obtain⟨xo,xc,rfl,_⟩:=Rd;clear Ra Rb hEa hEb
 go_enter func39,ntmps39
 go_wp2_with fail
 refine HP1.out.mono ?_;rintro e w1 ⟨rfl,b1⟩;have HB1:=qH b1;clear b1 HP1;cases z1 with
 | false=>go_wp2;go_ret;exact⟨by simp,HB1.out⟩
 | true =>
  go_wp2_with fail
  refine(HP2.out _ HB1.out).mono ?_;rintro e w2 ⟨rfl,b2⟩;have HB2:=qH <| HB1.out.trans (b2.mono HB1.out.size);clear b2 HP2;cases z2 with
  | false=>go_wp2;go_ret;exact⟨by simp,HB2.out⟩
  | true =>
   go_wp2_with fail
   refine(HO.out _ HB2.out).mono ?_;rintro e w3 ⟨rfl,b3⟩;have HB3:=qH <| HB2.out.trans (b3.mono HB2.out.size);clear b3 HO;cases z3 with
   | false=>go_wp2;go_ret;exact⟨by simp,HB3.out⟩
   | true =>
    go_wp2_with fail
    refine(HI.out _ HB3.out).mono ?_;rintro e w4 ⟨vi,rfl,hi,b4⟩;obtain⟨io,ic,rfl⟩:=hi.len;have HB4:=qH <| HB3.out.trans (b4.mono HB3.out.size);have HIm:=qH hi;have HL4:=HL.out w4 _ HB4.out hi;clear b4 HI hi HL
    go_wp2_with fail
    refine HL4.mono ?_;rintro e w5 ⟨rfl,b5⟩;have HB5:=qH <| HB4.out.trans (b5.mono HB4.out.size);have HA5:=HA.out w5 _ HB5.out (HIm.out.below b5);clear b5 HL4 HA HIm;cases z4 with
    | false=>go_wp2;go_ret;exact⟨by simp,HB5.out⟩
    | true =>
     go_wp2_with fail
     refine HA5.mono ?_;rintro e w6 ⟨rfl,b6⟩;have HB6:=qH <| HB5.out.trans (b6.mono HB5.out.size);clear b6 HA5;cases z5 with
     | false=>go_wp2;go_ret;exact⟨by simp,HB6.out⟩
     | true=>go_wp2;go_ret;exact⟨by simp,HB6.out⟩
theorem zqq (w:World)(va vb:Value)(forth back:List K.Rule)(Ra:V.Rus w va forth)(Rb:V.Rus w vb back)(vs:Value)(s:List S.Sp)(Rs:S.Rd w vs s)(Fs:S.Fit s) :
  Calls prog 16 #[va,vb,vs] w fun e w'=>e= .returned (.tuple #[.bool (Pr.sureF forth back s).1,.int .i64 (Pr.sureF forth back s).2])/\Below w.heap.size w w':=by
 have HW1:=qH <| zbv w va forth Ra;have HW2:=qH <| fun X hX=>zbv X vb back (Rb.below hX)
 have HC:=qH <| fun X hX=>zru X vs s (Rs.below hX qN) Fs
 have HN:Hid (S.wrongE s=0->S.total s<=40->(Pr.numbers s).length<=40/\∀X,Below w.heap.size w X->Calls prog 40 #[vs] X fun e w'=>∃v',e= .returned v'/\L.Rd w' v' .i32 (Pr.numbers s)/\Below X.heap.size X w'):=fun hz ht=>by
  obtain⟨hl,N⟩:=S.zat.1 hz;refine⟨?_,fun X hX=>zkk X vs s (Rs.below hX qN) N hl ht⟩;have:=Pr.zc9 (s:=s) fun x hx=>(N.mem hx).2.1
  omega
 have HU:Hid ((K.rulesF forth).1=0->(K.rulesF back).1=0->(Pr.numbers s).length<=40->∀X vd,Below w.heap.size w X->L.Rd X vd .i32 (Pr.numbers s)->Calls prog 39 #[va,vb,vd] X fun e w'=>e= .returned (.bool (Pr.undoesB forth back (Pr.numbers s)))/\Below X.heap.size X w'):=fun h1 h2 hd X vd hX hr =>
  zm2 X va vb forth back (Ra.below hX) (Rb.below hX) (K.zax h1).1 (K.zax h2).1 (K.zax h1).2.1 (K.zax h2).2.1 vd _ hr hd
 obtain⟨⟨o1,o2⟩,HO⟩:∃o,Hid (Pr.sureF forth back s=o):=⟨_,rfl⟩;rw[HO.out];unfold Pr.sureF at HO;have htot:S.wrongE s=0->cntF s=S.total s:=fun h=>by unfold cntF;rw[if_pos h]
 have hle:S.wrongE s=0->S.total s<=1114112:=fun h=>zlr (S.zat.1 h).2 (by omega)
 obtain⟨aa,ca,rfl⟩:=Ra.len;obtain⟨ba,cb,rfl⟩:=Rb.len;obtain⟨xo,xc,rfl⟩:=Rs.len;clear Ra Rb Rs Fs;generalize K.rulesF forth=f1 at *;obtain⟨f1,g1⟩:=f1;generalize K.rulesF back=f2 at *;obtain⟨f2,g2⟩:=f2;generalize S.wrongE s=we at *;generalize cntF s=ct at *;generalize Pr.undoesB forth back (Pr.numbers s)=z at *;simp only at *
 go_enter func16,ntmps16
 go_wp2_with fail
 refine HW1.out.mono ?_;rintro e w1 ⟨rfl,b1⟩;have HA1:=qH <| fun o=>b1.alloc b1.size o
 clear b1 HW1
 by_cases h1:f1=0
 ·subst h1;have HO1:=HO.out;rw[if_neg (by simp)] at HO1;have HW2':=HW2.out _ (HA1.out (.cells #[.int .i64 0,.int .i64 g1] 38));clear HO
  go_wp2_with fail
  refine HW2'.mono ?_;rintro e w2 ⟨rfl,b2⟩;have hB2:=(HA1.out _).trans (b2.mono (HA1.out _).size);have HA2:=qH <| fun o=>hB2.alloc hB2.size o
  clear b2 HW2' HW2 hB2 HA1
  by_cases h2:f2=0
  ·subst h2;rw[if_neg (by simp)] at HO1;have HC':=HC.out _ (HA2.out (.cells #[.int .i64 0,.int .i64 g2] 38));have HO2:Hid _:=HO1;clear HO1
   go_wp2_with fail
   refine HC'.mono ?_;rintro e w3 ⟨rfl,b3⟩;have HB3:=qH <| (HA2.out _).trans (b3.mono (HA2.out _).size);clear b3 HC' HC HA2
   by_cases h3:we=0
   ·subst h3;have ht:=htot rfl;subst ht;have hle':=hle rfl;have HO3:=HO2.out;rw[if_neg (by simp)] at HO3
    by_cases h4:40<S.total s
    ·rw[if_pos h4] at HO3;cases HO3;clear HO2 HN HU htot hle;generalize S.total s=tt at *;go_wp2
     go_ret2
     exact⟨rfl,HB3.out⟩
    ·rw[if_neg h4] at HO3;cases HO3;obtain⟨hnl,hnum⟩:=HN.out rfl (by omega);have HNu:=hnum w3 HB3.out;clear HO2 HN htot hle hnum;generalize S.total s=tt at *
     go_wp2_with fail
     refine HNu.mono ?_;rintro e w4 ⟨vd,rfl,rd,b4⟩;have HB4:=qH <| HB3.out.trans (b4.mono HB3.out.size);have HU4:=HU.out trivial trivial hnl w4 vd HB4.out rd;obtain⟨dn,hdn⟩:∃n,n=(Pr.numbers s).length:=⟨_,rfl⟩;obtain⟨da,dc,rfl⟩:∃da dc,vd= .slice da dn dc:=by obtain⟨a,c,h,_⟩:=rd;exact⟨a,c,by rw[hdn];exact h⟩
     clear b4 HNu rd HU hnl hdn
     go_wp2_with fail
     refine HU4.mono ?_;rintro e w5 ⟨rfl,b5⟩;have HB5:=qH <| HB4.out.trans (b5.mono HB4.out.size);clear b5 HU4;go_wp2
     go_ret2
     exact⟨rfl,HB5.out⟩
   ·have HO3:=HO2.out;rw[if_pos h3] at HO3;cases HO3;clear HO2 HN HU htot hle;go_wp2
    go_ret2
    exact⟨rfl,HB3.out⟩
  ·rw[if_pos h2] at HO1;cases HO1;clear HC HN HU htot hle;go_wp2
   go_quiet (fail)
   go_wp2
   go_ret2
   exact⟨rfl,below_drewN (HA2.out _) _⟩
 ·have HO1:=HO.out;rw[if_pos h1] at HO1;cases HO1;clear HO HC HN HU htot hle HW2;go_wp2
  go_quiet (fail)
  go_wp2
  go_ret2
  exact⟨rfl,below_drewN (HA1.out _) _⟩
end
section
open Go.RowKit Go.Lib
namespace K
def OwnT (w:World) (g cap:Nat) (T:List Int):Prop:=∃cur,Row w g cur/\cur.length=cap/\T.length<=cap/\cap<=maxLen/\cur.take T.length=ints T
theorem zcq (xo:Option Addr)(N xc i j:Nat)(h:i<=j)(hj:j<=xc)(w':World):(Instr.slice 33 (.slice xo N xc) (some (.int .i64 (i:Int))) (some (.int .i64 (j:Int))) none).run prog w'= .ok (.slice (if xc=i then xo else Option.map (fun x=>x.add i) xo) (j - i) (xc - i)) w':=by
 have a1:(i:Int)<=j:=by omega
 have a2:(j:Int)<=xc:=by omega
 have a0:(0:Int)<=i:=by omega
 have a3:(0:Int)<=j:=by omega
 go_simp
theorem Row.app {w:World}{g:Nat}{cur:List Value}(h:Row w g cur)(i:Nat)(vr:Value)(R:List Int)(hR:L.Rd w vr .i32 R)(hfit:i+R.length<=cur.length) :
  ∃W,(∀ty,(Builtin.append_ #[33,33] ty #[.slice (some ⟨g,0,none⟩) i cur.length,vr]).run prog w= .ok (.slice (some ⟨g,0,none⟩) (i+R.length) cur.length) W)/\Row W g (spl cur i (ints R))/\w.grownBy W (some g):=by
 obtain⟨i0,hi,hz0,hz1,hz2⟩:=info_parts Tryz.infoI32;obtain⟨ao,c,rfl,hn,hc⟩:=hR
 by_cases h0:R= []
 ·subst h0;refine⟨w,fun ty=> ?_,by simpa [spl,ints] using h,⟨rfl,rfl,rfl,qN,fun _ _ _=>rfl⟩⟩
  have:=Go.run_append_nothing (P:=prog) w _ _ ty 21 i0 underlying33 hi (some ⟨g,0,none⟩) i cur.length (by simpa using hfit) (.slice ao 0 c) (by
   cases ao with
   | none=>exact Go.Src.ofNil w underlying33 c
   | some ad=>exact Go.Src.ofSlice w underlying33 ad 0 c [] (by simp) (fun j u h=>by simp at h) (fun u h=>by simp at h))
  simpa using this
 ·obtain⟨b,off,rfl,hcell⟩:=hc h0;refine⟨_,fun ty=> ?_,h.set (spl cur i (ints R)),zak _ _ _⟩
  have:=run_append_room (P:=prog) w 33 ty 21 i0 underlying33 hi g i cur.length _ h ⟨b,off,none⟩ R.length c (ints R) (by rw[zam,hz1];omega) (fun j u hj=>by
   obtain⟨z,hz,rfl⟩:=zc1 hj
   rw[L.addr_add];exact hcell j z hz) (zd0 R) hfit (by rw[hz1,zam];simpa using hfit)
  simpa [hz1,spl] using this
end K
theorem zs4 (w:World)(g:Nat)(cur:List Value)(h:K.Row w g cur)(T:List Int)(hT:T.length<=cur.length)(hcap:cur.length<=maxLen)(hcur:cur.take T.length=K.ints T)(h4:T.length<=4000)(i:Nat)(hi:i<T.length)(vr:Value)(R:List Int)(hR:L.Rd w vr .i32 R)(hm:R.length<=20)(hfit:i+R.length<=cur.length) :
  Calls prog 143 #[.slice (some ⟨g,0,none⟩) T.length cur.length,.int .i64 (i:Int),.int .i64 (T.length:Int),vr] w fun e w'=>e= .returned (.slice (some ⟨g,0,none⟩) (i+R.length) cur.length)/\K.OwnT w' g cur.length (T.take i++R)/\w.grownBy w' (some g):=by
 obtain⟨W1,hrun1,row1,gr1⟩:=h.app i vr R hR hfit;have hsp:(K.spl cur i (K.ints R)).length=cur.length:=K.zba (by rw[K.zam];omega);have hT':(T.take i++R).length=i+R.length:=by simp;omega
 have hspt:(K.spl cur i (K.ints R)).take (i+R.length)=K.ints (T.take i++R):=by
  have h1:=K.zdr (cur:=cur) (o:=i) (vs:=K.ints R) (by omega);rw[K.zam] at h1;rw[h1];unfold K.ints;rw[List.map_append,List.map_take];have h2:cur.take i=(cur.take T.length).take i:=by rw[List.take_take,Nat.min_eq_left (by omega)]
  rw[h2,hcur];rfl
 have hs0:=K.zcq (some ⟨g,0,none⟩) T.length cur.length i T.length (by omega) hT;have hs1:=K.zbb (some ⟨g,0,none⟩) T.length cur.length i (by omega);unfold maxLen at hcap;obtain⟨ao,c,rfl,_⟩:=hR;have HH:Hid (K.Row W1 g (K.spl cur i (K.ints R))/\w.grownBy W1 (some g)/\(K.spl cur i (K.ints R)).take (i+R.length)=K.ints (T.take i++R)/\(K.spl cur i (K.ints R)).length=cur.length):=⟨row1,gr1,hspt,hsp⟩
 by_cases hlt:i+R.length<T.length
 ·obtain⟨W2,hrun2,row2,gr2⟩:=row1.clear (i+R.length) (T.length - (i+R.length)) (cur.length - (i+R.length)) (by omega) (by rw[hsp];omega);have hs2:=K.zaz (some ⟨g,0,none⟩) T.length cur.length (i+R.length) (by omega) hT;rw[if_neg (by omega),Option.map_some,L.addr_add,Nat.zero_add] at hs2;have hne:¬(i:Int)=T.length:=by omega
  have HF:Hid (K.OwnT W2 g cur.length (T.take i++R)/\w.grownBy W2 (some g)):=by
   refine⟨⟨_,row2,by rw[K.zba (by rw[hsp];simp;omega)];exact hsp,by rw[hT'];omega,by unfold maxLen;omega,?_⟩,S.zaa gr1 gr2⟩;rw[hT',K.zhi (by rw[hsp];omega)];exact hspt
  clear row1 gr1 hspt hsp row2 gr2 HH h hcur
  go_enter func143,ntmps143
  go_wp2_with (at_builtin;first | refine Lib.wpList_append_run _ rfl _ _ _ _ rfl _ _ rfl rfl _ _ (hrun1 _) ?_ | refine K.ze7 _ rfl _ _ rfl _ rfl (hrun2 _) ?_)
  go_ret;exact⟨rfl,HF.out⟩
 ·have hne:¬(i:Int)=T.length:=by omega
  have HF:Hid (K.OwnT W1 g cur.length (T.take i++R)/\w.grownBy W1 (some g)):=⟨⟨_,row1,hsp,by rw[hT'];omega,by unfold maxLen;omega,by rw[hT'];exact hspt⟩,gr1⟩;clear row1 gr1 hspt hsp HH h hcur
  go_enter func143,ntmps143
  go_wp2_with (at_builtin;first | refine Lib.wpList_append_run _ rfl _ _ _ _ rfl _ _ rfl rfl _ _ (hrun1 _) ?_)
  go_ret;exact⟨rfl,HF.out⟩
theorem zqb (w:World)(B g:Nat)(hBg:B<=g)(cur:List Value)(h:K.Row w g cur)(T:List Int)(hT:T.length<=cur.length)(hcap:cur.length<=maxLen)(hcur:cur.take T.length=K.ints T)(h4:T.length<=4000)(i:Nat)(hi:i<T.length)(vr:Value)(R:List Int)(hR:L.Rd w vr .i32 R)(hm:R.length<=20)(hfit:cur.length<i+R.length) :
  Calls prog 143 #[.slice (some ⟨g,0,none⟩) T.length cur.length,.int .i64 (i:Int),.int .i64 (T.length:Int),vr] w fun e w'=>∃g' cap',e= .returned (.slice (some ⟨g',0,none⟩) (i+R.length) cap')/\w.heap.size<=g'/\K.OwnT w' g' cap' (T.take i++R)/\w.grownBy w' (some g):=by
 obtain⟨i0,hi0,hz0,hz1,hz2⟩:=info_parts Tryz.infoI32;obtain⟨ao,c,rfl,_,hc⟩:=hR;obtain⟨b,off,rfl,hcell⟩:=hc (by intro h;subst h;simp at hfit;omega);have hT':(T.take i++R).length=i+R.length:=by simp;omega
 obtain⟨v',W1,hrun1,own1,gr0⟩:=run_append_arg_grows (P:=prog) w 33 0 21 i0 (.int .i32 0) 1 4 underlying33 hi0 hz0 hz1 hz2 rfl (by decide) ⟨g,0,none⟩ i cur.length (K.ints (T.take i)) (by rw[K.zam,List.length_take];omega) (fun j u hj=>by
   obtain⟨z,hz,rfl⟩:=K.zc1 hj;have hjl:j<i:=by have:=(qL.1 hz).1;rw[List.length_take] at this;omega
   rw[L.addr_add,Nat.zero_add,h.cell];have e:cur[j]?=(cur.take T.length)[j]?:=by rw[List.getElem?_take,if_pos (by omega)]
   rw[e,hcur];unfold K.ints;rw[List.getElem?_take,if_pos hjl] at hz
   rw[List.getElem?_map,hz];rfl) ⟨b,off,none⟩ R.length c (K.ints R) (by rw[K.zam];omega) (fun j u hj=>by
   obtain⟨z,hz,rfl⟩:=K.zc1 hj
   rw[L.addr_add];exact hcell j z hz) (by omega) (by unfold maxLen;omega) (by omega)
 have gr1:w.grownBy W1 (some g):=⟨gr0.os,gr0.tape,gr0.output,gr0.size,fun k hk _=>gr0.block k hk (by simp)⟩
 obtain⟨g',cap',cur',rfl,hB',hg',hle,hmax,hsz,htk⟩:∃g' cap' cur',v'= .slice (some ⟨g',0,none⟩) (i+R.length) cap'/\w.heap.size<=g'/\W1.heap[g']?=some (.cells cur' 21 (0,0))/\i+R.length<=cap'/\cap'<=maxLen/\cur'.size=cap'*1/\cur'.toList.take ((i+R.length)*1)=K.ints (T.take i)++K.ints R:=by
  rcases own1.2 with ⟨_,h0⟩ | h
  ·omega
  ·exact h
 have hty:∀ty,(Builtin.append_ #[33,33] ty #[.slice (some ⟨g,0,none⟩) i cur.length,.slice (some ⟨b,off,none⟩) R.length c]).run prog w= .ok (.slice (some ⟨g',0,none⟩) (i+R.length) cap') W1:=fun ty=>hrun1
 have HF:Hid (w.heap.size<=g'/\K.OwnT W1 g' cap' (T.take i++R)/\w.grownBy W1 (some g)):=by
  refine⟨hB',⟨cur'.toList,by simpa [K.Row] using hg',by simpa using hsz,by rw[hT'];exact hle,hmax,?_⟩,gr1⟩;rw[hT',<- Nat.mul_one (i+R.length),htk];unfold K.ints;rw[List.map_append]
 have hs0:=K.zcq (some ⟨g,0,none⟩) T.length cur.length i T.length (by omega) hT;have hs1:=K.zbb (some ⟨g,0,none⟩) T.length cur.length i (by omega);have hne:¬(i:Int)=T.length:=by omega
 have hlt:¬(i:Int)+R.length<T.length:=by omega
 unfold maxLen at hcap;clear hc hcell own1 gr1 hg' hsz htk hrun1 h hcur hB'
 go_enter func143,ntmps143
 go_wp2_with (at_builtin;first | refine Lib.wpList_append_run _ rfl _ _ _ _ rfl _ _ rfl rfl _ _ (hty _) ?_)
 go_ret;exact⟨g',cap',rfl,HF.out⟩
end
section
open Go.RowKit Go.Lib
namespace K
theorem Row.copyR {w:World}{g:Nat}{cur:List Value}(h:Row w g cur)(o dl dc:Nat)(vr:Value)(R:List Int)(hR:L.Rd w vr .i32 R)(hd:R.length<=dl)(hfit:o+R.length<=cur.length) :
  ∃W,(∀ty,(Builtin.copy_ #[33,33] ty #[.slice (some ⟨g,o,none⟩) dl dc,vr]).run prog w= .ok (goInt R.length) W)/\Row W g (spl cur o (ints R))/\w.grownBy W (some g):=by
 obtain⟨ao,c,rfl,hn,hc⟩:=hR
 by_cases h0:R= []
 ·subst h0;exact⟨w,fun ty=>zjc w _ _ _ _ _ ty,by simpa [spl,ints] using h,⟨rfl,rfl,rfl,qN,fun _ _ _=>rfl⟩⟩
 ·obtain⟨b,off,rfl,hcell⟩:=hc h0
  obtain⟨W,h1,h2,h3⟩:=h.copy o dl dc ⟨b,off,none⟩ R.length c (ints R) (by rw[zam,Nat.min_eq_left hd]) (fun j u hj=>by
   obtain⟨z,hz,rfl⟩:=zc1 hj
   rw[L.addr_add];exact hcell j z hz) (by rw[zam];exact hfit) (zd0 R)
  exact⟨W,fun ty=>by rw[h1 ty,zam],h2,h3⟩
theorem clear0 (w:World)(ao:Option Addr)(c:Nat)(ty:TypeId):(Builtin.clear_ #[33] ty #[.slice ao 0 c]).run prog w= .ok (.tuple #[]) w:=by
 obtain⟨i0,hi,hz0,hz1,hz2⟩:=info_parts Tryz.infoI32;have hv:∀w,(zeroValue 21).run prog w= .ok (.int .i32 0) w:=fun w=>by simp[zeroValue,typeInfo,hi,hz0]
 cases ao <;> simp[Builtin.clear_,run_underlying underlying33,hv,Builtin.zeroCells,storeCells]
theorem Row.rdBehind {w:World}{g:Nat}{cur:List Value}(h:Row w g cur){T:List Int}{j D c:Nat}(hN:T.length=j+D)(hd:∀k,k<D->cur[j+k]?=(ints T)[j+k]?):L.Rd w (.slice (some ⟨g,j,none⟩) D c) .i32 (T.drop j):=by
 refine⟨some ⟨g,j,none⟩,c,(by rw[List.length_drop,hN];congr 1;omega),(fun e=>by cases e),fun _=>⟨g,j,rfl,fun k z hk=> ?_⟩⟩
 have hlt:k<D:=by
  have:=(qL.1 hk).1;rw[List.length_drop] at this;omega
 rw[h.cell,hd k hlt];rw[List.getElem?_drop] at hk;unfold ints;rw[List.getElem?_map,hk];rfl
theorem zbx (w:World)(r:Option Nat):w.grownBy w.drew r:=⟨rfl,rfl,rfl,qN,fun _ _ _=>rfl⟩
end K
theorem zvl (w:World)(g:Nat)(cur:List Value)(h:K.Row w g cur)(T:List Int)(hT:T.length<=cur.length)(hcap:cur.length<=maxLen)(hcur:cur.take T.length=K.ints T)(h4:T.length<=4000)(i j D:Nat)(hi:i<j)(hN:T.length=j+D)(hD:0<D)(vr:Value)(R:List Int)(hR:∀w',w.grownBy w' (some g)->L.Rd w' vr .i32 R)(hfit:i+R.length<=j) :
  Calls prog 143 #[.slice (some ⟨g,0,none⟩) T.length cur.length,.int .i64 (i:Int),.int .i64 (j:Int),vr] w fun e w'=>e= .returned (.slice (some ⟨g,0,none⟩) (i+R.length+D) cur.length)/\K.OwnT w' g cur.length (T.take i++R++T.drop j)/\w.grownBy w' (some g):=by
 have hgetT:∀k,k<T.length->cur[k]?=(K.ints T)[k]?:=fun k hk=>by rw[<- hcur,List.getElem?_take,if_pos hk]
 have gr0:w.grownBy w.drew (some g):=K.zbx w _;obtain⟨W1,hrun1,row1,gr1⟩:=h.drew.copyR i (i+R.length+D - i) (cur.length - i) vr R (hR _ gr0) (by omega) (by omega);have hsp1:(K.spl cur i (K.ints R)).length=cur.length:=K.zba (by rw[K.zam];omega)
 have hRd:L.Rd W1.drew (.slice (some ⟨g,j,none⟩) D (cur.length - j)) .i32 (T.drop j):=row1.drew.rdBehind hN fun k hk=>by
  have e:(K.spl cur i (K.ints R)).drop j=cur.drop j:=K.zst (by omega) (by rw[K.zam];omega);have e2:=congrArg (fun l:List Value=>l[k]?) e;simp only[List.getElem?_drop] at e2;rw[e2];exact hgetT _ (by omega)
 obtain⟨W2,hrun2,row2,gr2⟩:=row1.drew.copyR (i+R.length) D (cur.length - (i+R.length)) _ (T.drop j) hRd (by rw[List.length_drop];omega) (by rw[List.length_drop,hsp1];omega);have hdl:(T.drop j).length=D:=by rw[List.length_drop];omega
 have hsp2:(K.spl (K.spl cur i (K.ints R)) (i+R.length) (K.ints (T.drop j))).length=cur.length:=by rw[K.zba (by rw[K.zam,hdl,hsp1];omega)];exact hsp1
 have htk:(K.spl (K.spl cur i (K.ints R)) (i+R.length) (K.ints (T.drop j))).take (i+R.length+D)=K.ints (T.take i++R++T.drop j):=by
  have e1:=K.zdr (cur:=K.spl cur i (K.ints R)) (o:=i+R.length) (vs:=K.ints (T.drop j)) (by rw[hsp1];omega);have e2:=K.zdr (cur:=cur) (o:=i) (vs:=K.ints R) (by omega);rw[K.zam,hdl] at e1;rw[K.zam] at e2;rw[e1,e2];have h2:cur.take i=(cur.take T.length).take i:=by rw[List.take_take,Nat.min_eq_left (by omega)]
  rw[h2,hcur];unfold K.ints;rw[List.map_append,List.map_append,List.map_take]
 have hT':(T.take i++R++T.drop j).length=i+R.length+D:=by simp;omega
 rw[hdl] at hrun2;have hs0:=K.zcq (some ⟨g,0,none⟩) T.length cur.length i j (by omega) (by omega);have hs1:=K.zbb (some ⟨g,0,none⟩) T.length cur.length i (by omega);have hsj:=K.zaz (some ⟨g,0,none⟩) T.length cur.length j (by omega) hT;rw[if_neg (by omega),Option.map_some,L.addr_add,Nat.zero_add,show T.length - j=D by omega] at hsj;have hstot:=K.zbb (some ⟨g,0,none⟩) T.length cur.length (i+R.length+D) (by omega);have hri:=K.zaz (some ⟨g,0,none⟩) (i+R.length+D) cur.length i (by omega) (by omega);rw[if_neg (by omega),Option.map_some,L.addr_add,Nat.zero_add] at hri;have hrim:=K.zaz (some ⟨g,0,none⟩) (i+R.length+D) cur.length (i+R.length) (by omega) (by omega);rw[if_neg (by omega),Option.map_some,L.addr_add,Nat.zero_add,show i+R.length+D - (i+R.length)=D by omega] at hrim;have gr02:=S.zaa (S.zaa gr0 gr1) (S.zaa (K.zbx _ _) gr2);have hne:¬(i:Int)=j:=by omega
 have hne2:¬(j:Int)=T.length:=by omega
 obtain⟨ao,c,rfl,_⟩:=hR w ⟨rfl,rfl,rfl,qN,fun _ _ _=>rfl⟩;unfold maxLen at hcap;have HF0:Hid (K.Row W2 g (K.spl (K.spl cur i (K.ints R)) (i+R.length) (K.ints (T.drop j)))/\(K.spl (K.spl cur i (K.ints R)) (i+R.length) (K.ints (T.drop j))).take (i+R.length+D)=K.ints (T.take i++R++T.drop j)/\w.grownBy W2 (some g)):=⟨row2,htk,gr02⟩;have hN1:T.length<=j+D:=by omega
 have hN2:j+D<=T.length:=by omega
 clear hgetT row1 gr0 gr1 gr2 gr02 htk h hcur hR hRd hdl hN
 by_cases hlt:i+R.length+D<T.length
 ·obtain⟨W3,hrun3,row3,gr3⟩:=row2.clear (i+R.length+D) (T.length - (i+R.length+D)) (cur.length - (i+R.length+D)) (by omega) (by rw[hsp2];omega);have hclr:=K.zaz (some ⟨g,0,none⟩) T.length cur.length (i+R.length+D) (by omega) hT;rw[if_neg (by omega),Option.map_some,L.addr_add,Nat.zero_add] at hclr
  have HF:Hid (K.OwnT W3 g cur.length (T.take i++R++T.drop j)/\w.grownBy W3 (some g)):=by
   refine⟨⟨_,row3,by rw[K.zba (by rw[hsp2];simp;omega)];exact hsp2,by rw[hT'];omega,by unfold maxLen;omega,?_⟩,S.zaa HF0.out.2.2 gr3⟩;rw[hT',K.zhi (by rw[hsp2];omega)];exact HF0.out.2.1
  clear row2 row3 gr3 hsp1 hsp2 HF0
  go_enter func143,ntmps143
  go_wp2
  go_region
  go_wp2_with (at_builtin;first | refine K.ze2 _ rfl _ _ _ _ rfl _ _ rfl rfl (hrun1 _) ?_)
  clear hrun1
  go_region
  clear hrun2
  go_wp2_with (at_builtin;first | refine K.ze7 _ rfl _ _ rfl _ rfl (hrun3 _) ?_)
  go_ret;exact⟨rfl,HF.out⟩
 ·have hfull:i+R.length+D=T.length:=by omega
  have HF:Hid (K.OwnT W2 g cur.length (T.take i++R++T.drop j)/\w.grownBy W2 (some g)):=⟨⟨_,row2,hsp2,by rw[hT'];omega,by unfold maxLen;omega,by rw[hT'];exact HF0.out.2.1⟩,HF0.out.2.2⟩;have hrun3:=K.clear0 W2;have hf1:T.length<=i+R.length+D:=by omega
  have hf2:i+R.length+D<=T.length:=by omega
  clear row2 hsp1 hsp2 HF0 hfull hlt
  go_enter func143,ntmps143
  go_wp2
  go_region
  go_wp2_with (at_builtin;first | refine K.ze2 _ rfl _ _ _ _ rfl _ _ rfl rfl (hrun1 _) ?_)
  clear hrun1
  go_region
  clear hrun2
  go_wp2_with (at_builtin;first | refine K.ze7 _ rfl _ _ rfl _ rfl (hrun3 _ _ _) ?_)
  all_goals
   go_ret;have hh:=HF.out
   first
    | exact⟨rfl,hh⟩
    | (simp only[List.append_assoc] at hh;exact⟨rfl,hh⟩)
    | (simp only[List.append_assoc] at hh;rw[show cur.length=i+R.length+D by assumption] at hh;exact⟨rfl,hh⟩)
end
section
open Go.RowKit Go.Lib
namespace K
theorem zss {cur:List Value}{o:Nat}{vs:List Value}(h:o<=cur.length):(spl cur o vs).drop o=vs++cur.drop (o+vs.length):=by
 unfold spl;have e:(cur.take o).length=o:=by simp;omega
 rw[List.append_assoc,List.drop_append,e,Nat.sub_self,List.drop_zero,List.drop_eq_nil_of_le (by omega),List.nil_append]
theorem zu7 {cur:List Value}{i m:Nat}{A R:List Value}(hR:R.length=m)(h:i+m<=cur.length):(spl (spl cur (i+m) A) i R).take (i+m+A.length)=cur.take i++R++A:=by
 have e1:(spl cur (i+m) A).take i=cur.take i:=zj1 h (by omega);have e2:(spl cur (i+m) A).drop (i+m)=A++cur.drop (i+m+A.length):=zss h;show ((spl cur (i+m) A).take i++R++(spl cur (i+m) A).drop (i+R.length)).take (i+m+A.length)=_;rw[hR,e1,e2,<- List.append_assoc];have e3:(cur.take i++R++A).length=i+m+A.length:=by simp;omega
 rw[<- e3,List.take_left]
theorem zhk {w:World}{b o:Nat}{v:Value}(h:w.cell? ⟨b,o,none⟩=some v):∃t k,w.shape? b=some (t,k)/\k≠0:=by
 unfold World.cell? at h;unfold World.shape?;cases hb:w.heap[b]? with
 | none=>rw[show w.heap[(⟨b,o,none⟩:Addr).block]?=none from hb] at h;cases h
 | some x =>
  rw[show w.heap[(⟨b,o,none⟩:Addr).block]?=some x from hb] at h;cases x with
  | cells c t f =>
   refine⟨t,c.size,rfl,fun h0=> ?_⟩;have h1:c[o]?=some v:=by simpa using h
   have:=(qA.1 h1).1;omega
  | _=>cases h
end K
theorem zp9 (w:World)(g:Nat)(cur:List Value)(h:K.Row w g cur)(T:List Int)(hT:T.length<=cur.length)(hcap:cur.length<=maxLen)(hcur:cur.take T.length=K.ints T)(h4:T.length<=4000)(i j D:Nat)(hi:i<j)(hN:T.length=j+D)(hD:0<D)(vr:Value)(R:List Int)(hR:∀w',w.grownBy w' (some g)->L.Rd w' vr .i32 R)(hne0:vr.ownBlock≠some g)(hwide:j<i+R.length)(hfit:i+R.length+D<=cur.length)(hm:R.length<=20) :
  Calls prog 143 #[.slice (some ⟨g,0,none⟩) T.length cur.length,.int .i64 (i:Int),.int .i64 (j:Int),vr] w fun e w'=>e= .returned (.slice (some ⟨g,0,none⟩) (i+R.length+D) cur.length)/\K.OwnT w' g cur.length (T.take i++R++T.drop j)/\w.grownBy w' (some g):=by
 have hgetT:∀k,k<T.length->cur[k]?=(K.ints T)[k]?:=fun k hk=>by rw[<- hcur,List.getElem?_take,if_pos hk]
 have gr0:w.grownBy w.drew.drew (some g):=S.zaa (K.zbx w _) (K.zbx _ _);have hdl:(T.drop j).length=D:=by rw[List.length_drop];omega
 obtain⟨W1,hrun1,row1,gr1⟩:=h.drew.drew.copyR (i+R.length) D (cur.length - (i+R.length)) (.slice (some ⟨g,j,none⟩) D (cur.length - j)) (T.drop j) (h.drew.drew.rdBehind hN fun k hk=>hgetT _ (by omega)) (by rw[hdl];omega) (by rw[hdl];omega);have hsp1:(K.spl cur (i+R.length) (K.ints (T.drop j))).length=cur.length:=K.zba (by rw[K.zam,hdl];omega);have gr01:=S.zaa gr0 gr1;obtain⟨W2,hrun2,row2,gr2⟩:=row1.copyR i (i+R.length+D - i) (cur.length - i) vr R (hR _ gr01) (by omega) (by rw[hsp1];omega);have htk:=K.zu7 (cur:=cur) (i:=i) (m:=R.length) (A:=K.ints (T.drop j)) (R:=K.ints R) (K.zam R) (by omega);rw[K.zam,hdl] at htk;rw[hdl] at hrun1;have hT':(T.take i++R++T.drop j).length=i+R.length+D:=by simp;omega
 have HF:Hid (K.OwnT W2 g cur.length (T.take i++R++T.drop j)/\w.grownBy W2 (some g)):=by
  refine⟨⟨_,row2,by rw[K.zba (by rw[K.zam,hsp1];omega)];exact hsp1,by rw[hT'];omega,hcap,?_⟩,S.zaa gr01 gr2⟩;rw[hT',htk];have h2:cur.take i=(cur.take T.length).take i:=by rw[List.take_take,Nat.min_eq_left (by omega)]
  rw[h2,hcur];unfold K.ints;rw[List.map_append,List.map_append,List.map_take]
 obtain⟨ao,c,rfl,_,hc⟩:=hR w.drew (K.zbx _ _);obtain⟨b,off,rfl,hcell⟩:=hc (by intro h;subst h;simp at hwide;omega);have hbg:g≠b:=fun e=>hne0 (by rw[e];rfl)
 obtain⟨z,hz⟩:∃z,R[0]?=some z:=⟨R[0]'(by omega),by simp[show 0<R.length by omega]⟩;obtain⟨tB,kB,hsb,hkB⟩:=K.zhk (hcell 0 z hz)
 have hsa:w.drew.shape? g=some (21,cur.length):=by
  have e:w.drew.heap[g]?=some (.cells cur.toArray 21 (0,0)):=h;unfold World.shape?;rw[e];simp
 obtain⟨i0,hi0,hz0,hz1,hz2⟩:=info_parts Tryz.infoI32
 have hov:(callFunc 182 #[.slice (some ⟨g,i+R.length,none⟩) D (cur.length - (i+R.length)),.slice (some ⟨b,off,none⟩) R.length c]).run prog w.drew= .ok (.value (.bool false)) w.drew:=by
  rw[run_callFunc_extern func182 (by kernel_rfl) (by kernel_rfl) (by kernel_rfl) (e:=Extern.SlicesOverlaps.overlaps #[33,33] #[4]) (by kernel_rfl),
   Lib.run_overlaps_apart w.drew 33 4 21 underlying33 1 (fun w=>by simp[sizeOf,typeInfo,hi0,hz1]) ⟨g,i+R.length,none⟩ ⟨b,off,none⟩ D (cur.length - (i+R.length)) R.length c hbg 21 tB cur.length kB hsa hsb hkB (h.drew.free _) (h.drew.free _)]
  rfl
 have hs0:=K.zcq (some ⟨g,0,none⟩) T.length cur.length i j (by omega) (by omega);have hs1:=K.zbb (some ⟨g,0,none⟩) T.length cur.length i (by omega);have hsj:=K.zaz (some ⟨g,0,none⟩) T.length cur.length j (by omega) hT;rw[if_neg (by omega),Option.map_some,L.addr_add,Nat.zero_add,show T.length - j=D by omega] at hsj;have hstot:=K.zbb (some ⟨g,0,none⟩) T.length cur.length (i+R.length+D) (by omega);have hri:=K.zaz (some ⟨g,0,none⟩) (i+R.length+D) cur.length i (by omega) (by omega);rw[if_neg (by omega),Option.map_some,L.addr_add,Nat.zero_add] at hri;have hrim:=K.zaz (some ⟨g,0,none⟩) (i+R.length+D) cur.length (i+R.length) (by omega) (by omega);rw[if_neg (by omega),Option.map_some,L.addr_add,Nat.zero_add,show i+R.length+D - (i+R.length)=D by omega] at hrim;have hne:¬(i:Int)=j:=by omega
 have hne2:¬(j:Int)=T.length:=by omega
 unfold maxLen at hcap;have hN1:T.length<=j+D:=by omega
 have hN2:j+D<=T.length:=by omega
 clear hgetT row1 row2 gr0 gr1 gr01 gr2 htk h hcur hR hdl hN hsp1 hc hcell hsa hsb hz hT'
 go_enter func143,ntmps143
 go_wp2
 go_region
 go_wp2
 go_region
 clear hrun1 hov
 go_wp2_with (at_builtin;first | refine K.ze2 _ rfl _ _ _ _ rfl _ _ rfl rfl (hrun2 _) ?_)
 go_ret;exact⟨rfl,HF.out⟩
namespace K
theorem zn9 (w:World)(g:Nat)(cur:List Value)(h:Row w g cur)(i k:Nat)(hi:i<=cur.length)(hk:0<k)(hg:cur.length<i+k)(hl:i+k<=8000) :
  ∃cap' cur' W,(∀ty,(Builtin.append_ #[33,3] ty #[.slice (some ⟨g,0,none⟩) i cur.length,.int .i64 (k:Int)]).run prog w= .ok (.slice (some ⟨w.heap.size,0,none⟩) (i+k) cap') W)/\Row W w.heap.size cur'/\cur'.length=cap'/\cur'.take i=cur.take i/\i+k<=cap'/\cap'<=maxLen/\w.grownBy W none:=by
 obtain⟨i0,hi0,hz0,hz1,hz2⟩:=info_parts Tryz.infoI32;have hG:=grownCap_ge w (i+k) cur.length 21;have hG63:=grownCap_le_maxLen w (i+k) cur.length 21 (by unfold maxLen;omega)
 have hold:(Builtin.firstCells i0.size i (.slice (some ⟨g,0,none⟩) i cur.length)).run prog w.drew= .ok (cur.take i).toArray w.drew:=by
  rw[hz1];refine run_firstCells_some w.drew 1 i ⟨g,0,none⟩ i cur.length (cur.take i) (by simp;omega) fun j u hj=> ?_
  rw[L.addr_add,Nat.zero_add];have:=h.drew.cell j;rw[this];rw[List.getElem?_take] at hj;split at hj
  ·exact hj
  ·cases hj
 refine⟨_,(cur.take i++List.replicate k (.int .i32 0)++List.replicate (grownCap w (i+k) cur.length 21 - (i+k)) (.int .i32 0)),_,fun ty=>Lib.run_append_grow_zeros w 33 3 ty 21 i0 (.int .i32 0) .i64 .i64 underlying33 underlying3 hi0 hz0 (some ⟨g,0,none⟩) i cur.length (cur.take i) hold k hk (by omega) hg (by omega) (by rw[hz2];omega) (by rw[hz2];exact growslice_fits (by omega) (by omega)),?_,?_,?_,hG,hG63,?_⟩
 ·unfold Row;have:=heap_alloc_new w.drew (.cells ((cur.take i).toArray++Builtin.zeroCells (Value.int .i32 0).cells k++Builtin.zeroCells (Value.int .i32 0).cells (grownCap w (i+k) cur.length 21 - (i+k))) 21);rw[show w.heap.size=w.drew.heap.size from rfl,this]
  have hzc:∀n,(Builtin.zeroCells (Value.int .i32 0).cells n)=(List.replicate n (.int .i32 0)).toArray:=fun n=>by
   apply Array.ext
   ·simp[Builtin.zeroCells,Value.cells]
   ·intro j h1 h2;simp[Builtin.zeroCells,Value.cells,Nat.mod_one]
  rw[hzc,hzc];simp
 ·simp;omega
 ·rw[List.append_assoc,List.take_append_of_le_length (by simp;omega),List.take_take,Nat.min_self]
 ·exact⟨rfl,rfl,rfl,by simp,fun k hk _=>Below.heap_alloc w.drew _ k hk⟩
end K
end
section
open Go.RowKit Go.Lib
theorem zqa (w:World)(B g:Nat)(hBg:B<=g)(cur:List Value)(h:K.Row w g cur)(T:List Int)(hT:T.length<=cur.length)(hcap:cur.length<=maxLen)(hcur:cur.take T.length=K.ints T)(h4:T.length<=4000)(i j D:Nat)(hi:i<j)(hN:T.length=j+D)(hD:0<D)(vr:Value)(R:List Int)(hR:∀w',w.grownBy w' (some g)->L.Rd w' vr .i32 R)(hR2:∀w',w.grownBy w' (some w.heap.size)->L.Rd w' vr .i32 R)(hfit:cur.length<i+R.length+D)(hm:R.length<=20) :
  Calls prog 143 #[.slice (some ⟨g,0,none⟩) T.length cur.length,.int .i64 (i:Int),.int .i64 (j:Int),vr] w fun e w'=>∃g' cap',e= .returned (.slice (some ⟨g',0,none⟩) (i+R.length+D) cap')/\w.heap.size<=g'/\K.OwnT w' g' cap' (T.take i++R++T.drop j)/\w.grownBy w' (some g):=by
 have hgetT:∀k,k<T.length->cur[k]?=(K.ints T)[k]?:=fun k hk=>by rw[<- hcur,List.getElem?_take,if_pos hk]
 have hdl:(T.drop j).length=D:=by rw[List.length_drop];omega
 obtain⟨cap',cur',W0,hrun0,row0,hl0,hp0,hle0,hmax0,gr0⟩:=K.zn9 w.drew g cur h.drew i (R.length+D) (by omega) (by omega) (by omega) (by omega);have row0:K.Row W0 w.heap.size cur':=row0;have hbl:∀X,w.grownBy X (some w.heap.size)->∀Y,X.grownBy Y (some w.heap.size)->w.grownBy Y (some w.heap.size):=fun X h1 Y h2=>S.zaa h1 h2
 have gw0:w.grownBy W0 (some w.heap.size):=⟨gr0.os,gr0.tape,gr0.output,gr0.size,fun k hk hne=>gr0.block k hk (by simp)⟩;obtain⟨W1,hrun1,row1,gr1⟩:=row0.copyR i (i+R.length+D - i) (cap' - i) vr R (hR2 _ gw0) (by omega) (by omega);have hsp1:(K.spl cur' i (K.ints R)).length=cap':=by rw[K.zba (by rw[K.zam];omega)];exact hl0
 have gw1:=S.zaa gw0 gr1;have hRow:K.Row W1.drew g cur:=h.block (gw1.block g h.lt (by have:=h.lt;simp;omega));obtain⟨W2,hrun2,row2,gr2⟩:=row1.drew.copyR (i+R.length) D (cap' - (i+R.length)) (.slice (some ⟨g,j,none⟩) D (cur.length - j)) (T.drop j) (hRow.rdBehind hN fun k hk=>hgetT _ (by omega)) (by rw[hdl];omega) (by rw[hdl,hsp1];omega);have gw2:=S.zaa gw1 (S.zaa (K.zbx _ _) gr2);have hsp2:(K.spl (K.spl cur' i (K.ints R)) (i+R.length) (K.ints (T.drop j))).length=cap':=by rw[K.zba (by rw[K.zam,hdl,hsp1];omega)];exact hsp1
 have htk:(K.spl (K.spl cur' i (K.ints R)) (i+R.length) (K.ints (T.drop j))).take (i+R.length+D)=K.ints (T.take i++R++T.drop j):=by
  have e1:=K.zdr (cur:=K.spl cur' i (K.ints R)) (o:=i+R.length) (vs:=K.ints (T.drop j)) (by rw[hsp1];omega);have e2:=K.zdr (cur:=cur') (o:=i) (vs:=K.ints R) (by omega);rw[K.zam,hdl] at e1;rw[K.zam] at e2;rw[e1,e2,hp0];have h2:cur.take i=(cur.take T.length).take i:=by rw[List.take_take,Nat.min_eq_left (by omega)]
  rw[h2,hcur];unfold K.ints;rw[List.map_append,List.map_append,List.map_take]
 have hT':(T.take i++R++T.drop j).length=i+R.length+D:=by simp;omega
 rw[hdl] at hrun2
 have HF:Hid (w.heap.size<=w.heap.size/\K.OwnT W2 w.heap.size cap' (T.take i++R++T.drop j)/\w.grownBy W2 (some g)):=by
  refine⟨qN,⟨_,row2,hsp2,by rw[hT'];omega,hmax0,by rw[hT'];exact htk⟩,gw2.os,gw2.tape,gw2.output,gw2.size,fun k hk _=>gw2.block k hk (by simp;omega)⟩
 have hs0:=K.zcq (some ⟨g,0,none⟩) T.length cur.length i j (by omega) (by omega);have hs1:=K.zbb (some ⟨g,0,none⟩) T.length cur.length i (by omega);have hsj:=K.zaz (some ⟨g,0,none⟩) T.length cur.length j (by omega) hT;rw[if_neg (by omega),Option.map_some,L.addr_add,Nat.zero_add,show T.length - j=D by omega] at hsj;have hri:=K.zaz (some ⟨w.heap.size,0,none⟩) (i+R.length+D) cap' i (by omega) (by omega);rw[if_neg (by omega),Option.map_some,L.addr_add,Nat.zero_add] at hri;have hrim:=K.zaz (some ⟨w.heap.size,0,none⟩) (i+R.length+D) cap' (i+R.length) (by omega) (by omega);rw[if_neg (by omega),Option.map_some,L.addr_add,Nat.zero_add,show i+R.length+D - (i+R.length)=D by omega] at hrim;have hne:¬(i:Int)=j:=by omega
 have hne2:¬(j:Int)=T.length:=by omega
 obtain⟨ao,c,rfl,_⟩:=hR w ⟨rfl,rfl,rfl,qN,fun _ _ _=>rfl⟩;unfold maxLen at hcap hmax0;have hN1:T.length<=j+D:=by omega
 have hN2:j+D<=T.length:=by omega
 clear hgetT row0 row1 row2 gr0 gw0 gr1 gw1 gr2 gw2 htk h hcur hR hR2 hdl hN hsp1 hsp2 hT' hRow hbl hp0 hl0;rw[show w.drew.heap.size=w.heap.size from rfl] at hrun0
 have HX:Hid ((Builtin.append_ #[33,3] 33 #[.slice (some ⟨g,0,none⟩) i cur.length,.int .i64 ((i:Int)+R.length+D - i)]).run prog w.drew= .ok (.slice (some ⟨w.heap.size,0,none⟩) (i+R.length+D) cap') W0):=by
  have:=hrun0 33;rw[show (i:Int)+R.length+D - i=((R.length+D:Nat):Int) by omega,Nat.add_assoc];exact this
 go_enter func143,ntmps143
 go_wp2
 go_region
 go_wp2_with (at_builtin;first | refine Lib.wpList_append_run _ rfl _ _ _ _ rfl _ _ rfl rfl _ _ HX.out ?_ | refine K.ze2 _ rfl _ _ _ _ rfl _ _ rfl rfl (hrun1 _) ?_)
 clear hrun1 HX hrun0
 go_region
 clear hrun2;go_wp2;go_ret;exact⟨_,_,rfl,HF.out⟩
end
section
open Go.RowKit Go.Lib
theorem zqc (w:World)(B g:Nat)(hBg:B<=g)(cap:Nat)(T:List Int)(hO:K.OwnT w g cap T)(h4:T.length<=4000)(i s:Nat)(hs:0<s)(his:i+s<=T.length)(vr:Value)(R:List Int)(hR:∀w',(∀b,b<B->w'.heap[b]?=w.heap[b]?)->L.Rd w' vr .i32 R)(hvb:R≠ []->vr.ownBlock≠some g)(hm:R.length<=20) :
  Calls prog 143 #[.slice (some ⟨g,0,none⟩) T.length cap,.int .i64 (i:Int),.int .i64 ((i+s:Nat):Int),vr] w fun e w'=>∃g' cap',e= .returned (.slice (some ⟨g',0,none⟩) (T.take i++R++T.drop (i+s)).length cap')/\B<=g'/\K.OwnT w' g' cap' (T.take i++R++T.drop (i+s))/\w.grownBy w' (some g)/\(g'=g∨w.heap.size<=g'):=by
 obtain⟨cur,row,hcl,hfit,hmax,hcur⟩:=hO;subst hcl;have hlt:=row.lt;have hRg:∀w',w.grownBy w' (some g)->L.Rd w' vr .i32 R:=fun w' h=>hR w' fun b hb=>h.block b (by omega) (by simp;omega)
 have hRn:∀w',w.grownBy w' (some w.heap.size)->L.Rd w' vr .i32 R:=fun w' h=>hR w' fun b hb=>h.block b (by omega) (by simp;omega)
 obtain⟨j,hj⟩:∃j,j=i+s:=⟨_,rfl⟩;rw[<- hj]
 by_cases hend:j=T.length
 ·have hd:T.drop j= []:=List.drop_eq_nil_of_le (by omega);have hl:(T.take i++R++T.drop j).length=i+R.length:=by rw[hd];simp;omega
  rw[hl,hd,List.append_nil,hend]
  by_cases hf:i+R.length<=cur.length
  ·exact(zs4 w g cur row T hfit hmax hcur h4 i (by omega) vr R (hRg w ⟨rfl,rfl,rfl,qN,fun _ _ _=>rfl⟩) hm hf).mono fun e w' ⟨h1,h2,h3⟩=>⟨g,cur.length,h1,hBg,h2,h3,.inl rfl⟩
  ·exact(zqb w B g hBg cur row T hfit hmax hcur h4 i (by omega) vr R (hRg w ⟨rfl,rfl,rfl,qN,fun _ _ _=>rfl⟩) hm (by omega)).mono fun e w' ⟨g',c',h1,h2,h3,h4⟩=>⟨g',c',h1,by omega,h3,h4,.inr h2⟩
 ·obtain⟨D,hD⟩:∃D,T.length=j+D:=⟨T.length - j,by omega⟩;have hl:(T.take i++R++T.drop j).length=i+R.length+D:=by simp;omega
  rw[hl]
  by_cases hf:i+R.length+D<=cur.length
  ·by_cases hw:i+R.length<=j
   ·exact(zvl w g cur row T hfit hmax hcur h4 i j D (by omega) hD (by omega) vr R hRg hw).mono fun e w' ⟨h1,h2,h3⟩=>⟨g,cur.length,h1,hBg,h2,h3,.inl rfl⟩
   ·exact(zp9 w g cur row T hfit hmax hcur h4 i j D (by omega) hD (by omega) vr R hRg (hvb (by intro h;subst h;simp at hw;omega)) (by omega) hf hm).mono fun e w' ⟨h1,h2,h3⟩=>⟨g,cur.length,h1,hBg,h2,h3,.inl rfl⟩
  ·exact(zqa w B g hBg cur row T hfit hmax hcur h4 i j D (by omega) hD (by omega) vr R hRg hRn (by omega) hm).mono fun e w' ⟨g',c',h1,h2,h3,h4⟩=>⟨g',c',h1,by omega,h3,h4,.inr h2⟩
theorem zs5 (w:World)(B g:Nat)(hBg:B<=g)(cap:Nat)(T:List Int)(hO:K.OwnT w g cap T)(h4:T.length<=4000)(i s:Nat)(hs:0<s)(his:i+s<=T.length)(vr:Value)(R:List Int)(hR:∀w',(∀b,b<B->w'.heap[b]?=w.heap[b]?)->L.Rd w' vr .i32 R)(hvb:R≠ []->vr.ownBlock≠some g)(hm:R.length<=20) :
  Calls prog 143 #[.slice (some ⟨g,0,none⟩) T.length cap,.int .i64 (i:Int),.int .i64 ((i+s:Nat):Int),vr] w fun e w'=>∃g' cap',e= .returned (.slice (some ⟨g',0,none⟩) (T.take i++R++T.drop (i+s)).length cap')/\B<=g'/\K.OwnT w' g' cap' (T.take i++R++T.drop (i+s))/\w.grownBy w' (some g) :=
 (zqc w B g hBg cap T hO h4 i s hs his vr R hR hvb hm).mono fun e w' ⟨g',c',h1,h2,h3,h5,_⟩=>⟨g',c',h1,h2,h3,h5⟩
namespace K
def St (B bs:Nat) (w:World) (g cap:Nat) (T:List Int) (k:Int):Prop :=
 B<=bs/\w.heap[bs]?=some (.cells #[.slice (some ⟨g,0,none⟩) T.length cap,.int .i64 k] 89)/\B<=g/\OwnT w g cap T
end K
theorem zs9 (w:World)(B bs g cap:Nat)(T:List Int)(k:Nat)(hS:K.St B bs w g cap T k)(h4:T.length<=4000)(v:Value)(r:K.Rule)(R0:∀w',(∀b,b<B->w'.heap[b]?=w.heap[b]?)->K.RuIs w' v r)(hE:K.ruleE r=0)(hvb:∀g',B<=g'->∀bo bc so sc ao ac tgo tc,v= .agg #[.bool r.start,.bool r.fin,.slice bo r.before.length bc,.slice so r.source.length sc,.slice ao r.after.length ac,.slice tgo r.target.length tc,.int .i64 r.cursor]->r.target≠ []->(Value.slice tgo r.target.length tc).ownBlock≠some g')(hk:k+r.source.length<=T.length)(hlen:T.length - r.source.length+r.target.length<=4000) :
  Calls prog 90 #[.pointer (some ⟨bs,0,none⟩),v] w fun e w'=>e= .returned (.int .i64 0)/\∃g' cap',K.St B bs w' g' cap' (T.take k++r.target++T.drop (k+r.source.length)) (k+r.cursor)/\Below B w w':=by
 obtain⟨T2,hT2⟩:∃T2,T2=T.take k++r.target++T.drop (k+r.source.length):=⟨_,rfl⟩;rw[<- hT2];obtain⟨_,_,g2,hsrc,hta,_,hc0,hc1⟩:=K.zal hE;obtain⟨hBs,hbox,hBg,hO⟩:=hS;have l2:=(K.zal hE).2.1.1;obtain⟨bo,bc,so,sc,ao,ac,tgo,tc,rfl,_⟩:=R0 w fun _ _=>rfl
 have hcap:=hO;obtain⟨_,_,_,hTc,hcm,_⟩:=hcap;have hcur:=hc1;obtain⟨W0,hW0⟩:∃W0,W0=w.alloc (.cells #[.bool r.start,.bool r.fin,.slice bo r.before.length bc,.slice so r.source.length sc,.slice ao r.after.length ac,.slice tgo r.target.length tc,.int .i64 r.cursor] 50):=⟨_,rfl⟩;have hbl0:∀b,b<w.heap.size->W0.heap[b]?=w.heap[b]?:=fun b hb=>by rw[hW0];exact Below.heap_alloc w _ b hb
 have hlt:=(qA.1 hbox).1;have hglt:g<w.heap.size:=by obtain⟨_,row,_⟩:=hO;exact row.lt
 have hbox0:W0.heap[bs]?=some (.cells #[.slice (some ⟨g,0,none⟩) T.length cap,.int .i64 k] 89):=by rw[hbl0 bs hlt];exact hbox
 have hO0:K.OwnT W0 g cap T:=by obtain⟨cur,row,h⟩:=hO;exact⟨cur,row.block (hbl0 g hglt),h⟩
 have hrb0:W0.heap[w.heap.size]?=some (.cells #[.bool r.start,.bool r.fin,.slice bo r.before.length bc,.slice so r.source.length sc,.slice ao r.after.length ac,.slice tgo r.target.length tc,.int .i64 r.cursor] 50):=by rw[hW0];exact heap_alloc_new w _
 have hB0:Below B w W0:=by rw[hW0];exact(qR w).alloc (by omega) _
 obtain⟨x0,x1⟩:W0.cell? ⟨bs,0,none⟩=some (.slice (some ⟨g,0,none⟩) T.length cap)/\W0.cell? ⟨bs,1,none⟩=some (.int .i64 k):=⟨K.zad hbox0 rfl,K.zad hbox0 rfl⟩;have r3:=K.zad (i:=3) hrb0 rfl;have r5:=K.zad (i:=5) hrb0 rfl;have r6:=K.zad (i:=6) hrb0 rfl;have hlong:(T.length:Int) - r.source.length+r.target.length<=4000:=by omega
 unfold maxLen at hcm
 go_enter func90,ntmps90
 go_wp2;rw[<- hW0]
 clear hW0
 go_quiet (fail)
 obtain⟨W,hW⟩:∃W,W=W0.drewN nq:=⟨_,rfl⟩;rw[<- hW];have yb:W.heap[bs]?=some (.cells #[.slice (some ⟨g,0,none⟩) T.length cap,.int .i64 k] 89):=by rw[hW];exact hbox0
 have yr:W.heap[w.heap.size]?=some (.cells #[.bool r.start,.bool r.fin,.slice bo r.before.length bc,.slice so r.source.length sc,.slice ao r.after.length ac,.slice tgo r.target.length tc,.int .i64 r.cursor] 50):=by rw[hW];exact hrb0
 have yO:K.OwnT W g cap T:=by rw[hW];exact hO0
 have yB:∀b,b<w.heap.size->W.heap[b]?=w.heap[b]?:=by rw[hW];exact hbl0
 have yw:Below B w W:=by rw[hW];exact below_drewN hB0 _
 have hgs:g≠bs:=fun e=>by
  obtain⟨_,row,_⟩:=yO;rw[e] at row;have:=row.symm.trans yb;simp at this
 have HC:Hid (Calls prog 143 #[.slice (some ⟨g,0,none⟩) T.length cap,.int .i64 (k:Int),.int .i64 ((k:Int)+r.source.length),.slice tgo r.target.length tc] W.drew fun e w'=>∃g' cap',e= .returned (.slice (some ⟨g',0,none⟩) T2.length cap')/\B<=g'/\K.OwnT w' g' cap' T2/\W.drew.grownBy w' (some g)):=by
  have h:=zs5 W.drew B g hBg cap T yO h4 k r.source.length hsrc hk (.slice tgo r.target.length tc) r.target (fun w' hw'=>(by
   have hR:=R0 w' fun b hb=>(hw' b hb).trans (yB b (by omega))
   obtain⟨_,_,_,_,_,_,_,_,he,_,_,_,h5,_⟩:=hR;simp at he;obtain⟨_,_,_,⟨e1,e2⟩⟩:=he;subst e1 e2
   exact h5)) (hvb g hBg _ _ _ _ _ _ _ _ rfl) hta
  rw[Int.natCast_add,<- hT2] at h;exact h
 have x1:=K.zad (i:=1) yb rfl;have x0:=K.zad (i:=0) yb rfl;have r3:=K.zad (i:=3) yr rfl;have r5:=K.zad (i:=5) yr rfl;have HY:Hid (W.heap[bs]?=some (.cells #[.slice (some ⟨g,0,none⟩) T.length cap,.int .i64 k] 89)/\W.heap[w.heap.size]?=some (.cells #[.bool r.start,.bool r.fin,.slice bo r.before.length bc,.slice so r.source.length sc,.slice ao r.after.length ac,.slice tgo r.target.length tc,.int .i64 r.cursor] 50)/\Below B w W):=⟨yb,yr,yw⟩;have hwr:IntKind.i64.wrap ((k:Int)+r.source.length)=(k:Int)+r.source.length:=by rw[IntKind.wrap_i64];omega
 clear hT2 hW yb yr yO yB yw hbox0 hrb0 hO0 hbl0 R0 hvb hbox hO r6 hE;go_wp2;refine wp_region_held_drew (S:=fun w'=>w'.cell? ⟨bs,1,none⟩=some (.int .i64 k)/\w'.cell? ⟨w.heap.size,3,none⟩=some (.slice so r.source.length sc)/\w'.cell? ⟨w.heap.size,5,none⟩=some (.slice tgo r.target.length tc)) (by kernel_rfl) ⟨x1,r3,r5⟩ (fun hHeld=> ?_);refine wpAnyH_take (i:=0) (oi:=_) (v:= .pointer (some ⟨bs,0,none⟩)) rfl (by kernel_rfl) (by kernel_rfl) (by kernel_rfl) (fun _ _ _ h=>h) (Or.inl ⟨by rfl,?_⟩) hHeld ?_
 ·intro wz hSw
  go_simp
 simp only[Act.put,List.setIfInBounds_toArray,List.set_cons_zero,List.set_cons_succ];refine wpAnyH_take (i:=1) (oi:=_) (v:= .pointer (some ⟨bs,0,none⟩)) rfl (by kernel_rfl) (by kernel_rfl) (by kernel_rfl) (fun _ _ _ h=>h) (Or.inl ⟨by rfl,?_⟩) hHeld ?_
 ·intro wz hSw
  go_simp
 simp only[Act.put,List.setIfInBounds_toArray,List.set_cons_zero,List.set_cons_succ];refine wpAnyH_take (i:=2) (oi:=_) (v:= .pointer (some ⟨bs,0,none⟩)) rfl (by kernel_rfl) (by kernel_rfl) (by kernel_rfl) (fun _ _ _ h=>h) (Or.inl ⟨by rfl,?_⟩) hHeld ?_
 ·intro wz hSw
  go_simp
 simp only[Act.put,List.setIfInBounds_toArray,List.set_cons_zero,List.set_cons_succ];refine wpAnyH_take (i:=3) (oi:=_) (v:= .pointer (some ⟨bs,0,none⟩)) rfl (by kernel_rfl) (by kernel_rfl) (by kernel_rfl) (fun _ _ _ h=>h) (Or.inl ⟨by rfl,?_⟩) hHeld ?_
 ·intro wz hSw
  go_simp
 simp only[Act.put,List.setIfInBounds_toArray,List.set_cons_zero,List.set_cons_succ];refine wpAnyH_take (i:=5) (oi:=_) (v:= .pointer (some ⟨bs,0,none⟩)) rfl (by kernel_rfl) (by kernel_rfl) (by kernel_rfl) (fun _ _ _ h=>h) (Or.inl ⟨by rfl,?_⟩) hHeld ?_
 ·intro wz hSw
  go_simp
 simp only[Act.put,List.setIfInBounds_toArray,List.set_cons_zero,List.set_cons_succ];refine wpAnyH_take (i:=6) (oi:=_) (v:= .pointer (some ⟨bs,0,none⟩)) rfl (by kernel_rfl) (by kernel_rfl) (by kernel_rfl) (fun _ _ _ h=>h) (Or.inl ⟨by rfl,?_⟩) hHeld ?_
 ·intro wz hSw
  go_simp
 simp only[Act.put,List.setIfInBounds_toArray,List.set_cons_zero,List.set_cons_succ];refine wpAnyH_take (i:=7) (oi:=_) (v:= .pointer (some ⟨bs,1,none⟩)) rfl (by kernel_rfl) (by kernel_rfl) (by kernel_rfl) (fun _ _ _ h=>h) (Or.inl ⟨by rfl,?_⟩) hHeld ?_
 ·intro wz hSw
  go_simp
 simp only[Act.put,List.setIfInBounds_toArray,List.set_cons_zero,List.set_cons_succ];refine wpAnyH_take (i:=8) (oi:=_) (v:= .int .i64 k) rfl (by kernel_rfl) (by kernel_rfl) (by kernel_rfl) (fun _ _ _ h=>h) (Or.inl ⟨by rfl,?_⟩) hHeld ?_
 ·intro wz hSw
  go_simp
 simp only[Act.put,List.setIfInBounds_toArray,List.set_cons_zero,List.set_cons_succ];refine wpAnyH_take (i:=9) (oi:=_) (v:= .pointer (some ⟨bs,0,none⟩)) rfl (by kernel_rfl) (by kernel_rfl) (by kernel_rfl) (fun _ _ _ h=>h) (Or.inl ⟨by rfl,?_⟩) hHeld ?_
 ·intro wz hSw
  go_simp
 simp only[Act.put,List.setIfInBounds_toArray,List.set_cons_zero,List.set_cons_succ];refine wpAnyH_take (i:=10) (oi:=_) (v:= .pointer (some ⟨bs,0,none⟩)) rfl (by kernel_rfl) (by kernel_rfl) (by kernel_rfl) (fun _ _ _ h=>h) (Or.inl ⟨by rfl,?_⟩) hHeld ?_
 ·intro wz hSw
  go_simp
 simp only[Act.put,List.setIfInBounds_toArray,List.set_cons_zero,List.set_cons_succ];refine wpAnyH_take (i:=11) (oi:=_) (v:= .pointer (some ⟨bs,1,none⟩)) rfl (by kernel_rfl) (by kernel_rfl) (by kernel_rfl) (fun _ _ _ h=>h) (Or.inl ⟨by rfl,?_⟩) hHeld ?_
 ·intro wz hSw
  go_simp
 simp only[Act.put,List.setIfInBounds_toArray,List.set_cons_zero,List.set_cons_succ];refine wpAnyH_take (i:=12) (oi:=_) (v:= .int .i64 k) rfl (by kernel_rfl) (by kernel_rfl) (by kernel_rfl) (fun _ _ _ h=>h) (Or.inl ⟨by rfl,?_⟩) hHeld ?_
 ·intro wz hSw
  go_simp
 simp only[Act.put,List.setIfInBounds_toArray,List.set_cons_zero,List.set_cons_succ];refine wpAnyH_take (i:=13) (oi:=_) (v:= .pointer (some ⟨w.heap.size,3,none⟩)) rfl (by kernel_rfl) (by kernel_rfl) (by kernel_rfl) (fun _ _ _ h=>h) (Or.inl ⟨by rfl,?_⟩) hHeld ?_
 ·intro wz hSw
  go_simp
 simp only[Act.put,List.setIfInBounds_toArray,List.set_cons_zero,List.set_cons_succ];refine wpAnyH_take (i:=14) (oi:=_) (v:= .slice so r.source.length sc) rfl (by kernel_rfl) (by kernel_rfl) (by kernel_rfl) (fun _ _ _ h=>h) (Or.inl ⟨by rfl,?_⟩) hHeld ?_
 ·intro wz hSw
  go_simp
 simp only[Act.put,List.setIfInBounds_toArray,List.set_cons_zero,List.set_cons_succ];refine wpAnyH_take (i:=15) (oi:=_) (v:= .int .i64 r.source.length) rfl (by kernel_rfl) (by kernel_rfl) (by kernel_rfl) (fun _ _ _ h=>h) (Or.inl ⟨by rfl,?_⟩) hHeld ?_
 ·intro wz hSw
  go_simp
 simp only[Act.put,List.setIfInBounds_toArray,List.set_cons_zero,List.set_cons_succ];refine wpAnyH_take (i:=16) (oi:=_) (v:= .int .i64 ((k:Int)+r.source.length)) rfl (by kernel_rfl) (by kernel_rfl) (by kernel_rfl) (fun _ _ _ h=>h) (Or.inl ⟨by rfl,?_⟩) hHeld ?_
 ·intro wz hSw
  go_simp
 simp only[Act.put,List.setIfInBounds_toArray,List.set_cons_zero,List.set_cons_succ];refine wpAnyH_take (i:=17) (oi:=_) (v:= .pointer (some ⟨w.heap.size,5,none⟩)) rfl (by kernel_rfl) (by kernel_rfl) (by kernel_rfl) (fun _ _ _ h=>h) (Or.inl ⟨by rfl,?_⟩) hHeld ?_
 ·intro wz hSw
  go_simp
 simp only[Act.put,List.setIfInBounds_toArray,List.set_cons_zero,List.set_cons_succ];refine wpAnyH_take (i:=18) (oi:=_) (v:= .slice tgo r.target.length tc) rfl (by kernel_rfl) (by kernel_rfl) (by kernel_rfl) (fun _ _ _ h=>h) (Or.inl ⟨by rfl,?_⟩) hHeld ?_
 ·intro wz hSw
  go_simp
 simp only[Act.put,List.setIfInBounds_toArray,List.set_cons_zero,List.set_cons_succ];refine wpAnyH_ready (rs:= [4]) (by kernel_rfl) (by simp) ?_;refine AllReadyH.cons (o:=_) rfl (fun KK hK=> ?_) AllReadyH.nil
 go_simp
 refine hK.out _ _ hHeld (fun hHeld=> ?_);clear hK
 try simp only[Act.put,List.setIfInBounds_toArray,List.set_cons_zero,List.set_cons_succ]
 refine wpAnyH_ready (rs:= [19]) (by kernel_rfl) (by simp) ?_;refine AllReadyH.cons (o:=_) rfl (fun KK hK=> ?_) AllReadyH.nil
 go_simp
 refine HC.out.mono ?_;rintro e w1 ⟨g',cap',rfl,hB',hO',hg'⟩;have zb:=(hg'.block bs (qA.1 HY.out.1).1 (by simpa using hgs.symm)).trans HY.out.1;have zr:=(hg'.block w.heap.size (qA.1 HY.out.2.1).1 (by simp;omega)).trans HY.out.2.1
 have hgs':g'≠bs:=fun e=>by
  obtain⟨_,row,_⟩:=hO';rw[e] at row;have:=row.symm.trans zb;simp at this
 have zB:=(HY.out.2.2.drew).grown hg' (by show B<=W.heap.size;have:=(qA.1 HY.out.1).1;omega) (fun q hq=>by cases hq;exact hBg);obtain⟨W2,hW2⟩:∃W2,W2=w1.setCell ⟨bs,0,none⟩ (.slice (some ⟨g',0,none⟩) T2.length cap'):=⟨_,rfl⟩;have yb2:W2.heap[bs]?=some (.cells #[.slice (some ⟨g',0,none⟩) T2.length cap',.int .i64 k] 89):=by rw[hW2];exact heap_setCell_same w1 bs 0 _ _ _ zb
 have yr2:W2.heap[w.heap.size]?=some (.cells #[.bool r.start,.bool r.fin,.slice bo r.before.length bc,.slice so r.source.length sc,.slice ao r.after.length ac,.slice tgo r.target.length tc,.int .i64 r.cursor] 50):=by rw[hW2];exact(heap_setCell_other w1 ⟨bs,0,none⟩ w.heap.size _ (by simp;omega)).trans zr
 have yO2:K.OwnT W2 g' cap' T2:=by
  obtain⟨cur,row,h⟩:=hO';exact⟨cur,by rw[hW2];exact row.block (heap_setCell_other w1 ⟨bs,0,none⟩ g' _ (by simpa using hgs')),h⟩
 have yB2:Below B w W2:=by rw[hW2];exact zB.setCell (p:=⟨bs,0,none⟩) hBs _
 have q0:=K.zad (i:=0) zb rfl;have q1:=K.zad (i:=1) zb rfl;have q3:=K.zad (i:=3) zr rfl;have q5:=K.zad (i:=5) zr rfl;have f0:=frozen_of_row w1 bs 0 _ _ zb;have u1:=K.zad (i:=1) yb2 rfl;have u3:=K.zad (i:=3) yr2 rfl;have u5:=K.zad (i:=5) yr2 rfl;have u6:=K.zad (i:=6) yr2 rfl;have fu:=frozen_of_row W2 bs 1 _ _ yb2;have HF:Hid (W2.heap[bs]?=some (.cells #[.slice (some ⟨g',0,none⟩) T2.length cap',.int .i64 k] 89)/\K.OwnT W2 g' cap' T2/\Below B w W2/\B<=g'/\g'≠bs):=⟨yb2,yO2,yB2,hB',hgs'⟩;clear zb zr zB yb2 yr2 yO2 yB2 hO' hg' hB' hgs' HC HY x0 x1 r3 r5 hHeld;refine hK.out _ _ ⟨q1,q3,q5⟩ (fun hHeld=> ?_);clear hK;refine wpAnyH_take (i:=20) (oi:=_) (v:= .pointer (some ⟨bs,0,none⟩)) rfl (by kernel_rfl) (by kernel_rfl) (by kernel_rfl) (fun _ _ _ h=>h) (Or.inl ⟨by rfl,?_⟩) hHeld ?_
 ·intro wz hSw
  go_simp
 simp only[Act.put,List.setIfInBounds_toArray,List.set_cons_zero,List.set_cons_succ];refine wpAnyH_take (i:=21) (oi:=_) (v:= .pointer (some ⟨bs,0,none⟩)) rfl (by kernel_rfl) (by kernel_rfl) (by kernel_rfl) (fun _ _ _ h=>h) (Or.inl ⟨by rfl,?_⟩) hHeld ?_
 ·intro wz hSw
  go_simp
 simp only[Act.put,List.setIfInBounds_toArray,List.set_cons_zero,List.set_cons_succ];refine wpAnyH_ready (rs:= [22]) (by kernel_rfl) (by simp) ?_;refine AllReadyH.cons (o:=_) rfl (fun KK hK=> ?_) AllReadyH.nil
 go_simp
 rw[<- hW2];refine hK.out _ _ ⟨u1,u3,u5⟩ (fun hHeld=> ?_);clear hK hHeld hW2 q0 q1 q3 q5 f0;refine wpAnyH_done (by kernel_rfl) ?_ _;have hwr2:IntKind.i64.wrap ((k:Int)+r.cursor)=(k:Int)+r.cursor:=by rw[IntKind.wrap_i64];omega
 go_wp2
 go_region
 go_wp2;go_ret
 obtain⟨cur,row,hcu⟩:=HF.out.2.1;exact⟨rfl,g',cap',⟨hBs,heap_setCell_same W2 bs 1 _ _ _ HF.out.1,HF.out.2.2.2.1,cur,row.block (heap_setCell_other W2 ⟨bs,1,none⟩ g' _ (by simpa using HF.out.2.2.2.2)),hcu⟩,(HF.out.2.2.1.setCell (p:=⟨bs,1,none⟩) hBs _).drew⟩
theorem zta (w:World)(B bs g cap:Nat)(T:List Int)(k:Nat)(hS:K.St B bs w g cap T k)(h4:T.length<=4000)(v:Value)(r:K.Rule)(R0:K.RuIs w v r)(hE:K.ruleE r=0)(hk:k+r.source.length<=T.length)(hlen:4000<T.length - r.source.length+r.target.length) :
  Calls prog 90 #[.pointer (some ⟨bs,0,none⟩),v] w fun e w'=>e= .returned (.int .i64 4)/\Below w.heap.size w w':=by
 obtain⟨_,_,g2,hsrc,hta,_,hc0,hc1⟩:=K.zal hE;obtain⟨hBs,hbox,hBg,hO⟩:=hS;have l2:=(K.zal hE).2.1.1;obtain⟨bo,bc,so,sc,ao,ac,tgo,tc,rfl,_⟩:=R0;obtain⟨W0,hW0⟩:∃W0,W0=w.alloc (.cells #[.bool r.start,.bool r.fin,.slice bo r.before.length bc,.slice so r.source.length sc,.slice ao r.after.length ac,.slice tgo r.target.length tc,.int .i64 r.cursor] 50):=⟨_,rfl⟩;have hlt:=(qA.1 hbox).1;have hbox0:W0.heap[bs]?=some (.cells #[.slice (some ⟨g,0,none⟩) T.length cap,.int .i64 k] 89):=by rw[hW0,Below.heap_alloc w _ bs hlt];exact hbox
 have hrb0:W0.heap[w.heap.size]?=some (.cells #[.bool r.start,.bool r.fin,.slice bo r.before.length bc,.slice so r.source.length sc,.slice ao r.after.length ac,.slice tgo r.target.length tc,.int .i64 r.cursor] 50):=by rw[hW0];exact heap_alloc_new w _
 have HB0:Hid (Below w.heap.size w W0):=by rw[hW0];exact(qR w).alloc qN _
 have x0:=K.zad (i:=0) hbox0 rfl;have x1:=K.zad (i:=1) hbox0 rfl;have r3:=K.zad (i:=3) hrb0 rfl;have r5:=K.zad (i:=5) hrb0 rfl;have hlong:¬(T.length:Int) - r.source.length+r.target.length<=4000:=by omega
 clear hbox hbox0 hrb0 hO hE
 go_enter func90,ntmps90
 go_wp2;rw[<- hW0]
 clear hW0
 go_quiet (fail)
 go_wp2;go_ret
 exact⟨rfl,below_drewN HB0.out _⟩
