import Derived.Test.YtcadaallpiekiaaGreatDoorTBits
import Derived.Shelf.Abstract
set_option maxHeartbeats 0
set_option maxRecDepth 20000
namespace Go.Proofs.YtcadaallpiekiaaGreatDoor
open Go.Proofs.Tryz
section
open Go.RowKit
structure Swept (a b:List S.Sp) (kp:Bool->Bool->Bool) (s:List S.Sp) (r:Int):Prop where
 nf:S.Nf 0 s
 mem:∀q,S.memb s q=(decide (q<r)&&(S.inR q&&kp (S.memb a q) (S.memb b q)))
 len:(s.length:Int)<=r
theorem Swept.ends {a b:List S.Sp}{kp:Bool->Bool->Bool}{s:List S.Sp}{r:Int}(h:Swept a b kp s r){p:S.Sp}(hp:p∈s):p.1<=p.2/\p.2<r:=by
 have h1:=h.nf.mem hp;have h2:S.memb s p.2=true:=S.za9.2 ⟨p,hp,by omega,by omega⟩;rw[h.mem] at h2;simp at h2;omega
theorem Swept.keep {a b:List S.Sp}{kp:Bool->Bool->Bool}{s:List S.Sp}{r hi:Int}(h:Swept a b kp s r)(h0:0<=r)(h1:r<=hi)(h2:hi<=1114111)
  (ha:∀q,r<=q->q<=hi->S.memb a q=S.memb a r) (hb:∀q,r<=q->q<=hi->S.memb b q=S.memb b r) (hk:kp (S.memb a r) (S.memb b r)=true):Swept a b kp (S.joinF s (r,hi)) (hi+1):=by
 have hj:=S.zl2 (x:=(r,hi)) h.nf h0 h1 h2 fun p hp=>by
  have:=h.ends (List.mem_of_getLast? hp);simp only;omega
 refine⟨hj.1,fun q=> ?_,?_⟩
 ·rw[hj.2,h.mem];simp only
  by_cases hq:r<=q/\q<=hi
  ·have h3:S.inR q=true:=by simp[S.inR];omega
   rw[ha q hq.1 hq.2,hb q hq.1 hq.2,hk,h3];simp[hq.1,hq.2];omega
  ·have e:decide (q<r)=decide (q<hi+1):=by
    apply S.zes;simp;omega
   rw[e];have:(decide (r<=q)&&decide (q<=hi))=false:=by simp;omega
   rw[this,Bool.or_false]
 ·have:=S.zi6 s (r,hi);have:=h.len;omega
theorem Swept.skip {a b:List S.Sp}{kp:Bool->Bool->Bool}{s:List S.Sp}{r hi:Int}(h:Swept a b kp s r)(h1:r<=hi)
  (ha:∀q,r<=q->q<=hi->S.memb a q=S.memb a r) (hb:∀q,r<=q->q<=hi->S.memb b q=S.memb b r) (hk:kp (S.memb a r) (S.memb b r)=false):Swept a b kp s (hi+1):=by
 refine⟨h.nf,fun q=> ?_,by have:=h.len;omega⟩;rw[h.mem]
 by_cases hq:r<=q/\q<=hi
 ·rw[ha q hq.1 hq.2,hb q hq.1 hq.2,hk];simp
 ·have e:decide (q<r)=decide (q<hi+1):=by
   apply S.zes;simp;omega
  rw[e]
theorem Swept.is {a b:List S.Sp}{kp:Bool->Bool->Bool}{s:List S.Sp}{r:Int}(h:Swept a b kp s r)(hr:1114111<r):S.Is (fun q=>S.inR q&&kp (S.memb a q) (S.memb b q)) s:=by
 refine⟨h.nf,fun q=> ?_⟩;rw[h.mem];cases hi:S.inR q with
 | false=>simp only[Bool.false_and,Bool.and_false,hi]
 | true =>
  have:q<r:=by simp[S.inR] at hi;omega
  simp only[this,decide_true,Bool.true_and,hi]
structure Walked (w:World) (n0:Nat) (va vb:Value) (a b:List S.Sp) (r:Int) (wr:World) (v:Value) (s:List S.Sp):Prop where
 ra:S.Rd wr va a
 rb:S.Rd wr vb b
 y1:S.Bx wr n0 27 va
 y2:S.Bx wr (n0+2) 27 vb
 x1:∃j:Nat,j<=a.length/\S.Bx wr (n0+1) 3 (.int .i64 j)/\S.Past a j r
 x2:∃j:Nat,j<=b.length/\S.Bx wr (n0+3) 3 (.int .i64 j)/\S.Past b j r
 own:wr.ownsRow (n0+4) 113 2 v s.length (S.cellsOf s)
 below:Bl w wr
 size:n0+4<=wr.heap.size
theorem Walked.grown {w:World}{n0:Nat}{va vb:Value}{a b:List S.Sp}{r:Int}{wr w':World}{v v':Value}{s s':List S.Sp}(h:Walked w n0 va vb a b r wr v s)(ra:S.Rd w va a)(rb:S.Rd w vb b)(h0:w.heap.size<=n0)
  (hg:wr.grownBy w' v.ownBlock) (own:w'.ownsRow (n0+4) 113 2 v' s'.length (S.cellsOf s')) (r':Int) (hr:r<=r'):Walked w n0 va vb a b r' w' v' s':=by
 have hv:=fun g hg=>(h.own.lt g hg).1
 have hne:∀k,k<n0+4->v.ownBlock≠some k:=fun k hk e=>by have:=hv k e;omega
 obtain⟨j1,a1,a2,a3⟩:=h.x1;obtain⟨j2,b1,b2,b3⟩:=h.x2
 exact⟨ra.kept h.ra hg fun g hg'=>by have:=hv g hg';omega,rb.kept h.rb hg fun g hg'=>by have:=hv g hg';omega,h.y1.grown hg (hne _ (by omega)),h.y2.grown hg (hne _ (by omega)),⟨j1,a1,a2.grown hg (hne _ (by omega)),a3.mono hr⟩,⟨j2,b1,b2.grown hg (hne _ (by omega)),b3.mono hr⟩,own,
  Below.grown h.below hg (by have:=h.size;omega) (fun k hk=>by have:=hv k hk;omega),by have:=h.size;have:=hg.size;omega⟩
theorem Walked.stepA {w:World}{n0:Nat}{va vb:Value}{a b:List S.Sp}{r:Int}{wr w':World}{v:Value}{s:List S.Sp}(h:Walked w n0 va vb a b r wr v s)(ra:S.Rd w va a)(rb:S.Rd w vb b)(h0:w.heap.size<=n0)
  (hg:wr.grownBy w' (some (n0+1))) {j:Nat} (hj:j<=a.length) (hx:S.Bx w' (n0+1) 3 (.int .i64 j)) (hp:S.Past a j r):Walked w n0 va vb a b r w' v s:=by
 have hne:∀k,k≠n0+1->some (n0+1)≠some k:=fun k hk e=>by cases e;exact hk rfl
 obtain⟨j2,b1,b2,b3⟩:=h.x2
 exact⟨ra.kept h.ra hg fun g hg'=>by cases hg';omega,rb.kept h.rb hg fun g hg'=>by cases hg';omega,h.y1.grown hg (hne _ (by omega)),h.y2.grown hg (hne _ (by omega)),⟨j,hj,hx,hp⟩,⟨j2,b1,b2.grown hg (hne _ (by omega)),b3⟩,
  h.own.kept hg (by cases hv:v.ownBlock with|none=>exact .inl rfl|some g=>right;have:=(h.own.lt g hv).1;intro e;cases e;omega),
  Below.grown h.below hg (by have:=h.size;omega) (fun k hk=>by cases hk;omega),by have:=h.size;have:=hg.size;omega⟩
theorem Walked.stepB {w:World}{n0:Nat}{va vb:Value}{a b:List S.Sp}{r:Int}{wr w':World}{v:Value}{s:List S.Sp}(h:Walked w n0 va vb a b r wr v s)(ra:S.Rd w va a)(rb:S.Rd w vb b)(h0:w.heap.size<=n0)
  (hg:wr.grownBy w' (some (n0+3))) {j:Nat} (hj:j<=b.length) (hx:S.Bx w' (n0+3) 3 (.int .i64 j)) (hp:S.Past b j r):Walked w n0 va vb a b r w' v s:=by
 have hne:∀k,k≠n0+3->some (n0+3)≠some k:=fun k hk e=>by cases e;exact hk rfl
 obtain⟨j2,b1,b2,b3⟩:=h.x1
 exact⟨ra.kept h.ra hg fun g hg'=>by cases hg';omega,rb.kept h.rb hg fun g hg'=>by cases hg';omega,h.y1.grown hg (hne _ (by omega)),h.y2.grown hg (hne _ (by omega)),⟨j2,b1,b2.grown hg (hne _ (by omega)),b3⟩,⟨j,hj,hx,hp⟩,
  h.own.kept hg (by cases hv:v.ownBlock with|none=>exact .inl rfl|some g=>right;have:=(h.own.lt g hv).1;intro e;cases e;omega),
  Below.grown h.below hg (by have:=h.size;omega) (fun k hk=>by cases hk;omega),by have:=h.size;have:=hg.size;omega⟩
def S.Fresh (F:Nat) (v:Value):Prop:=∀g,v.ownBlock=some g->F<=g
theorem S.Fresh.nil (F:Nat):S.Fresh F (.slice none 0 0):=fun g h=>by cases h
theorem S.Fresh.mono {F F':Nat}{v:Value}(h:S.Fresh F v)(hF:F'<=F):S.Fresh F' v:=fun g hg=>Nat.le_trans hF (h g hg)
theorem zd9 (w:World)(va vb:Value)(a b:List S.Sp)(ra:S.Rd w va a)(rb:S.Rd w vb b)(fa:S.Fit a)(fb:S.Fit b)(g:Nat)(kp:Bool->Bool->Bool)
  (eg:∀args w,(callFunc g args).run prog w=.ok (.enter g args) w) (hk:∀W x y,Calls prog g #[.bool x,.bool y] W fun e w'=>e=.returned (.bool (kp x y))/\w'=W) :
  Calls prog 169 #[va,vb,.func (.func g) #[] #[]] w fun e w' =>
   ∃v,e=.returned (.tuple #[v,.int .i64 (S.resE (S.wrongE a) (S.wrongE b) fun q=>S.inR q&&kp (S.memb a q) (S.memb b q))])/\S.Rd w' v (S.resL (S.wrongE a) (S.wrongE b) fun q=>S.inR q&&kp (S.memb a q) (S.memb b q))/\Bl w w'/\S.Fresh w.heap.size v/\(S.wrongE a=0->S.wrongE b=0->∃s,S.Is (fun q=>S.inR q&&kp (S.memb a q) (S.memb b q)) s):=by
 have HA:=qH ra;have HB:=qH rb;obtain⟨aa,ca,rfl⟩:=ra.len;obtain⟨ab,cb,rfl⟩:=rb.len;clear ra rb;have HRE:Hid (∀ea eb,S.wrongE a=ea->S.wrongE b=eb->S.resE (S.wrongE a) (S.wrongE b) (fun q=>S.inR q&&kp (S.memb a q) (S.memb b q))=S.resE ea eb (fun q=>S.inR q&&kp (S.memb a q) (S.memb b q))/\S.resL (S.wrongE a) (S.wrongE b) (fun q=>S.inR q&&kp (S.memb a q) (S.memb b q))=S.resL ea eb (fun q=>S.inR q&&kp (S.memb a q) (S.memb b q))):=fun ea eb h1 h2=>by rw[h1,h2];exact⟨rfl,rfl⟩
 generalize hE:S.resE (S.wrongE a) (S.wrongE b) (fun q=>S.inR q&&kp (S.memb a q) (S.memb b q))=E at HRE ⊢;generalize hL:S.resL (S.wrongE a) (S.wrongE b) (fun q=>S.inR q&&kp (S.memb a q) (S.memb b q))=RL at HRE ⊢;clear hE hL;have hwa:=zcc w _ a HA.out fa;generalize hea:S.wrongE a=ea at hwa ⊢;have HEA:=qH hea;clear hea
 go_enter func169,ntmps169
 go_wp2_with fail
 refine hwa.mono ?_;clear hwa;rintro e w1 ⟨rfl,hb1⟩;have hsz1:=hb1.size;have HB1:=qH<|HB.out.below hb1 qN;have BW1:=qH hb1;clear hb1;have hwb:=zcc w1 _ b HB1.out fb;generalize heb:S.wrongE b=eb at hwb ⊢;have HEB:=qH heb;clear heb
 go_wp2_with fail
 refine hwb.mono ?_;clear hwb;rintro e w2 ⟨rfl,hb2⟩;have hsz2:=hb2.size;have BW2:=qH<|BW1.out.trans (hb2.mono hsz1);clear hb2;have hor:=zqv (w2.alloc (.cells #[.int .i64 ea,.int .i64 eb] 22)) w2.heap.size ea eb (S.boxed (qR _)).1.1 (S.boxed (qR _)).1.2;have BW3:Hid (Bl w (w2.alloc (.cells #[.int .i64 ea,.int .i64 eb] 22))):=BW2.out.alloc (by omega) _;have hsz3:(w2.alloc (.cells #[.int .i64 ea,.int .i64 eb] 22)).heap.size=w2.heap.size+1:=by simp
 go_wp2_with fail
 generalize w2.alloc (.cells #[.int .i64 ea,.int .i64 eb] 22)=w3 at hor BW3 hsz3 ⊢;have HS3:=qH hsz3;clear hsz3;generalize hor':(if ea≠0 then ea else eb)=er at hor ⊢;have HER:=qH hor';clear hor';refine hor.mono ?_;clear hor;rintro e w3 ⟨rfl,rfl⟩
 by_cases her:er=0
 ·have hz:ea=0/\eb=0:=by
   have h2:=HER.out
   by_cases h3:ea=0
   ·simp[h3] at h2;omega
   ·simp[h3] at h2;omega
  obtain⟨rfl,rfl⟩:=hz;subst her;obtain⟨la,na⟩:=S.zan.1 HEA.out;obtain⟨lb,nb⟩:=S.zan.1 HEB.out;have NA:=qH na;have NB:=qH nb;clear na nb;have hst1:=zdt w3 aa a.length ca
  go_wp2_with fail
  refine hst1.mono ?_;clear hst1;rintro e w4 ⟨rfl,hb4,hs4,X4,Y4⟩;have hsz3:=HS3.out;have BW4:=qH<|BW3.out.trans (hb4.mono (by omega));have hn0:w.heap.size<=w3.heap.size:=by omega
  clear hsz3;have HX4:Hid (S.Bx w4 (w3.heap.size+1) 3 (.int .i64 0)/\S.Bx w4 w3.heap.size 27 (.slice aa a.length ca)):=⟨X4,Y4⟩;clear hb4 X4 Y4;have hst2:=zdt w4 ab b.length cb
  go_wp2_with fail
  refine hst2.mono ?_;clear hst2;rw[hs4,show w3.heap.size+2+1=w3.heap.size+3 from rfl];rintro e w5 ⟨rfl,hb5,hs5,X5,Y5⟩
  have WK:Hid (Walked w w3.heap.size (.slice aa a.length ca) (.slice ab b.length cb) a b 0 w5 (.slice none 0 0) []):=by
   have b5:=BW4.out.trans (hb5.mono (by omega));exact⟨HA.out.below b5 qN,HB.out.below b5 qN,HX4.out.2.below hb5 (by omega),Y5,⟨0,Nat.zero_le _,HX4.out.1.below hb5 (by omega),fun i x h=>absurd h (Nat.not_lt_zero _)⟩,⟨0,Nat.zero_le _,X5,fun i x h=>absurd h (Nat.not_lt_zero _)⟩,World.ownsRow_nil _ _ _ _,b5,by omega⟩
  have SW:Hid (Swept a b kp [] 0):=⟨trivial,fun q=>by
   rw[S.zbt]
   by_cases hq:q<0
   ·have:S.inR q=false:=by simp[S.inR];omega
    simp only[this,Bool.false_and,Bool.and_false]
   ·simp[hq],by simp⟩
  clear hb5 X5 Y5 HX4 hs5 BW4 BW3 HB1 BW1 BW2 hsz1 hsz2 HS3;have HN:=qH hs4;clear hs4;generalize w3.heap.size=n0 at WK hn0 HN ⊢;have e70:∀args w,(callFunc 208 args).run prog w=.ok (.enter 208 args) w:=enters_of func208 (by kernel_rfl) rfl;go_wp2
  go_loopw [11,12] (fun v lo wr=>∃(r:Int) (s:List S.Sp),lo=.int .i32 r/\0<=r/\r<=1114112/\Hid (Walked w n0 (.slice aa a.length ca) (.slice ab b.length cb) a b r wr v s)/\Hid (Swept a b kp s r)) (fun _ lo _=>(1114112-intOf lo).toNat)
  case atStart=>exact⟨0,[],rfl,by omega,by omega,WK,SW⟩
  case round =>
   obtain⟨r,s,rfl,h0,h1,HW,HS⟩:=hrel
   by_cases hr:r<=1114111
   ·obtain⟨j1,hj1,X1,P1⟩:=HW.out.x1
    have hst:=ze8 wr (n0+1) n0 (.slice aa a.length ca) a j1 r (by omega) (fun hne e=>by
     obtain⟨gg,hg,hlt⟩:=HA.out.block hne
     rw[hg] at e;cases e;omega) HW.out.ra NA.out hj1 la X1 HW.out.y1 P1 hr
    go_wp2_with fail
    refine hst.mono ?_;clear hst X1 P1 hj1;rintro e w6 ⟨la1,j3,rfl,l1,l2,l3,l4,X3,P3,G3⟩;have HW6:Hid _:=HW.out.stepA HA.out HB.out hn0 G3 l4 X3 P3;have HL3:=qH l3;clear X3 P3 G3 l3 l4 HW;obtain⟨j2,hj2,X2,P2⟩:=HW6.out.x2
    have hst:=ze8 w6 (n0+3) (n0+2) (.slice ab b.length cb) b j2 r (by omega) (fun hne e=>by
     obtain⟨gg,hg,hlt⟩:=HB.out.block hne
     rw[hg] at e;cases e;omega) HW6.out.rb NB.out hj2 lb X2 HW6.out.y2 P2 hr
    go_wp2_with fail
    refine hst.mono ?_;clear hst X2 P2 hj2;rintro e w7 ⟨lb1,j4,rfl,m1,m2,m3,m4,X4,P4,G4⟩;have HW7:Hid _:=HW6.out.stepB HA.out HB.out hn0 G4 m4 X4 P4;have HL4:=qH m3;clear X4 P4 G4 m3 m4 HW6;have hkk:=hk w7 (S.memb a r) (S.memb b r);cases hb:kp (S.memb a r) (S.memb b r) with
    | true =>
     rw[hb] at hkk;have HK:=qH hb;have SW2:Hid (Swept a b kp (S.joinF s (r,min la1 lb1)) (min la1 lb1+1)):=HS.out.keep h0 (by omega) (by omega) (fun q h2 h3=>HL3.out q h2 (by omega)) (fun q h2 h3=>HL4.out q h2 (by omega)) HK.out;have hjo:=zsm w7 (n0+4) _ s (r,min la1 lb1) HW7.out.own HW7.out.size (fun p hp=>by have:=HS.out.ends hp;have:=HS.out.nf.mem hp;omega) (by have:=HS.out.len;omega) (by simp only;omega);generalize S.memb a r=ma at *;generalize S.memb b r=mb at *;clear hb
     go_wp2_with fail
     refine hkk.mono ?_;clear hkk;rintro e w7 ⟨rfl,rfl⟩;generalize hmi:min la1 lb1=mi at *;have hmi2:r<=mi/\mi<=1114111:=by omega
     clear hmi
     go_wp2_with fail
     refine hjo.mono ?_;clear hjo;rintro e w8 ⟨v8,rfl,O8,G8⟩;have HW8:Hid _:=HW7.out.grown HA.out HB.out hn0 G8 O8 (mi+1) (by omega);clear O8 G8 HW7;go_wp2
     go_roundw
     case rel=>exact⟨mi+1,_,rfl,by omega,by omega,HW8,SW2⟩
     case measure=>simp[intOf];omega
    | false =>
     rw[hb] at hkk;have HK:=qH hb;have SW2:Hid (Swept a b kp s (min la1 lb1+1)):=HS.out.skip (by omega) (fun q h2 h3=>HL3.out q h2 (by omega)) (fun q h2 h3=>HL4.out q h2 (by omega)) HK.out;have HW8:Hid _:=HW7.out.grown HA.out HB.out hn0 (S.zat _ _) HW7.out.own (min la1 lb1+1) (by omega);generalize S.memb a r=ma at *;generalize S.memb b r=mb at *;clear hb HW7
     go_wp2_with fail
     refine hkk.mono ?_;clear hkk;rintro e w7 ⟨rfl,rfl⟩;generalize hmi:min la1 lb1=mi at *;have hmi2:r<=mi/\mi<=1114111:=by omega
     clear hmi;go_wp2
     go_roundw
     case rel=>exact⟨mi+1,s,rfl,by omega,by omega,HW8,SW2⟩
     case measure=>simp[intOf];omega
   ·have hfew:=zrl wr _ s (S.Rd.zax HW.out.own) (by have:=HS.out.len;omega);have HIS:=qH<|HS.out.is (by omega);generalize hfe:S.fewE s=fe at hfew ⊢;have HFE:=qH hfe;clear hfe
    go_wp2_with fail
    refine hfew.mono ?_;clear hfew;rintro e w9 ⟨v9,rfl,R9,rfl,hv9⟩;have HR9:=qH R9
    have HFr:Hid (S.Fresh w.heap.size v9):=by
     intro g hg;rcases hv9 with rfl|rfl
     ·have:=World.ownsRow.lt HW.out.own g hg;omega
     ·cases hg
    clear R9 hv9;go_wp2
    go_ret2
    have h1:=HRE.out 0 0 HEA.out HEB.out;have h2:=S.zui HIS.out
    have h3:E=fe/\RL=S.fewL s:=by
     rw[h1.1,h1.2];unfold S.resE S.resL;rw[h2];simp[HFE.out]
    rw[h3.1,h3.2];exact⟨v9,rfl,HR9.out,HW.out.below,HFr.out,by intros;exact⟨s,HIS.out⟩⟩
 ·go_wp2
  go_ret2
  have h1:=(HRE.out ea eb HEA.out HEB.out);have h2:=HER.out
  have h4:E=er/\RL= []:=by
   rw[h1.1,h1.2];unfold S.resE S.resL
   by_cases h3:ea=0
   ·simp[h3] at h2 ⊢;rw[if_neg (by rw[h2];exact her)];exact⟨h2,fun h=>absurd (h2.symm.trans h) her⟩
   ·simp[h3] at h2 ⊢;exact h2
  rw[h4.1,h4.2];refine⟨_,rfl,S.Rd.nil _,BW3.out,S.Fresh.nil _,fun h5 h6=> ?_⟩;exfalso;apply her;rw[<- h2,h5,<- HEB.out,h6];simp
theorem zsd (W:World)(x y:Bool):Calls prog 170 #[.bool x,.bool y] W fun e w'=>e=.returned (.bool (!x))/\w'=W:=by
 go_enter func170,ntmps170
 go_wp2;go_ret
 exact⟨rfl,rfl⟩
theorem zmp (W:World)(x y:Bool):Calls prog 184 #[.bool x,.bool y] W fun e w'=>e=.returned (.bool (x||y))/\w'=W:=by
 cases x <;> cases y <;> (go_enter func184,ntmps184;go_wp2;go_ret;exact⟨rfl,rfl⟩)
theorem zp0 (W:World)(x y:Bool):Calls prog 182 #[.bool x,.bool y] W fun e w'=>e=.returned (.bool (x&&y))/\w'=W:=by
 cases x <;> cases y <;> (go_enter func182,ntmps182;go_wp2;go_ret;exact⟨rfl,rfl⟩)
theorem zne (W:World)(x y:Bool):Calls prog 183 #[.bool x,.bool y] W fun e w'=>e=.returned (.bool (x&& !y))/\w'=W:=by
 cases x <;> cases y <;> (go_enter func183,ntmps183;go_wp2;go_ret;exact⟨rfl,rfl⟩)
def TTells (w:World) (ea eb:Int) (P:Int->Bool) (e:Ending) (w':World):Prop :=
 ∃v,e=.returned (.tuple #[v,.int .i64 (S.resE ea eb P)])/\S.Rd w' v (S.resL ea eb P)/\Bl w w'/\S.Fresh w.heap.size v/\(ea=0->eb=0->∃s,S.Is P s)
theorem ze6 (w:World)(va vb:Value)(a b:List S.Sp)(ra:S.Rd w va a)(rb:S.Rd w vb b)(fa:S.Fit a)(fb:S.Fit b) :
  Calls prog 166 #[va,vb] w (TTells w (S.wrongE a) (S.wrongE b) (S.orP a b)):=by
 have h:=zd9 w va vb a b ra rb fa fb 184 (fun x y=>x||y) (enters_of func184 (by kernel_rfl) rfl) zmp;change Calls _ _ _ _ (TTells w (S.wrongE a) (S.wrongE b) (S.orP a b)) at h;obtain⟨aa,ca,rfl⟩:=ra.len;obtain⟨ab,cb,rfl⟩:=rb.len;generalize S.wrongE a=ea at *;generalize S.wrongE b=eb at *;generalize S.orP a b=P at *
 go_enter func166,ntmps166
 go_wp2_with fail
 refine h.mono ?_;clear h ra rb fa fb;rintro e w1 ⟨v1,rfl,h⟩;generalize hre:S.resE ea eb P=re at *;have HH:Hid _:=h;clear h;go_wp2
 go_ret2
 exact⟨v1,by rw[hre];rfl,HH.out⟩
theorem zsh (w:World)(va vb:Value)(a b:List S.Sp)(ra:S.Rd w va a)(rb:S.Rd w vb b)(fa:S.Fit a)(fb:S.Fit b) :
  Calls prog 164 #[va,vb] w (TTells w (S.wrongE a) (S.wrongE b) (S.andP a b)):=by
 have h:=zd9 w va vb a b ra rb fa fb 182 (fun x y=>x&&y) (enters_of func182 (by kernel_rfl) rfl) zp0;change Calls _ _ _ _ (TTells w (S.wrongE a) (S.wrongE b) (S.andP a b)) at h;obtain⟨aa,ca,rfl⟩:=ra.len;obtain⟨ab,cb,rfl⟩:=rb.len;generalize S.wrongE a=ea at *;generalize S.wrongE b=eb at *;generalize S.andP a b=P at *
 go_enter func164,ntmps164
 go_wp2_with fail
 refine h.mono ?_;clear h ra rb fa fb;rintro e w1 ⟨v1,rfl,h⟩;generalize hre:S.resE ea eb P=re at *;have HH:Hid _:=h;clear h;go_wp2
 go_ret2
 exact⟨v1,by rw[hre];rfl,HH.out⟩
theorem zpy (w:World)(va vb:Value)(a b:List S.Sp)(ra:S.Rd w va a)(rb:S.Rd w vb b)(fa:S.Fit a)(fb:S.Fit b) :
  Calls prog 165 #[va,vb] w (TTells w (S.wrongE a) (S.wrongE b) (S.minP a b)):=by
 have h:=zd9 w va vb a b ra rb fa fb 183 (fun x y=>x&& !y) (enters_of func183 (by kernel_rfl) rfl) zne;change Calls _ _ _ _ (TTells w (S.wrongE a) (S.wrongE b) (S.minP a b)) at h;obtain⟨aa,ca,rfl⟩:=ra.len;obtain⟨ab,cb,rfl⟩:=rb.len;generalize S.wrongE a=ea at *;generalize S.wrongE b=eb at *;generalize S.minP a b=P at *
 go_enter func165,ntmps165
 go_wp2_with fail
 refine h.mono ?_;clear h ra rb fa fb;rintro e w1 ⟨v1,rfl,h⟩;generalize hre:S.resE ea eb P=re at *;have HH:Hid _:=h;clear h;go_wp2
 go_ret2
 exact⟨v1,by rw[hre];rfl,HH.out⟩
theorem zug (w:World)(va:Value)(a:List S.Sp)(ra:S.Rd w va a)(fa:S.Fit a) :
  Calls prog 150 #[va] w (TTells w (S.wrongE a) 0 (S.notP a)):=by
 have h:=zd9 w va (.slice none 0 0) a [] ra (S.Rd.nil w) fa (fun x hx=>by simp at hx) 170 (fun x _=> !x) (enters_of func170 (by kernel_rfl) rfl) zsd;change Calls _ _ _ _ (TTells w (S.wrongE a) (S.wrongE []) (S.notP a)) at h;rw[show S.wrongE []=0 from rfl] at h;obtain⟨aa,ca,rfl⟩:=ra.len;generalize S.wrongE a=ea at *;generalize S.notP a=P at *
 go_enter func150,ntmps150
 go_wp2_with fail
 refine h.mono ?_;clear h ra fa;rintro e w1 ⟨v1,rfl,h⟩;generalize hre:S.resE ea 0 P=re at *;have HH:Hid _:=h;clear h;go_wp2
 go_ret2
 exact⟨v1,by rw[hre];rfl,HH.out.1,HH.out.2.1,HH.out.2.2.1,fun h _=>HH.out.2.2.2 h trivial⟩
theorem T.zpf {w w':World}{cb tb cap p:Nat}{ao:Option Addr}{l:List Int}(C:T.Cur w cb tb cap ao l p){v:Value}{s:List S.Sp}(R:S.Rd w v s)(hg:w.grownBy w' (some cb)):S.Rd w' v s:=by
 obtain⟨vo,vc,rfl,hn,h⟩:=R;refine⟨vo,vc,rfl,hn,fun hz=> ?_⟩;obtain⟨b,off,rfl,hcl⟩:=h hz
 have hne:b≠cb:=by
  intro e;subst e;obtain⟨x,hx⟩:∃x,s[0]?=some x:=⟨s[0]'(List.length_pos_iff.2 hz),by simp[List.length_pos_iff.2 hz]⟩;have h1:=(hcl 0 x hx).1;rw[World.cell?] at h1;obtain⟨_,hbk⟩:=C.blk;simp[hbk] at h1;rcases hk:off with _|_|k
  ·subst hk;simp at h1
  ·subst hk;simp at h1
  ·subst hk;simp at h1
 refine⟨b,off,rfl,fun j x hj=> ?_⟩;have h1:=hcl j x hj;constructor
 ·rw[World.cell?_of_block (a:=⟨b,off+j*2,none⟩) (hg.block b (L.block_lt h1.1) (by simp[hne]))];exact h1.1
 ·rw[World.cell?_of_block (a:=⟨b,off+j*2+1,none⟩) (hg.block b (L.block_lt h1.2) (by simp[hne]))];exact h1.2
def T.isSet (s:List S.Sp) (v:Value) (w:World):Prop:=S.Rd w v s/\S.Nf 0 s/\s.length<=200
theorem T.isSet.cur {w w':World}{cb tb cap p:Nat}{ao:Option Addr}{l:List Int}{s:List S.Sp}{v:Value}(h:T.isSet s v w)(C:T.Cur w cb tb cap ao l p)(hg:w.grownBy w' (some cb)):T.isSet s v w':=⟨T.zpf C h.1 hg,h.2⟩
def T.isSetF (F:Nat) (s:List S.Sp) (v:Value) (w:World):Prop:=T.isSet s v w/\S.Fresh F v
theorem zks (w:World)(cb:Nat)(v:Value)(ao:Option Addr)(n c:Nat)(hv:v=.slice ao n c) :
  Calls prog 149 #[.pointer (some ⟨cb,0,none⟩),v,.int .i64 0] w fun e w'=>e=.returned v/\w'=w:=by
 subst hv
 go_enter func149,ntmps149
 go_wp2;go_ret
 exact⟨rfl,rfl⟩
theorem zi0 (w:World)(cb tb cap p:Nat)(ao:Option Addr)(l:List Int)(C:T.Cur w cb tb cap ao l p)(v:Value)(e:Int)(he:e≠0)(ao':Option Addr)(n c:Nat)(hv:v=.slice ao' n c) :
  Calls prog 149 #[.pointer (some ⟨cb,0,none⟩),v,.int .i64 e] w fun e' w'=>e'=T.thrown e p/\w'=w:=by
 subst hv;have c1:=C.cell1;have he':(e==0)=false:=by simp[he]
 clear C
 go_enter func149,ntmps149
 go_wp2_with (go_at_call 29;refine(zaw _ e p).mono ?_;unfold T.thrown;rintro e' w1 ⟨rfl,rfl⟩)
 exact⟨rfl,rfl,rfl⟩
theorem zc6 (w:World)(cb tb cap p:Nat)(ao:Option Addr)(l:List Int)(C:T.Cur w cb tb cap ao l p)(P:Int->Bool)(hP:∀q,P q=(S.inR q&&P q))(v:Value)(R:S.Rd w v (S.resL 0 0 P))(F:Nat)(hF:S.Fresh F v) :
  Calls prog 149 #[.pointer (some ⟨cb,0,none⟩),v,.int .i64 (S.resE 0 0 P)] w (T.Ends w cb tb cap ao l (T.made P p) (T.isSetF F)):=by
 obtain⟨vo,vc,hv⟩:=R.len;unfold T.made;have hN:=S.zvp hP
 by_cases h:200<(S.nf P).length
 ·rw[if_pos h];have e5:S.resE 0 0 P=5:=by simp[S.resE,S.fewE,h]
  rw[e5];refine(zi0 w cb tb cap p ao l C v 5 (by decide) _ _ _ hv).mono ?_;rintro e w' ⟨rfl,rfl⟩;exact⟨rfl,S.zat _ _⟩
 ·rw[if_neg h];have hle:(S.nf P).length<=200:=by omega
  have e0:=S.zt2 hle;rw[S.zt1 hle] at R;rw[e0];refine(zks w cb v _ _ _ hv).mono ?_;rintro e w' ⟨rfl,rfl⟩;exact⟨v,rfl,⟨⟨R,hN.1,hle⟩,hF⟩,C,S.zat _ _⟩
def T.ClassOk:Prop:=∀(w:World) (cb tb cap p:Nat) (ao:Option Addr) (l:List Int),T.Cur w cb tb cap ao l p->T.see l p=91->T.see l (p+1)=58 ->
 Calls prog 167 #[.pointer (some ⟨cb,0,none⟩)] w (T.Ends w cb tb cap ao l (T.cls l p) T.isSet)
def T.SetOk (cb tb cap:Nat) (ao:Option Addr) (l:List Int) (deep:Int) (sub:Nat->T.Out (List S.Sp)):Prop:=∀(w:World) (p:Nat),T.Cur w cb tb cap ao l p ->
 Calls prog 133 #[.pointer (some ⟨cb,0,none⟩),.int .i64 deep] w (T.Ends w cb tb cap ao l (sub p) (T.isSetF w.heap.size))
theorem zpp (hC:T.ClassOk)(w:World)(cb tb cap p:Nat)(ao:Option Addr)(l:List Int)(deep:Nat)(hd:deep<=20)(sub:Nat->T.Out (List S.Sp))(hS:T.SetOk cb tb cap ao l ((deep:Int)+1) sub)(C:T.Cur w cb tb cap ao l p)(v:Value)(s:List S.Sp)(hs:T.isSet s v w)(h1:T.see l p=38) :
  Calls prog 148 #[.pointer (some ⟨cb,0,none⟩),v,.int .i64 deep] w (T.Ends w cb tb cap ao l (T.part sub l s p) (T.isSetF w.heap.size)):=by
 obtain⟨vo,vc,hv⟩:=hs.1.len;subst hv;obtain⟨o,HO⟩:∃o,Hid (T.part sub l s p=o):=⟨_,rfl⟩;rw[HO.out];have HC:=qH C;have HV:=qH hs;have HS:=qH hS;have HK:=qH hC;clear C hs hS hC
 go_enter func148,ntmps148
 have HG0:Hid (w.grownBy w (some cb)):=S.zat _ _;have HC0:Hid (T.Cur w cb tb cap ao l p):=HC;have HV0:Hid (T.isSet s (.slice vo s.length vc) w):=HV
 go_wp2_with fail
 refine(zaq _ cb tb cap p ao l 38 (by decide) HC0.out).mono ?_;rintro e w1 ⟨rfl,C1,g1⟩;rw[if_pos h1] at C1;have HG1:=qH<|S.zaa HG0.out g1;have HV1:=qH<|HV0.out.cur HC0.out g1;have HC1:=qH C1;clear C1 g1
 go_wp2_with fail
 refine(zbm _ cb tb cap (p+1) ao l HC1.out).mono ?_;rintro e w8 ⟨rfl,C8,g8⟩;have HG8:=qH<|S.zaa HG1.out g8;have HV8:=qH<|HV1.out.cur HC1.out g8;have HC8:=qH C8;clear C8 g8
 go_wp2_with fail
 refine(HS.out _ _ HC8.out).mono ?_;intro e w9 h;cases hc:sub (T.skipW T.blank l (p+1)) with
 | bad er q =>
  rw[hc] at h;obtain⟨rfl,g9⟩:=h;unfold T.thrown;go_wp2;refine⟨rfl,?_⟩;rw[<- HO.out];unfold T.part;rw[if_pos h1,hc];exact⟨rfl,S.zaa HG8.out g9⟩
 | ok t q =>
  rw[hc] at h;obtain⟨v9,rfl,⟨hv9,_⟩,C9,g9⟩:=h;have HV9:=qH<|HV8.out.cur HC8.out g9;have HG9:=qH<|S.zaa HG8.out g9;have HC9:=qH C9;have HT9:=qH hv9;have HHc:Hid _:=hc;obtain⟨tgo,tc,ht⟩:=hv9.1.len;subst ht;clear hc hv9 C9 g9
  go_wp2_with fail
  refine(zsh _ _ _ s t HV9.out.1 HT9.out.1 (S.Fit.zdh HV9.out.2.1 (Int.le_refl _)) (S.Fit.zdh HT9.out.2.1 (Int.le_refl _))).mono ?_;rintro e w10 ⟨v10,rfl,R10,b10,f10,_⟩;have HF10:=qH<|f10.mono HG9.out.size;rw[S.zbf HV9.out.2.1 HV9.out.2.2,S.zbf HT9.out.2.1 HT9.out.2.2] at R10 ⊢;have HR10:=qH R10;have HC10:=qH<|HC9.out.below b10;have HG10:=qH<|S.zaa HG9.out (S.zaf b10);clear R10 b10 f10;generalize hre:S.resE 0 0 (S.andP s t)=re;have HRe:Hid _:=hre;clear hre
  go_wp2_with fail
  rw[<- HRe.out];refine(zc6 _ cb tb cap q ao l HC10.out (S.andP s t) (S.zu1 s t) v10 HR10.out _ HF10.out).mono ?_;intro e w11 h;have ho:T.made (S.andP s t) q=o:=by rw[<- HO.out];unfold T.part;rw[if_pos h1,HHc.out]
  rw[ho] at h;cases o with
  | bad er r =>
   obtain⟨rfl,g11⟩:=h;unfold T.thrown;go_wp2;exact⟨rfl,rfl,S.zaa HG10.out g11⟩
  | ok u r =>
   obtain⟨v11,rfl,hv11,C11,g11⟩:=h;have HV11:=qH hv11;clear hv11;go_wp2;go_ret;exact⟨_,rfl,HV11.out,C11,S.zaa HG10.out g11⟩
theorem zm9 (hC:T.ClassOk)(w:World)(cb tb cap p:Nat)(ao:Option Addr)(l:List Int)(deep:Nat)(hd:deep<=20)(sub:Nat->T.Out (List S.Sp))(hS:T.SetOk cb tb cap ao l ((deep:Int)+1) sub)(C:T.Cur w cb tb cap ao l p)(v:Value)(s:List S.Sp)(hs:T.isSet s v w)(h1:¬T.see l p=38)(h2:T.see l p=45) :
  Calls prog 148 #[.pointer (some ⟨cb,0,none⟩),v,.int .i64 deep] w (T.Ends w cb tb cap ao l (T.part sub l s p) (T.isSetF w.heap.size)):=by
 obtain⟨vo,vc,hv⟩:=hs.1.len;subst hv;obtain⟨o,HO⟩:∃o,Hid (T.part sub l s p=o):=⟨_,rfl⟩;rw[HO.out];have HC:=qH C;have HV:=qH hs;have HS:=qH hS;have HK:=qH hC;clear C hs hS hC
 go_enter func148,ntmps148
 have HG0:Hid (w.grownBy w (some cb)):=S.zat _ _;have HC0:Hid (T.Cur w cb tb cap ao l p):=HC;have HV0:Hid (T.isSet s (.slice vo s.length vc) w):=HV
 go_wp2_with fail
 refine(zaq _ cb tb cap p ao l 38 (by decide) HC0.out).mono ?_;rintro e w1 ⟨rfl,C1,g1⟩;rw[if_neg h1] at C1;have HG1:=qH<|S.zaa HG0.out g1;have HV1:=qH<|HV0.out.cur HC0.out g1;have HC1:=qH C1;clear C1 g1
 go_wp2_with fail
 refine(zaq _ cb tb cap p ao l 45 (by decide) HC1.out).mono ?_;rintro e w2 ⟨rfl,C2,g2⟩;rw[if_pos h2] at C2;have HG2:=qH<|S.zaa HG1.out g2;have HV2:=qH<|HV1.out.cur HC1.out g2;have HC2:=qH C2;clear C2 g2
 go_wp2_with fail
 refine(zbm _ cb tb cap (p+1) ao l HC2.out).mono ?_;rintro e w8 ⟨rfl,C8,g8⟩;have HG8:=qH<|S.zaa HG2.out g8;have HV8:=qH<|HV2.out.cur HC2.out g8;have HC8:=qH C8;clear C8 g8
 go_wp2_with fail
 refine(HS.out _ _ HC8.out).mono ?_;intro e w9 h;cases hc:sub (T.skipW T.blank l (p+1)) with
 | bad er q =>
  rw[hc] at h;obtain⟨rfl,g9⟩:=h;unfold T.thrown;go_wp2;refine⟨rfl,?_⟩;rw[<- HO.out];unfold T.part;rw[if_neg h1,if_pos h2,hc];exact⟨rfl,S.zaa HG8.out g9⟩
 | ok t q =>
  rw[hc] at h;obtain⟨v9,rfl,⟨hv9,_⟩,C9,g9⟩:=h;have HV9:=qH<|HV8.out.cur HC8.out g9;have HG9:=qH<|S.zaa HG8.out g9;have HC9:=qH C9;have HT9:=qH hv9;have HHc:Hid _:=hc;obtain⟨tgo,tc,ht⟩:=hv9.1.len;subst ht;clear hc hv9 C9 g9
  go_wp2_with fail
  refine(zpy _ _ _ s t HV9.out.1 HT9.out.1 (S.Fit.zdh HV9.out.2.1 (Int.le_refl _)) (S.Fit.zdh HT9.out.2.1 (Int.le_refl _))).mono ?_;rintro e w10 ⟨v10,rfl,R10,b10,f10,_⟩;have HF10:=qH<|f10.mono HG9.out.size;rw[S.zbf HV9.out.2.1 HV9.out.2.2,S.zbf HT9.out.2.1 HT9.out.2.2] at R10 ⊢;have HR10:=qH R10;have HC10:=qH<|HC9.out.below b10;have HG10:=qH<|S.zaa HG9.out (S.zaf b10);clear R10 b10 f10;generalize hre:S.resE 0 0 (S.minP s t)=re;have HRe:Hid _:=hre;clear hre
  go_wp2_with fail
  rw[<- HRe.out];refine(zc6 _ cb tb cap q ao l HC10.out (S.minP s t) (S.zuj s t) v10 HR10.out _ HF10.out).mono ?_;intro e w11 h;have ho:T.made (S.minP s t) q=o:=by rw[<- HO.out];unfold T.part;rw[if_neg h1,if_pos h2,HHc.out]
  rw[ho] at h;cases o with
  | bad er r =>
   obtain⟨rfl,g11⟩:=h;unfold T.thrown;go_wp2;exact⟨rfl,rfl,S.zaa HG10.out g11⟩
  | ok u r =>
   obtain⟨v11,rfl,hv11,C11,g11⟩:=h;have HV11:=qH hv11;clear hv11;go_wp2;go_ret;exact⟨_,rfl,HV11.out,C11,S.zaa HG10.out g11⟩
theorem zna (hC:T.ClassOk)(w:World)(cb tb cap p:Nat)(ao:Option Addr)(l:List Int)(deep:Nat)(_:deep<=20)(sub:Nat->T.Out (List S.Sp))(hS:T.SetOk cb tb cap ao l ((deep:Int)+1) sub)(C:T.Cur w cb tb cap ao l p)(v:Value)(s:List S.Sp)(hs:T.isSet s v w)(h1:¬T.see l p=38)(h2:¬T.see l p=45)(h3:T.see l p=91)(h4:T.see l (p+1)=58) :
  Calls prog 148 #[.pointer (some ⟨cb,0,none⟩),v,.int .i64 deep] w (T.Ends w cb tb cap ao l (T.part sub l s p) (T.isSetF w.heap.size)):=by
 obtain⟨vo,vc,hv⟩:=hs.1.len;subst hv;obtain⟨o,HO⟩:∃o,Hid (T.part sub l s p=o):=⟨_,rfl⟩;rw[HO.out];have HC:=qH C;have HV:=qH hs;have HS:=qH hS;have HK:=qH hC;clear C hs hS hC
 go_enter func148,ntmps148
 have HG0:Hid (w.grownBy w (some cb)):=S.zat _ _;have HC0:Hid (T.Cur w cb tb cap ao l p):=HC;have HV0:Hid (T.isSet s (.slice vo s.length vc) w):=HV
 go_wp2_with fail
 refine(zaq _ cb tb cap p ao l 38 (by decide) HC0.out).mono ?_;rintro e w1 ⟨rfl,C1,g1⟩;rw[if_neg h1] at C1;have HG1:=qH<|S.zaa HG0.out g1;have HV1:=qH<|HV0.out.cur HC0.out g1;have HC1:=qH C1;clear C1 g1
 go_wp2_with fail
 refine(zaq _ cb tb cap p ao l 45 (by decide) HC1.out).mono ?_;rintro e w2 ⟨rfl,C2,g2⟩;rw[if_neg h2] at C2;have HG2:=qH<|S.zaa HG1.out g2;have HV2:=qH<|HV1.out.cur HC1.out g2;have HC2:=qH C2;clear C2 g2
 go_wp2_with fail
 refine(zbq _ cb tb cap p ao l 91 HC2.out).mono ?_;rintro e w3 ⟨rfl,b3⟩;have HG3:=qH<|S.zaa HG2.out (S.zaf b3);have HV3:Hid (T.isSet s (.slice vo s.length vc) w3):=⟨HV2.out.1.below b3 qN,HV2.out.2⟩;have HC3:=qH<|HC2.out.below b3;clear b3
 go_wp2_with fail
 refine(za6 _ cb tb cap p 1 ao l HC3.out (by omega)).mono ?_;rintro e w8 ⟨rfl,b8⟩;have HG8:=qH<|S.zaa HG3.out (S.zaf b8);have HV8:Hid (T.isSet s (.slice vo s.length vc) w8):=⟨HV3.out.1.below b8 qN,HV3.out.2⟩;have HC8:=qH<|HC3.out.below b8;clear b8
 go_wp2_with fail
 refine(HK.out _ cb tb cap p ao l HC8.out h3 h4).mono ?_;intro e w9 h;cases hc:T.cls l p with
 | bad er q =>
  rw[hc] at h;obtain⟨rfl,g9⟩:=h;unfold T.thrown;go_wp2;refine⟨rfl,?_⟩;rw[<- HO.out];unfold T.part;rw[if_neg h1,if_neg h2,if_pos ⟨h3,h4⟩,hc];exact⟨rfl,S.zaa HG8.out g9⟩
 | ok t q =>
  rw[hc] at h;obtain⟨v9,rfl,hv9,C9,g9⟩:=h;have HV9:=qH<|HV8.out.cur HC8.out g9;have HG9:=qH<|S.zaa HG8.out g9;have HC9:=qH C9;have HT9:=qH hv9;have HHc:Hid _:=hc;obtain⟨tgo,tc,ht⟩:=hv9.1.len;subst ht;clear hc hv9 C9 g9
  go_wp2_with fail
  refine(ze6 _ _ _ s t HV9.out.1 HT9.out.1 (S.Fit.zdh HV9.out.2.1 (Int.le_refl _)) (S.Fit.zdh HT9.out.2.1 (Int.le_refl _))).mono ?_;rintro e w10 ⟨v10,rfl,R10,b10,f10,_⟩;have HF10:=qH<|f10.mono HG9.out.size;rw[S.zbf HV9.out.2.1 HV9.out.2.2,S.zbf HT9.out.2.1 HT9.out.2.2] at R10 ⊢;have HR10:=qH R10;have HC10:=qH<|HC9.out.below b10;have HG10:=qH<|S.zaa HG9.out (S.zaf b10);clear R10 b10 f10;generalize hre:S.resE 0 0 (S.orP s t)=re;have HRe:Hid _:=hre;clear hre
  go_wp2_with fail
  rw[<- HRe.out];refine(zc6 _ cb tb cap q ao l HC10.out (S.orP s t) (S.zpv s t) v10 HR10.out _ HF10.out).mono ?_;intro e w11 h;have ho:T.made (S.orP s t) q=o:=by rw[<- HO.out];unfold T.part;rw[if_neg h1,if_neg h2,if_pos ⟨h3,h4⟩,HHc.out]
  rw[ho] at h;cases o with
  | bad er r =>
   obtain⟨rfl,g11⟩:=h;unfold T.thrown;go_wp2;exact⟨rfl,rfl,S.zaa HG10.out g11⟩
  | ok u r =>
   obtain⟨v11,rfl,hv11,C11,g11⟩:=h;have HV11:=qH hv11;clear hv11;go_wp2;go_ret;exact⟨_,rfl,HV11.out,C11,S.zaa HG10.out g11⟩
theorem zr9 (hC:T.ClassOk)(w:World)(cb tb cap p:Nat)(ao:Option Addr)(l:List Int)(deep:Nat)(hd:deep<=20)(sub:Nat->T.Out (List S.Sp))(hS:T.SetOk cb tb cap ao l ((deep:Int)+1) sub)(C:T.Cur w cb tb cap ao l p)(v:Value)(s:List S.Sp)(hs:T.isSet s v w)(h1:¬T.see l p=38)(h2:¬T.see l p=45)(h3:T.see l p=91)(h4:¬T.see l (p+1)=58) :
  Calls prog 148 #[.pointer (some ⟨cb,0,none⟩),v,.int .i64 deep] w (T.Ends w cb tb cap ao l (T.part sub l s p) (T.isSetF w.heap.size)):=by
 obtain⟨vo,vc,hv⟩:=hs.1.len;subst hv;obtain⟨o,HO⟩:∃o,Hid (T.part sub l s p=o):=⟨_,rfl⟩;rw[HO.out];have HC:=qH C;have HV:=qH hs;have HS:=qH hS;have HK:=qH hC;clear C hs hS hC
 go_enter func148,ntmps148
 have HG0:Hid (w.grownBy w (some cb)):=S.zat _ _;have HC0:Hid (T.Cur w cb tb cap ao l p):=HC;have HV0:Hid (T.isSet s (.slice vo s.length vc) w):=HV
 go_wp2_with fail
 refine(zaq _ cb tb cap p ao l 38 (by decide) HC0.out).mono ?_;rintro e w1 ⟨rfl,C1,g1⟩;rw[if_neg h1] at C1;have HG1:=qH<|S.zaa HG0.out g1;have HV1:=qH<|HV0.out.cur HC0.out g1;have HC1:=qH C1;clear C1 g1
 go_wp2_with fail
 refine(zaq _ cb tb cap p ao l 45 (by decide) HC1.out).mono ?_;rintro e w2 ⟨rfl,C2,g2⟩;rw[if_neg h2] at C2;have HG2:=qH<|S.zaa HG1.out g2;have HV2:=qH<|HV1.out.cur HC1.out g2;have HC2:=qH C2;clear C2 g2
 go_wp2_with fail
 refine(zbq _ cb tb cap p ao l 91 HC2.out).mono ?_;rintro e w3 ⟨rfl,b3⟩;have HG3:=qH<|S.zaa HG2.out (S.zaf b3);have HV3:Hid (T.isSet s (.slice vo s.length vc) w3):=⟨HV2.out.1.below b3 qN,HV2.out.2⟩;have HC3:=qH<|HC2.out.below b3;clear b3
 go_wp2_with fail
 refine(za6 _ cb tb cap p 1 ao l HC3.out (by omega)).mono ?_;rintro e w4 ⟨rfl,b4⟩;have HG4:=qH<|S.zaa HG3.out (S.zaf b4);have HV4:Hid (T.isSet s (.slice vo s.length vc) w4):=⟨HV3.out.1.below b4 qN,HV3.out.2⟩;have HC4:=qH<|HC3.out.below b4;clear b4
 go_wp2_with fail
 refine(zbq _ cb tb cap p ao l 91 HC4.out).mono ?_;rintro e w8 ⟨rfl,b8⟩;have HG8:=qH<|S.zaa HG4.out (S.zaf b8);have HV8:Hid (T.isSet s (.slice vo s.length vc) w8):=⟨HV4.out.1.below b8 qN,HV4.out.2⟩;have HC8:=qH<|HC4.out.below b8;clear b8
 go_wp2_with fail
 refine(HS.out _ _ HC8.out).mono ?_;intro e w9 h;cases hc:sub p with
 | bad er q =>
  rw[hc] at h;obtain⟨rfl,g9⟩:=h;unfold T.thrown;go_wp2;refine⟨rfl,?_⟩;rw[<- HO.out];unfold T.part;rw[if_neg h1,if_neg h2,if_neg (fun h=>h4 h.2),if_pos h3,hc];exact⟨rfl,S.zaa HG8.out g9⟩
 | ok t q =>
  rw[hc] at h;obtain⟨v9,rfl,⟨hv9,_⟩,C9,g9⟩:=h;have HV9:=qH<|HV8.out.cur HC8.out g9;have HG9:=qH<|S.zaa HG8.out g9;have HC9:=qH C9;have HT9:=qH hv9;have HHc:Hid _:=hc;obtain⟨tgo,tc,ht⟩:=hv9.1.len;subst ht;clear hc hv9 C9 g9
  go_wp2_with fail
  refine(ze6 _ _ _ s t HV9.out.1 HT9.out.1 (S.Fit.zdh HV9.out.2.1 (Int.le_refl _)) (S.Fit.zdh HT9.out.2.1 (Int.le_refl _))).mono ?_;rintro e w10 ⟨v10,rfl,R10,b10,f10,_⟩;have HF10:=qH<|f10.mono HG9.out.size;rw[S.zbf HV9.out.2.1 HV9.out.2.2,S.zbf HT9.out.2.1 HT9.out.2.2] at R10 ⊢;have HR10:=qH R10;have HC10:=qH<|HC9.out.below b10;have HG10:=qH<|S.zaa HG9.out (S.zaf b10);clear R10 b10 f10;generalize hre:S.resE 0 0 (S.orP s t)=re;have HRe:Hid _:=hre;clear hre
  go_wp2_with fail
  rw[<- HRe.out];refine(zc6 _ cb tb cap q ao l HC10.out (S.orP s t) (S.zpv s t) v10 HR10.out _ HF10.out).mono ?_;intro e w11 h;have ho:T.made (S.orP s t) q=o:=by rw[<- HO.out];unfold T.part;rw[if_neg h1,if_neg h2,if_neg (fun h=>h4 h.2),if_pos h3,HHc.out]
  rw[ho] at h;cases o with
  | bad er r =>
   obtain⟨rfl,g11⟩:=h;unfold T.thrown;go_wp2;exact⟨rfl,rfl,S.zaa HG10.out g11⟩
  | ok u r =>
   obtain⟨v11,rfl,hv11,C11,g11⟩:=h;have HV11:=qH hv11;clear hv11;go_wp2;go_ret;exact⟨_,rfl,HV11.out,C11,S.zaa HG10.out g11⟩
theorem ztd {f:Int->Bool}:∀ {l:List Int} {z:Int},z∈l.takeWhile f->f z=true
 | [],z,h=>by simp at h
 | a::l,z,h=>by
  rw[List.takeWhile_cons] at h;split at h
  ·rename_i ha
   rcases List.mem_cons.1 h with rfl|h'
   ·exact ha
   ·exact ztd h'
  ·simp at h
theorem zow {f:Int->Bool}:∀m:List Int,m.take (m.takeWhile f).length=m.takeWhile f
 | []=>rfl
 | a::m=>by
  rw[List.takeWhile_cons];split
  ·rw[List.length_cons,List.take_succ_cons,zow m]
  ·rfl
theorem zvi {f:Int->Bool}(l:List Int)(p:Nat):T.cut l p (T.skipW f l p)=(l.drop p).takeWhile f:=by
 unfold T.cut T.skipW;rw[Nat.add_sub_cancel_left,zow]
theorem ztk {l:List Int}(hl:∀z∈l,M.right z=true){p q:Nat}{r:Int}(h:T.chr l p=.ok r q):0<=r/\r<=1114111:=by
 have hsee:∀i,T.see l i≠ -1->0<=T.see l i/\T.see l i<=1114111:=by
  intro i hi
  by_cases hlt:i<l.length
  ·have:=hl _ (List.mem_of_getElem? (T.zew hlt));unfold M.right at this;have:=of_decide_eq_true this;omega
  ·exact absurd (T.zgj (by omega)) hi
 unfold T.chr at h;split at h
 ·unfold T.esc at h;split at h
  ·unfold T.num at h;split at h
   ·cases h
   ·split at h
    ·cases h
    ·split at h
     ·cases h
     ·split at h
      ·cases h
      ·rename_i hbig
       cases h;refine⟨?_,by omega⟩
       have:∀(m:List Int) (a:Int),0<=a->(∀z∈m,0<=T.hexOne z)->0<=m.foldl (fun x r=>16*x+T.hexOne r) a:=by
        intro m
        induction m with
        | nil=>intro a ha _;exact ha
        | cons z m ih=>intro a ha hm;exact ih _ (by have:=hm z (by simp);show 0<=16*a+T.hexOne z;omega) (fun y hy=>hm y (by simp[hy]))
       refine this _ 0 (by omega) fun z hz=> ?_
       rw[zvi] at hz;have hk:=ztd hz;have:=zcf hk;unfold T.hexOne;split <;> (try split) <;> omega
  ·split at h
   ·cases h;omega
   ·split at h
    ·cases h;omega
    ·split at h
     ·cases h
     ·rename_i hn
      cases h;exact hsee _ fun e=>hn (.inl e)
 ·split at h
  ·rename_i ho
   cases h;refine hsee _ fun e=> ?_
   rw[e] at ho
   revert ho
   decide
  ·cases h
theorem ztt {l:List Int}(hl:∀z∈l,M.right z=true){p q:Nat}{x:S.Sp}(h:T.span l p=.ok x q):0<=x.1/\x.1<=x.2/\x.2<=1114111:=by
 unfold T.span at h;cases h1:T.chr l p with
 | bad e r=>rw[h1] at h;cases h
 | ok lo r =>
  rw[h1] at h;simp only at h;have b1:=ztk hl h1;split at h
  ·cases h;simp only;omega
  ·cases h2:T.chr l (r+1) with
   | bad e r'=>rw[h2] at h;cases h
   | ok hi r' =>
    rw[h2] at h;simp only at h;have b2:=ztk hl h2;split at h
    ·cases h
    ·cases h;simp only;omega
theorem zpm (_:T.ClassOk)(w:World)(cb tb cap p:Nat)(ao:Option Addr)(l:List Int)(deep:Nat)(_:deep<=20)(sub:Nat->T.Out (List S.Sp))(_:T.SetOk cb tb cap ao l ((deep:Int)+1) sub)(C:T.Cur w cb tb cap ao l p)(v:Value)(s:List S.Sp)(hs:T.isSet s v w)(h1:¬T.see l p=38)(h2:¬T.see l p=45)(h3:¬T.see l p=91) :
  Calls prog 148 #[.pointer (some ⟨cb,0,none⟩),v,.int .i64 deep] w (T.Ends w cb tb cap ao l (T.part sub l s p) (T.isSetF w.heap.size)):=by
 obtain⟨vo,vc,hv⟩:=hs.1.len;subst hv;obtain⟨o,HO⟩:∃o,Hid (T.part sub l s p=o):=⟨_,rfl⟩;rw[HO.out];have HC:=qH C;have HV:=qH hs;clear C hs
 go_enter func148,ntmps148
 have HG0:Hid (w.grownBy w (some cb)):=S.zat _ _;have HC0:Hid (T.Cur w cb tb cap ao l p):=HC;have HV0:Hid (T.isSet s (.slice vo s.length vc) w):=HV
 go_wp2_with fail
 refine(zaq _ cb tb cap p ao l 38 (by decide) HC0.out).mono ?_;rintro e w1 ⟨rfl,C1,g1⟩;rw[if_neg h1] at C1;have HG1:=qH<|S.zaa HG0.out g1;have HV1:=qH<|HV0.out.cur HC0.out g1;have HC1:=qH C1;clear C1 g1
 go_wp2_with fail
 refine(zaq _ cb tb cap p ao l 45 (by decide) HC1.out).mono ?_;rintro e w2 ⟨rfl,C2,g2⟩;rw[if_neg h2] at C2;have HG2:=qH<|S.zaa HG1.out g2;have HV2:=qH<|HV1.out.cur HC1.out g2;have HC2:=qH C2;clear C2 g2
 go_wp2_with fail
 refine(zbq _ cb tb cap p ao l 91 HC2.out).mono ?_;rintro e w3 ⟨rfl,b3⟩;have HG3:=qH<|S.zaa HG2.out (S.zaf b3);have HV3:Hid (T.isSet s (.slice vo s.length vc) w3):=⟨HV2.out.1.below b3 qN,HV2.out.2⟩;have HC3:=qH<|HC2.out.below b3;clear b3
 go_wp2_with fail
 refine(zbq _ cb tb cap p ao l 91 HC3.out).mono ?_;rintro e w8 ⟨rfl,b8⟩;have HG8:=qH<|S.zaa HG3.out (S.zaf b8);have HV8:Hid (T.isSet s (.slice vo s.length vc) w8):=⟨HV3.out.1.below b8 qN,HV3.out.2⟩;have HC8:=qH<|HC3.out.below b8;clear b8
 go_wp2_with fail
 refine(zrp _ cb tb cap p ao l HC8.out).mono ?_;intro e w9 h;cases hc:T.span l p with
 | bad er q =>
  rw[hc] at h;obtain⟨rfl,g9⟩:=h;unfold T.thrown;go_wp2;refine⟨rfl,?_⟩;rw[<- HO.out];unfold T.part;rw[if_neg h1,if_neg h2,if_neg (fun h=>h3 h.1),if_neg h3,hc];exact⟨rfl,S.zaa HG8.out g9⟩
 | ok t q =>
  rw[hc] at h;obtain⟨v9,rfl,hv9,C9,g9⟩:=h;have hx:=ztt C9.rt hc;have HV9':=qH<|HV8.out.cur HC8.out g9;have HG9':=qH<|S.zaa HG8.out g9;have HC9':=qH C9;have HHc:Hid _:=hc;unfold T.isSpan at hv9;subst hv9;obtain⟨x1,x2⟩:=t;simp only at hx;clear hc C9 g9
  go_wp2_with fail
  have bW:=(qR w9).alloc qN (.cells #[.int .i32 x1,.int .i32 x2] 113)
  have HT9:Hid (T.isSet [(x1,x2)] (.slice (some ⟨w9.heap.size,0,none⟩) 1 1) (w9.alloc (.cells #[.int .i32 x1,.int .i32 x2] 113))):=by
   refine⟨⟨_,_,rfl,(fun h=>by cases h),fun _=>⟨w9.heap.size,0,rfl,fun j y hj=> ?_⟩⟩,⟨hx.1,hx.2.1,hx.2.2,trivial⟩,by simp⟩;cases j with
   | zero=>simp at hj;subst hj;exact⟨by rw[World.cell?_alloc_at _ _ _ _ rfl];rfl,by rw[World.cell?_alloc_at _ _ _ _ rfl];rfl⟩
   | succ j=>simp at hj
  have HV9:Hid (T.isSet s (.slice vo s.length vc) (w9.alloc (.cells #[.int .i32 x1,.int .i32 x2] 113))):=⟨HV9'.out.1.below bW qN,HV9'.out.2⟩;have HC9:=qH<|HC9'.out.below bW;have HG9:=qH<|S.zaa HG9'.out (S.zaf bW);clear HV9' HG9' HC9' bW;refine(ze6 _ _ _ s [(x1,x2)] HV9.out.1 HT9.out.1 (S.Fit.zdh HV9.out.2.1 (Int.le_refl _)) (S.Fit.zdh HT9.out.2.1 (Int.le_refl _))).mono ?_;rintro e w10 ⟨v10,rfl,R10,b10,f10,_⟩;have HF10:=qH<|f10.mono HG9.out.size;rw[S.zbf HV9.out.2.1 HV9.out.2.2,S.zbf HT9.out.2.1 HT9.out.2.2] at R10 ⊢;have HR10:=qH R10;have HC10:=qH<|HC9.out.below b10;have HG10:=qH<|S.zaa HG9.out (S.zaf b10);clear R10 b10 f10;generalize hre:S.resE 0 0 (S.orP s [(x1,x2)])=re;have HRe:Hid _:=hre;clear hre
  go_wp2_with fail
  rw[<- HRe.out];refine(zc6 _ cb tb cap q ao l HC10.out (S.orP s [(x1,x2)]) (S.zpv s [(x1,x2)]) v10 HR10.out _ HF10.out).mono ?_;intro e w11 h;have ho:T.made (S.orP s [(x1,x2)]) q=o:=by rw[<- HO.out];unfold T.part;rw[if_neg h1,if_neg h2,if_neg (fun h=>h3 h.1),if_neg h3,HHc.out]
  rw[ho] at h;cases o with
  | bad er r =>
   obtain⟨rfl,g11⟩:=h;unfold T.thrown;go_wp2;exact⟨rfl,rfl,S.zaa HG10.out g11⟩
  | ok u r =>
   obtain⟨v11,rfl,hv11,C11,g11⟩:=h;have HV11:=qH hv11;clear hv11;go_wp2;go_ret;exact⟨_,rfl,HV11.out,C11,S.zaa HG10.out g11⟩
theorem zsc (hC:T.ClassOk)(w:World)(cb tb cap p:Nat)(ao:Option Addr)(l:List Int)(deep:Nat)(hd:deep<=20)(sub:Nat->T.Out (List S.Sp))(hS:T.SetOk cb tb cap ao l ((deep:Int)+1) sub)(C:T.Cur w cb tb cap ao l p)(v:Value)(s:List S.Sp)(hs:T.isSet s v w) :
  Calls prog 148 #[.pointer (some ⟨cb,0,none⟩),v,.int .i64 deep] w (T.Ends w cb tb cap ao l (T.part sub l s p) (T.isSetF w.heap.size)):=by
 by_cases h1:T.see l p=38
 ·exact zpp hC w cb tb cap p ao l deep hd sub hS C v s hs h1
 ·by_cases h2:T.see l p=45
  ·exact zm9 hC w cb tb cap p ao l deep hd sub hS C v s hs h1 h2
  ·by_cases h3:T.see l p=91
   ·by_cases h4:T.see l (p+1)=58
    ·exact zna hC w cb tb cap p ao l deep hd sub hS C v s hs h1 h2 h3 h4
    ·exact zr9 hC w cb tb cap p ao l deep hd sub hS C v s hs h1 h2 h3 h4
   ·exact zpm hC w cb tb cap p ao l deep hd sub hS C v s hs h1 h2 h3
theorem zqx {l:List Int}{p q:Nat}{r:Int}(h:T.chr l p=.ok r q):p<q:=by
 unfold T.chr at h;split at h
 ·unfold T.esc at h;split at h
  ·unfold T.num at h;split at h
   ·cases h
   ·split at h
    ·cases h
    ·split at h
     ·cases h
     ·split at h
      ·cases h
      ·cases h;have:=T.za1 T.hexd l (p+1+2);omega
  ·split at h
   ·cases h;omega
   ·split at h
    ·cases h;omega
    ·split at h
     ·cases h
     ·cases h;omega
 ·split at h
  ·cases h;omega
  ·cases h
theorem zts {l:List Int}{p q:Nat}{x:S.Sp}(h:T.span l p=.ok x q):p<q:=by
 unfold T.span at h;cases h1:T.chr l p with
 | bad e r=>rw[h1] at h;cases h
 | ok lo r =>
  rw[h1] at h;simp only at h;have b1:=zqx h1;split at h
  ·cases h;exact b1
  ·cases h2:T.chr l (r+1) with
   | bad e r'=>rw[h2] at h;cases h
   | ok hi r' =>
    rw[h2] at h;simp only at h;have b2:=zqx h2;split at h
    ·cases h
    ·cases h;omega
theorem zvj {l:List Int}{p q:Nat}{s:List S.Sp}(h:T.cls l p=.ok s q):p<q:=by
 unfold T.cls at h;split at h
 ·cases h
 ·split at h
  ·cases h
  ·split at h
   ·cases h
   ·cases h;have:=T.za1 T.ordy l (p+2);omega
theorem zeo {P:Int->Bool}{p q:Nat}{s:List S.Sp}(h:T.made P p=.ok s q):q=p:=by
 unfold T.made at h;split at h
 ·cases h
 ·cases h;rfl
theorem zpq {sub:Nat->T.Out (List S.Sp)}(hsub:∀p t q,sub p=.ok t q->p<q){l:List Int}{s t:List S.Sp}{p q:Nat}(h:T.part sub l s p=.ok t q):p<q:=by
 have hk:=T.za1 T.blank l (p+1);unfold T.part at h;split at h
 ·cases h1:sub (T.skipW T.blank l (p+1)) with
  | bad e r=>rw[h1] at h;cases h
  | ok u r=>rw[h1] at h;have:=hsub _ _ _ h1;have:=zeo h;omega
 ·split at h
  ·cases h1:sub (T.skipW T.blank l (p+1)) with
   | bad e r=>rw[h1] at h;cases h
   | ok u r=>rw[h1] at h;have:=hsub _ _ _ h1;have:=zeo h;omega
  ·split at h
   ·cases h1:T.cls l p with
    | bad e r=>rw[h1] at h;cases h
    | ok u r=>rw[h1] at h;have:=zvj h1;have:=zeo h;omega
   ·split at h
    ·cases h1:sub p with
     | bad e r=>rw[h1] at h;cases h
     | ok u r=>rw[h1] at h;have:=hsub _ _ _ h1;have:=zeo h;omega
    ·cases h1:T.span l p with
     | bad e r=>rw[h1] at h;cases h
     | ok u r=>rw[h1] at h;have:=zts h1;have:=zeo h;omega
theorem zp3 {sub:Nat->T.Out (List S.Sp)}(hsub:∀p t q,sub p=.ok t q->p<q){l:List Int}:∀(f:Nat) {s t:List S.Sp} {p q:Nat},T.loop f sub l s p=.ok t q->p<q:=by
 intro f
 induction f with
 | zero=>intro s t p q h;rw[T.loop] at h;cases h
 | succ f ih =>
  intro s t p q h;rw[T.loop] at h;split at h
  ·cases h;omega
  ·cases h1:T.part sub l s p with
   | bad e r=>rw[h1] at h;cases h
   | ok u r =>
    rw[h1] at h;simp only at h;have:=zpq hsub h1;have:=ih h;have:=T.za1 T.blank l r;omega
theorem zo3 {l:List Int}:∀(n p:Nat) (t:List S.Sp) (q:Nat),T.setN n l p=.ok t q->p<q:=by
 intro n
 induction n with
 | zero=>intro p t q h;rw[T.setN] at h;split at h <;> cases h
 | succ n ih =>
  intro p t q h;rw[T.setN] at h;split at h
  ·cases h
  ·split at h
   ·cases h1:T.loop (l.length+1) (T.setN n l) l [] (T.skipW T.blank l (p+2)) with
    | bad e r=>rw[h1] at h;cases h
    | ok u r =>
     rw[h1] at h;have:=zp3 ih _ h1;have:=zeo h;have:=T.za1 T.blank l (p+2);omega
   ·have:=zp3 ih _ h;have:=T.za1 T.blank l (p+1);omega
noncomputable def T.finish (ng:Bool):T.Out (List S.Sp)->T.Out (List S.Sp)
 | .bad e q=> .bad e q
 | .ok s q=>if ng=true then T.made (S.notP s) q else .ok s q
theorem zrs (w:World)(cb tb cap p:Nat)(ao:Option Addr)(l:List Int)(C:T.Cur w cb tb cap ao l p) :
  Calls prog 133 #[.pointer (some ⟨cb,0,none⟩),.int .i64 21] w (T.Ends w cb tb cap ao l (T.setN 0 l p) (T.isSetF w.heap.size)):=by
 have c1:=C.cell1;have HC:=qH C;clear C;rw[T.setN]
 by_cases h:T.see l p=91
 ·rw[if_neg (by simp[h])]
  go_enter func133,ntmps133
  go_wp2_with fail
  refine(za0 _ cb tb cap p ao l 91 (by decide) HC.out h).mono ?_;rintro e w1 ⟨rfl,C1,g1⟩
  go_wp2_with (go_at_call 29;refine(zaw _ 4 p).mono ?_;unfold T.thrown;rintro e w2 ⟨rfl,rfl⟩)
  exact⟨rfl,rfl,g1⟩
 ·rw[if_pos h]
  go_enter func133,ntmps133
  go_wp2_with fail
  refine(zb0 _ cb tb cap p ao l 91 (by decide) HC.out h).mono ?_;unfold T.thrown;rintro e w1 ⟨rfl,g1⟩;go_wp2;exact⟨rfl,rfl,g1⟩
theorem zrq (hC:T.ClassOk)(n:Nat)(hn:n<20)(cb tb cap:Nat)(ao:Option Addr)(l:List Int)(hS:T.SetOk cb tb cap ao l ((20-n:Nat)+1:Int) (T.setN n l)):T.SetOk cb tb cap ao l ((20-n:Nat):Int) (T.setN (n+1) l):=by
 intro w p C;obtain⟨deep,HD⟩:∃d:Nat,Hid (d=20-n):=⟨_,rfl⟩;rw[<- HD.out] at hS ⊢;have hd1:deep<=20:=by have:=HD.out;omega
 have c1:=C.cell1;have hlen:=C.len;have HC:=qH C;have HS:=qH hS;have HK:=qH hC;clear C hS hC;obtain⟨o,HO⟩:∃o,Hid (T.setN (n+1) l p=o):=⟨_,rfl⟩;rw[HO.out]
 by_cases h:T.see l p=91
 ·go_enter func133,ntmps133
  go_wp2_with fail
  refine(za0 _ cb tb cap p ao l 91 (by decide) HC.out h).mono ?_;rintro e w1 ⟨rfl,C1,g1⟩;have HC1:=qH C1;have HG1:=qH g1;clear C1 g1;have hdd:¬ 20<(deep:Int):=by omega
  go_wp2_with fail
  refine(zaq _ cb tb cap (p+1) ao l 94 (by decide) HC1.out).mono ?_;rintro e w2 ⟨rfl,C2,g2⟩;have HG2:=qH<|S.zaa HG1.out g2;obtain⟨p2,HP2⟩:∃p2,Hid ((if T.see l (p+1)=94 then p+1+1 else p+1)=p2):=⟨_,rfl⟩;obtain⟨ng,HNg⟩:∃b:Bool,Hid (decide (T.see l (p+1)=94)=b):=⟨_,rfl⟩;rw[HP2.out] at C2;rw[HNg.out];have HC2:=qH C2;clear C2 g2
  go_wp2_with fail
  refine(zbm _ cb tb cap p2 ao l HC2.out).mono ?_;rintro e w3 ⟨rfl,C3,g3⟩;have HG3:=qH<|S.zaa HG2.out g3;have HC3:=qH C3;clear C3 g3;obtain⟨L0,HL0⟩:∃L0,Hid (T.loop (l.length+1) (T.setN n l) l [] (T.skipW T.blank l p2)=L0):=⟨_,rfl⟩
  have HFin:Hid (o=T.finish ng L0):=by
   show _=_;rw[<- HO.out,<- HL0.out,<- HP2.out,<- HNg.out,T.setN,if_neg (by simp[h])]
   by_cases h94:T.see l (p+1)=94
   ·rw[if_pos h94,if_pos h94,decide_eq_true h94];cases T.loop (l.length+1) (T.setN n l) l [] (T.skipW T.blank l (p+2)) <;> rfl
   ·rw[if_neg h94,if_neg h94,decide_eq_false h94];cases T.loop (l.length+1) (T.setN n l) l [] (T.skipW T.blank l (p+1)) <;> rfl
  go_wp2
  go_loopw [7] (fun sv wr=>∃(s:List S.Sp) (q f vc:Nat) (vo:Option Addr),sv=.slice vo s.length vc/\Hid (T.isSetF w.heap.size s (.slice vo s.length vc) wr)/\Hid (T.Cur wr cb tb cap ao l q)/\Hid (w.grownBy wr (some cb))/\Hid (l.length<q+f)/\Hid (T.loop f (T.setN n l) l s q=L0)) (fun _ wr=>l.length-T.pos wr cb)
  case atStart=>exact⟨[],T.skipW T.blank l p2,l.length+1,0,none,rfl,⟨⟨S.Rd.nil _,trivial,by simp⟩,S.Fresh.nil _⟩,HC3,HG3,by show _<_;omega,HL0⟩
  case round =>
   obtain⟨s,q,f,vc,vo,rfl,HV,HCq,HG,HF,HL⟩:=hrel;have HPos:Hid _:=HCq.out.pos;have hql:=HCq.out.le;obtain⟨f,rfl⟩:∃g,f=g+1:=⟨f-1,by have:=HF.out;omega⟩
   go_wp2_with fail
   refine(zaq _ cb tb cap q ao l 93 (by decide) HCq.out).mono ?_;rintro e w4 ⟨rfl,C4,g4⟩;have HG4:=qH<|S.zaa HG.out g4;have HV4:=qH<|HV.out.1.cur HCq.out g4;have HFr:=qH HV.out.2;clear g4
   by_cases h93:T.see l q=93
   ·rw[if_pos h93] at C4;have HC4:=qH C4;clear C4;have hL:L0=.ok s (q+1):=by rw[<- HL.out,T.loop,if_pos h93]
    have hFin:=HFin.out;rw[hL] at hFin;have HFn:Hid _:=hFin;clear hFin hL;cases ng with
    | true =>
     go_wp2_with fail
     refine(zug _ _ s HV4.out.1 (S.Fit.zdh HV4.out.2.1 (Int.le_refl _))).mono ?_;rintro e w7 ⟨v7,rfl,R7,b7,f7,_⟩;have HF7:=qH<|f7.mono HG4.out.size;rw[S.zbf HV4.out.2.1 HV4.out.2.2] at R7 ⊢;have HR7:=qH R7;have HC7:=qH<|HC4.out.below b7;have HG7:=qH<|S.zaa HG4.out (S.zaf b7);clear R7 b7 f7;generalize hre:S.resE 0 0 (S.notP s)=re;have HRe:Hid _:=hre;clear hre
     go_wp2_with fail
     rw[<- HRe.out];refine(zc6 _ cb tb cap (q+1) ao l HC7.out (S.notP s) (S.zuh s) v7 HR7.out _ HF7.out).mono ?_;intro e w8 hm;have ho:T.made (S.notP s) (q+1)=o:=by rw[HFn.out];rfl
     rw[ho] at hm;cases o with
     | bad er r =>
      obtain⟨rfl,g8⟩:=hm;unfold T.thrown;go_wp2;exact⟨rfl,rfl,S.zaa HG7.out g8⟩
     | ok u r =>
      obtain⟨v8,rfl,hv8,C8,g8⟩:=hm;have HV8:=qH hv8;clear hv8;go_wp2;go_ret;exact⟨_,rfl,HV8.out,C8,S.zaa HG7.out g8⟩
    | false =>
     go_wp2;go_ret
     rw[HFn.out];exact⟨_,rfl,⟨HV4.out,HFr.out⟩,HC4.out,HG4.out⟩
   ·rw[if_neg h93] at C4;have HC4:=qH C4;clear C4
    go_wp2_with fail
    refine(zsc HK.out _ cb tb cap q ao l deep hd1 (T.setN n l) HS.out HC4.out _ s HV4.out).mono ?_;intro e w5 hp;cases hc:T.part (T.setN n l) l s q with
    | bad er r =>
     rw[hc] at hp;obtain⟨rfl,g5⟩:=hp;have hFin:=HFin.out;rw[<- HL.out,T.loop,if_neg h93,hc] at hFin;unfold T.thrown;go_wp2;refine⟨rfl,?_⟩;rw[hFin];exact⟨rfl,S.zaa HG4.out g5⟩
    | ok t r =>
     rw[hc] at hp;obtain⟨v5,rfl,hv5,C5,g5⟩:=hp;have hqr:=zpq (zo3 n) hc;have HV5:=qH hv5.1;have HF5:=qH<|hv5.2.mono HG4.out.size;have HC5:=qH C5;have HG5:=qH<|S.zaa HG4.out g5;have HL5:Hid (T.loop f (T.setN n l) l t (T.skipW T.blank l r)=L0):=by show _=_;rw[<- HL.out,T.loop,if_neg h93,hc]
     obtain⟨tgo,tc,ht⟩:=hv5.1.1.len;subst ht;clear hv5 C5 g5 hc
     go_wp2_with fail
     refine(zbm _ cb tb cap r ao l HC5.out).mono ?_;rintro e w6 ⟨rfl,C6,g6⟩;have HC6:=qH C6;have HV6:=qH<|HV5.out.cur HC5.out g6;have HG6:=qH<|S.zaa HG5.out g6;have hge:=T.za1 T.blank l r;clear C6 g6;go_wp2
     go_roundw
     case rel=>exact⟨t,_,f,tc,tgo,rfl,⟨HV6.out,HF5.out⟩,HC6,HG6,by have:=HF.out;show _<_;omega,HL5⟩
     case measure =>
      rw[HC6.out.pos,HPos.out];have:=HC6.out.le;omega
 ·go_enter func133,ntmps133
  go_wp2_with fail
  refine(zb0 _ cb tb cap p ao l 91 (by decide) HC.out h).mono ?_;unfold T.thrown;rintro e w1 ⟨rfl,g1⟩;go_wp2;refine⟨rfl,?_⟩;rw[<- HO.out,T.setN,if_pos h];exact⟨rfl,g1⟩
theorem ztx (hC:T.ClassOk)(cb tb cap:Nat)(ao:Option Addr)(l:List Int):∀n,n<=20->T.SetOk cb tb cap ao l ((21-n:Nat):Int) (T.setN n l):=by
 intro n
 induction n with
 | zero=>intro _ w p C;exact zrs w cb tb cap p ao l C
 | succ n ih =>
  intro hn;have h:=ih (by omega);have e:((21-n:Nat):Int)=((20-n:Nat):Int)+1:=by omega
  rw[e] at h;have e2:(21-(n+1):Nat)=20-n:=by omega
  rw[e2];exact zrq hC n (by omega) cb tb cap ao l h
theorem zlm (hK:T.ClassOk)(w:World)(cb tb cap p:Nat)(ao:Option Addr)(l:List Int)(C:T.Cur w cb tb cap ao l p) :
  Calls prog 111 #[.pointer (some ⟨cb,0,none⟩)] w (T.Ends w cb tb cap ao l (T.setN 20 l p) (T.isSetF w.heap.size)):=by
 have HC:=qH C;have HS:=qH<|ztx hK cb tb cap ao l 20 qN;clear C;obtain⟨o,HO⟩:∃o,Hid (T.setN 20 l p=o):=⟨_,rfl⟩;rw[HO.out]
 go_enter func111,ntmps111
 go_wp2_with fail
 refine(HS.out _ _ HC.out).mono ?_;intro e w2 h;rw[HO.out] at h;cases o with
 | bad er q =>
  obtain⟨rfl,g2⟩:=h;unfold T.thrown;go_wp2;exact⟨rfl,rfl,g2⟩
 | ok t q =>
  obtain⟨v2,rfl,hv2,C2,g2⟩:=h;have HV2:=qH hv2;have HC2:=qH C2;have HG2:=qH g2;obtain⟨vo,vc,hv⟩:=hv2.1.1.len;subst hv;clear hv2 C2 g2;go_wp2;go_ret;exact⟨_,rfl,HV2.out,HC2.out,HG2.out⟩
theorem T.Cur.new {w:World}{B:Nat}{v:Value}{l:List Int}(ty:TypeId)(own:w.ownsRow B 21 1 v l.length (l.map (Value.int .i32)))(hl:l.length<=16000)(hr:∀z∈l,M.right z=true) :
  ∃ao cap tb,v=.slice ao l.length cap/\T.Cur (w.alloc (.cells #[v,.int .i64 0] ty)) w.heap.size tb cap ao l 0:=by
 have hc:=fun g hg=>World.ownsRow.cells own (g:=g) hg
 rcases own.2 with ⟨rfl,h0⟩|⟨g,cap,cur,rfl,hBg,hgg,hcap,_⟩
 ·have hnil:l= []:=by simpa using h0
  subst hnil;exact⟨none,0,w.heap.size+1,rfl,⟨ty,heap_alloc_new w _⟩,fun h=>absurd rfl h,fun j z hj=>by simp at hj,by omega,Nat.zero_le _,hl,Nat.zero_le _,hr⟩
 ·have hlt:=(qA.1 hgg).1;refine⟨_,cap,g,rfl,⟨ty,heap_alloc_new w _⟩,fun _=>rfl,fun j z hj=> ?_,by omega,Nat.zero_le _,hl,hcap,hr⟩;have:=hc g rfl j (.int .i32 z) (by simp[hj]);rw[L.addr_add,Nat.zero_add] at this;rw[World.cell?_of_block (a:=⟨g,j,none⟩) (Below.heap_alloc w _ g hlt)];exact this
