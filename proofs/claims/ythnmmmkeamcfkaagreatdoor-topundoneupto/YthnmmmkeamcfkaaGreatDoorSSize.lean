import Derived.Test.YthnmmmkeamcfkaaGreatDoorPrMath
import Derived.Test.YthnmmmkeamcfkaaGreatDoorPrCat
set_option maxHeartbeats 0
set_option maxRecDepth 20000
set_option linter.unusedSimpArgs false
set_option linter.unusedVariables false
namespace Go.Proofs.YthnmmmkeamcfkaaGreatDoor
open Go.Proofs.Tryz
section
open Go.RowKit
theorem zet {a b:List Int}{k:Nat}{x y:Int}(h:a.take k=b.take k)(hx:a[k]?=some x)(hy:b[k]?=some y)(e:x=y):a.take (k+1)=b.take (k+1):=by
 rw[List.take_add_one,List.take_add_one,h,hx,hy,e]
theorem zp4 (w:World)(va vb:Value)(za zb:List Int)(ha:L.Rd w va .i32 za)(hb:L.Rd w vb .i32 zb)(hla:za.length<=4611686018427387903)(hlb:zb.length<=4611686018427387903) :
  Calls prog 13 #[va,vb] w fun e w'=>e= .returned (.bool (decide (za=zb)))/\Below w.heap.size w w':=by
 obtain⟨ao,ca,rfl,_,ha⟩:=ha;obtain⟨bo,cb,rfl,_,hb⟩:=hb
 by_cases hl:za.length=zb.length
 ·go_enter func13,ntmps13
  go_wp2
  go_loopw [13] (fun i wr=>∃k n:Nat,k<=za.length/\i= .int .i64 k/\za.take k=zb.take k/\wr=w.drewN n) (fun i _=>za.length - (intOf i).toNat)
  case atStart=>exact⟨0,0,Nat.zero_le _,rfl,by simp,rfl⟩
  case round =>
   obtain⟨k,n,hk,rfl,ht,rfl⟩:=hrel
   by_cases hlt:k<za.length
   ·obtain⟨b1,o1,rfl,hc1⟩:=ha (by intro h;subst h;simp at hlt);obtain⟨b2,o2,rfl,hc2⟩:=hb (by intro h;subst h;simp at hl;rw[hl] at hlt;simp at hlt);obtain⟨x,hx⟩:∃x,za[k]?=some x:=⟨za[k],by simp[hlt]⟩;obtain⟨y,hy⟩:∃y,zb[k]?=some y:=⟨zb[k]'(by omega),by simp[show k<zb.length by omega]⟩;have c1:=hc1 k x hx;have c2:=hc2 k y hy;clear hc1 hc2 ha hb;have HX:Hid (za[k]?=some x/\zb[k]?=some y/\za.take k=zb.take k):=⟨hx,hy,ht⟩;clear hx hy ht
    by_cases hxy:x=y
    ·go_wp2
     go_quiet (fail)
     go_wp2
     go_roundw
     case rel=>exact⟨k+1,_,by omega,by go_num,zet HX.out.2.2 HX.out.1 HX.out.2.1 hxy,rfl⟩
     case measure=>simp[intOf];omega
    ·go_wp2
     go_quiet (fail)
     go_wp2;go_ret
     refine⟨L.zaj ?_,below_drewN (below_drewN (qR _) _) _⟩
     have:za≠zb:=by
      intro e;rw[e] at HX;have h1:=HX.out.1;rw[HX.out.2.1] at h1;exact hxy (Option.some.inj h1).symm
     simp[this]
   ·go_wp2;go_ret
    refine⟨L.zaj ?_,below_drewN (qR _) _⟩;rw[List.take_of_length_le (by omega),List.take_of_length_le (by omega)] at ht;simp[ht]
 ·go_enter func13,ntmps13
  go_wp2;go_ret
  refine⟨L.zaj ?_,qR _⟩;have:za≠zb:=by intro e;exact hl (by rw[e])
  simp[this]
end
section
open Go.RowKit
theorem zew (w:World)(va vb:Value)(za zb:List Int)(ha:L.Rd w va .i32 za)(hb:L.Rd w vb .i32 zb)(hla:za.length<=4611686018427387903)(hlb:zb.length<=4611686018427387903) :
  Calls prog 154 #[va,vb] w fun e w'=>e= .returned (.bool (decide (za=zb)))/\∃n,w'=w.drewN n:=by
 obtain⟨ao,ca,rfl,_,ha⟩:=ha;obtain⟨bo,cb,rfl,_,hb⟩:=hb
 by_cases hl:za.length=zb.length
 ·go_enter func154,ntmps154
  go_wp2
  go_loopw [13] (fun i wr=>∃k n:Nat,k<=za.length/\i= .int .i64 k/\za.take k=zb.take k/\wr=w.drewN n) (fun i _=>za.length - (intOf i).toNat)
  case atStart=>exact⟨0,0,Nat.zero_le _,rfl,by simp,rfl⟩
  case round =>
   obtain⟨k,n,hk,rfl,ht,rfl⟩:=hrel
   by_cases hlt:k<za.length
   ·obtain⟨b1,o1,rfl,hc1⟩:=ha (by intro h;subst h;simp at hlt);obtain⟨b2,o2,rfl,hc2⟩:=hb (by intro h;subst h;simp at hl;rw[hl] at hlt;simp at hlt);obtain⟨x,hx⟩:∃x,za[k]?=some x:=⟨za[k],by simp[hlt]⟩;obtain⟨y,hy⟩:∃y,zb[k]?=some y:=⟨zb[k]'(by omega),by simp[show k<zb.length by omega]⟩;have c1:=hc1 k x hx;have c2:=hc2 k y hy;clear hc1 hc2 ha hb;have HX:Hid (za[k]?=some x/\zb[k]?=some y/\za.take k=zb.take k):=⟨hx,hy,ht⟩;clear hx hy ht
    by_cases hxy:x=y
    ·go_wp2
     go_quiet (fail)
     go_wp2
     go_roundw
     case rel=>exact⟨k+1,_,by omega,by go_num,zet HX.out.2.2 HX.out.1 HX.out.2.1 hxy,rfl⟩
     case measure=>simp[intOf];omega
    ·go_wp2
     go_quiet (fail)
     go_wp2;go_ret
     refine⟨L.zaj ?_,⟨_,World.drewN_drewN _ _ _⟩⟩
     have:za≠zb:=by
      intro e;rw[e] at HX;have h1:=HX.out.1;rw[HX.out.2.1] at h1;exact hxy (Option.some.inj h1).symm
     simp[this]
   ·go_wp2;go_ret
    refine⟨L.zaj ?_,⟨_,rfl⟩⟩;rw[List.take_of_length_le (by omega),List.take_of_length_le (by omega)] at ht;simp[ht]
 ·go_enter func154,ntmps154
  go_wp2;go_ret
  refine⟨L.zaj ?_,⟨0,rfl⟩⟩;have:za≠zb:=by intro e;exact hl (by rw[e])
  simp[this]
theorem zkh (w:World)(va vb:Value)(za zb:List Int)(ha:L.Rd w va .i32 za)(hb:L.Rd w vb .i32 zb)(hla:za.length<=4611686018427387903)(hlb:zb.length<=4611686018427387903) :
  Calls prog 154 #[va,vb] w fun e w'=>e= .returned (.bool (decide (za=zb)))/\Below w.heap.size w w' :=
 (zew w va vb za zb ha hb hla hlb).mono fun _ _ ⟨h,n,hw⟩=>⟨h,by rw[hw];exact below_drewN (qR _) _⟩
end
section
open Go.RowKit
namespace K
def Tell (w:World) (f:Nat) (cb:Array Value) (l:List (List S.Sp)):Prop :=
 ∀(k:Nat) s W,l[k]?=some s->Below w.heap.size w W->Calls prog f (#[.int .i64 k]++cb) W fun e w'=>∃so sc,e= .returned (.slice so s.length sc)/\S.Rd w' (.slice so s.length sc) s/\Below W.heap.size W w'
theorem Tell.below {w w':World}{f:Nat}{cb:Array Value}{l:List (List S.Sp)}(h:Tell w f cb l)(hb:Below w.heap.size w w'):Tell w' f cb l :=
 fun k s W hk hW=>h k s W hk (hb.trans (hW.mono hb.size))
theorem zif (w:World)(o1 o2 o3:Obj):(((w.alloc o1).alloc o2).alloc o3).heap[w.heap.size]?=some o1/\(((w.alloc o1).alloc o2).alloc o3).heap[w.heap.size+1]?=some o2/\(((w.alloc o1).alloc o2).alloc o3).heap[w.heap.size+1+1]?=some o3/\Below w.heap.size w (((w.alloc o1).alloc o2).alloc o3):=by
 have x:=zar (qR (((w.alloc o1).alloc o2).alloc o3));have hs1:(w.alloc o1).heap.size=w.heap.size+1:=by simp
 rw[hs1] at x;have h0:=(x.2.2.1.block w.heap.size (by omega)).trans (heap_alloc_new w o1);exact⟨h0,x.1,x.2.1,((qR w).alloc qN _).trans (x.2.2.1.mono (by omega))⟩
def ruBox (r:Rule) (bo so ao tgo:Option Addr) (bc sc ac tc:Nat):Obj:= .cells #[.bool r.start,.bool r.fin,.slice bo r.before.length bc,.slice so r.source.length sc,.slice ao r.after.length ac,.slice tgo r.target.length tc,.int .i64 r.cursor] 50
end K
theorem zh6 (w:World)(br bl:Nat)(bo:Option Addr)(bc:Nat)(l:List (List S.Sp))(R:K.Ss w (.slice bo l.length bc) l)(c2:w.cell? ⟨br,2,none⟩=some (.slice bo l.length bc))(cl:w.cell? ⟨bl,0,none⟩=some (.int .i64 ((l.length:Int) - 1))) :
  K.Tell w 124 #[.pointer (some ⟨br,0,none⟩),.pointer (some ⟨bl,0,none⟩)] l.reverse:=by
 intro k s W hk hW;have hkl:k<l.length:=by simpa using (qL.1 hk).1
 have hfew:=R.few;rw[List.getElem?_reverse hkl] at hk;obtain⟨b,off,so,sc,rfl,hc,hr,_⟩:=(R.below hW).at hk;rw[<- hW.cell (p:=⟨br,2,none⟩) (L.block_lt c2)] at c2;rw[<- hW.cell (p:=⟨bl,0,none⟩) (L.block_lt cl)] at cl;have hn:(l.length:Int) - 1 - k=((l.length - 1 - k:Nat):Int):=by omega
 obtain⟨m,hm⟩:∃m,l.length - 1 - k=m:=⟨_,rfl⟩;rw[hm] at hc hn;have hml:m<l.length:=by omega
 have HR:=qH hr;have h1: -9223372036854775808<=(l.length:Int) - 1 - k:=by omega
 have h2:(l.length:Int) - 1 - k<=9223372036854775807:=by omega
 clear hk R hr hm hW;show Calls prog 124 #[.int .i64 k,.pointer (some ⟨br,0,none⟩),.pointer (some ⟨bl,0,none⟩)] W _
 go_enter func124,ntmps124
 go_wp2;go_ret
 exact⟨so,sc,rfl,HR.out,qR _⟩
theorem zi7 (w:World)(br bl:Nat)(so ao:Option Addr)(sc ac:Nat)(l m:List (List S.Sp))(R:K.Ss w (.slice so l.length sc) l)(R':K.Ss w (.slice ao m.length ac) m)(c3:w.cell? ⟨br,3,none⟩=some (.slice so l.length sc))(c4:w.cell? ⟨br,4,none⟩=some (.slice ao m.length ac))(cl:w.cell? ⟨bl,0,none⟩=some (.int .i64 (l.length:Int))) :
  K.Tell w 126 #[.pointer (some ⟨bl,0,none⟩),.pointer (some ⟨br,0,none⟩)] (l++m):=by
 intro k s W hk hW;have hkl:k<l.length+m.length:=by simpa using (qL.1 hk).1
 have hfew:=R.few;have hfew':=R'.few;rw[<- hW.cell (p:=⟨br,3,none⟩) (L.block_lt c3)] at c3;rw[<- hW.cell (p:=⟨br,4,none⟩) (L.block_lt c4)] at c4;rw[<- hW.cell (p:=⟨bl,0,none⟩) (L.block_lt cl)] at cl
 by_cases hlt:k<l.length
 ·rw[List.getElem?_append_left hlt] at hk;obtain⟨b,off,so2,sc2,rfl,hc,hr,_⟩:=(R.below hW).at hk;have HR:=qH hr;clear hk R R' hr hW c4;show Calls prog 126 #[.int .i64 k,.pointer (some ⟨bl,0,none⟩),.pointer (some ⟨br,0,none⟩)] W _
  go_enter func126,ntmps126
  go_wp2;go_ret
  exact⟨so2,sc2,rfl,HR.out,qR _⟩
 ·rw[List.getElem?_append_right (by omega)] at hk;obtain⟨b,off,so2,sc2,rfl,hc,hr,_⟩:=(R'.below hW).at hk;have HR:=qH hr;have hn:(k:Int) - l.length=((k - l.length:Nat):Int):=by omega
  obtain⟨q,hq⟩:∃q,k - l.length=q:=⟨_,rfl⟩;rw[hq] at hc hn;have hql:q<m.length:=by omega
  have h1: -9223372036854775808<=(k:Int) - l.length:=by omega
  have h2:(k:Int) - l.length<=9223372036854775807:=by omega
  clear hk R R' hr hW c3 hq;show Calls prog 126 #[.int .i64 k,.pointer (some ⟨bl,0,none⟩),.pointer (some ⟨br,0,none⟩)] W _
  go_enter func126,ntmps126
  go_wp2;go_ret
  exact⟨so2,sc2,rfl,HR.out,qR _⟩
theorem zji (w:World)(v:Value)(r:K.Rule)(R:K.RuIs w v r) :
  Calls prog 76 #[v] w fun e w'=>∃f cb,e= .returned (.agg #[.int .i64 r.before.length,.bool r.start,.func (.func f) #[] cb])/\(∀args w,(callFunc f args).run prog w= .ok (.enter f args) w)/\K.Tell w' f cb r.before.reverse/\Below w.heap.size w w':=by
 have hmf:∀(fn:Fn) (first cap:Array Value) (w:World),(Instr.makeFunc fn first cap).run prog w= .ok (.func fn first cap) w:=fun _ _ _ _=>rfl
 obtain⟨bo,bc,so,sc,ao,ac,tgo,tc,rfl,h1,h2,h3,h4,h5⟩:=R;have HS:=qH h1;have hfew:=h1.few;clear h1 h2 h3 h4 h5;obtain⟨st,fi,be,sou,af,ta,cu⟩:=r;simp only at HS hfew ⊢;have e1: -9223372036854775808<=(be.length:Int) - 1:=by omega
 have e2:(be.length:Int) - 1<=9223372036854775807:=by omega
 go_enter func76,ntmps76
 go_wp2;have hx:=K.zif w (.cells #[.bool st,.bool fi,.slice bo be.length bc,.slice so sou.length sc,.slice ao af.length ac,.slice tgo ta.length tc,.int .i64 cu] 50) (.cells #[.int .i64 be.length,.bool st,.func (.func 124) #[] #[.pointer (some ⟨w.heap.size,0,none⟩),.pointer (some ⟨w.heap.size+1+1,0,none⟩)]] 148) (.cells #[.int .i64 ((be.length:Int) - 1)] 3)
 refine bodyPost_ret (v:= .agg #[.int .i64 be.length,.bool st,.func (.func 124) #[] #[.pointer (some ⟨w.heap.size,0,none⟩),.pointer (some ⟨w.heap.size+1+1,0,none⟩)]]) (by simp[results,results76,go_sem, *]) rfl ?_;exact⟨124,_,rfl,enters_of func124 (by kernel_rfl) rfl,zh6 _ _ _ bo bc be (HS.out.below hx.2.2.2) (K.zad (i:=2) hx.1 rfl) (K.zad (i:=0) hx.2.2.1 rfl),hx.2.2.2⟩
theorem zkw (w:World)(v:Value)(r:K.Rule)(R:K.RuIs w v r) :
  Calls prog 78 #[v] w fun e w'=>∃f cb,e= .returned (.agg #[.int .i64 ((r.source.length:Int)+r.after.length),.bool r.fin,.func (.func f) #[] cb])/\(∀args w,(callFunc f args).run prog w= .ok (.enter f args) w)/\K.Tell w' f cb (r.source++r.after)/\Below w.heap.size w w':=by
 have hmf:∀(fn:Fn) (first cap:Array Value) (w:World),(Instr.makeFunc fn first cap).run prog w= .ok (.func fn first cap) w:=fun _ _ _ _=>rfl
 obtain⟨bo,bc,so,sc,ao,ac,tgo,tc,rfl,h1,h2,h3,h4,h5⟩:=R;have HS:=qH h2;have HA:=qH h3;have hfew:=h2.few;have hfew':=h3.few;clear h1 h2 h3 h4 h5;obtain⟨st,fi,be,sou,af,ta,cu⟩:=r;simp only at HS HA hfew hfew' ⊢;have e1: -9223372036854775808<=(sou.length:Int)+af.length:=by omega
 have e2:(sou.length:Int)+af.length<=9223372036854775807:=by omega
 go_enter func78,ntmps78
 go_wp2;have hx:=K.zif w (.cells #[.bool st,.bool fi,.slice bo be.length bc,.slice so sou.length sc,.slice ao af.length ac,.slice tgo ta.length tc,.int .i64 cu] 50) (.cells #[.int .i64 ((sou.length:Int)+af.length),.bool fi,.func (.func 126) #[] #[.pointer (some ⟨w.heap.size+1+1,0,none⟩),.pointer (some ⟨w.heap.size,0,none⟩)]] 148) (.cells #[.int .i64 (sou.length:Int)] 3)
 refine bodyPost_ret (v:= .agg #[.int .i64 ((sou.length:Int)+af.length),.bool fi,.func (.func 126) #[] #[.pointer (some ⟨w.heap.size+1+1,0,none⟩),.pointer (some ⟨w.heap.size,0,none⟩)]]) (by simp[results,results78,go_sem, *]) rfl ?_;exact⟨126,_,rfl,enters_of func126 (by kernel_rfl) rfl,zi7 _ _ _ so ao sc ac sou af (HS.out.below hx.2.2.2) (HA.out.below hx.2.2.2) (K.zad (i:=3) hx.1 rfl) (K.zad (i:=4) hx.1 rfl) (K.zad (i:=0) hx.2.2.1 rfl),hx.2.2.2⟩
end
section
open Go.RowKit Go.Shelf
theorem zmp (w:World)(v:Value)(l:List K.Rule)(R0:V.Rus w v l) :
  Calls prog 69 #[v] w fun e w'=>e= .returned (.tuple #[.int .i64 (K.behind l),.int .i64 (K.ahead l)])/\Below w.heap.size w w':=by
 have HR:=qH R0;have hl:=R0.few;obtain⟨lao,lcap,rfl⟩:=R0.len;clear R0
 go_enter func69,ntmps69
 go_wp2
 go_loopw [2,3,8] (fun vb va i wr=>∃(j m n:Nat),j<=l.length/\i= .int .i64 j/\vb= .int .i64 m/\va= .int .i64 n/\Hid (K.behind (l.take j)=m/\K.ahead (l.take j)=n)/\Hid (Below w.heap.size w wr)) (fun _ _ i _=>l.length - (intOf i).toNat)
 case atStart=>exact⟨0,0,0,Nat.zero_le _,rfl,rfl,rfl,⟨rfl,rfl⟩,qR w⟩
 case round =>
  obtain⟨j,m,n,hj,rfl,rfl,rfl,HM,HB⟩:=hrel
  by_cases hlt:j<l.length
  ·obtain⟨p,hp⟩:∃x,l[j]?=some x:=⟨l[j],by simp[hlt]⟩;obtain⟨ao',cap',e',_,hcs⟩:=HR.out.below HB.out;cases e';obtain⟨b,off,rfl,hcell⟩:=hcs (by intro h;subst h;simp at hlt);obtain⟨bo,bc,so,sc,ao,ac,tgo,tc,a0,a1,a2,a3,a4,a5,a6,hP⟩:=hcell j p hp;have HM2:Hid (K.behind (l.take (j+1))=max m p.before.length/\K.ahead (l.take (j+1))=max n (p.source.length+p.after.length)):=⟨by rw[K.zlg hp,HM.out.1],by rw[K.zop hp,HM.out.2]⟩;have hsz:=HB.out.size;obtain⟨X,hX⟩:∃X,X=wr.alloc (.cells #[.bool p.start,.bool p.fin,.slice bo p.before.length bc,.slice so p.source.length sc,.slice ao p.after.length ac,.slice tgo p.target.length tc,.int .i64 p.cursor] 50):=⟨_,rfl⟩;have hx:=K.zau (w:=wr) (qR (wr.alloc (.cells #[.bool p.start,.bool p.fin,.slice bo p.before.length bc,.slice so p.source.length sc,.slice ao p.after.length ac,.slice tgo p.target.length tc,.int .i64 p.cursor] 50)));rw[<- hX] at hx;have HX:=qH hx;have HBk:=qH <| zji X _ p (hP.below hx.2.1);have HFw:=qH <| fun W hW=>zkw W _ p ((hP.below hx.2.1).below hW)
   clear hp hcell hcs hP hx;obtain⟨st,fi,be,sou,af,ta,cu⟩:=p;simp only at a0 a1 a2 a3 a4 a5 a6 HBk HFw HM2 hX HX
   go_wp2_with fail
   rw[<- hX];refine HBk.out.mono ?_;rintro e w1 ⟨f1,c1,rfl,_,_,z1⟩;have y:=K.zae HX.out.1 z1;have x0:=K.zad (i:=0) y rfl;have x1:=K.zad (i:=1) y rfl;have x2:=K.zad (i:=2) y rfl;have x3:=K.zad (i:=3) y rfl;have x4:=K.zad (i:=4) y rfl;have x5:=K.zad (i:=5) y rfl;have x6:=K.zad (i:=6) y rfl;have HF2:=HFw.out w1 z1;have HB1:=qH <| HB.out.trans ((HX.out.2.1.trans (z1.mono (by have:=HX.out.2.2;omega))).mono hsz);clear y z1 HBk HFw hX a0 a1 a2 a3 a4 a5 a6;have hfl1:(Instr.field 148 (.agg #[.int .i64 be.length,.bool st,.func (.func f1) #[] c1]) 0).run prog w1= .ok (.int .i64 be.length) w1:=by kernel_rfl
   go_wp2_with fail
   refine HF2.mono ?_;rintro e w2 ⟨f2,c2,rfl,_,_,z2⟩;have HB2:=qH <| HB1.out.trans (z2.mono HB1.out.size);clear z2 HF2 x0 x1 x2 x3 x4 x5 x6 hfl1;have hfl2:(Instr.field 148 (.agg #[.int .i64 ((sou.length:Int)+af.length),.bool fi,.func (.func f2) #[] c2]) 0).run prog w2= .ok (.int .i64 ((sou.length:Int)+af.length)) w2:=by kernel_rfl
   go_wp2
   go_roundw
   case rel=>exact⟨j+1,max m be.length,max n (sou.length+af.length),by omega,by go_num,by congr 1;omega,by congr 1;omega,HM2,HB2⟩
   case measure=>simp[intOf];omega
  ·have hkl:j=l.length:=by omega
   subst hkl;go_wp2
   go_ret2
   have h:=HM.out;rw[List.take_length] at h;rw[h.1,h.2];exact⟨rfl,HB.out⟩
end
section
open Go.RowKit Go.Shelf
theorem zpp (w:World)(v:Value)(r:K.Rule)(R:K.RuIs w v r) :
  Calls prog 153 #[v] w fun e w'=>e= .returned (.bool (!K.goesB r))/\Below w.heap.size w w':=by
 obtain⟨bo,bc,so,sc,ao,ac,tgo,tc,rfl,_,_,_,_,h5,hI⟩:=R;have hI1:=hI.1;have hI2:=hI.2;unfold K.goesB;obtain⟨st,fi,be,sou,af,ta,cu⟩:=r;simp only at h5 hI1 hI2 ⊢;clear hI
 by_cases hc:cu=ta.length
 ·go_enter func153,ntmps153
  go_wp2;go_ret
  exact⟨by simp[hc],(qR w).alloc qN _⟩
 ·go_enter func153,ntmps153
  go_wp2;go_ret
  exact⟨by simp[hc],(qR w).alloc qN _⟩
theorem zoy (w:World)(v:Value)(l:List K.Rule)(R0:V.Rus w v l) :
  Calls prog 105 #[v] w fun e w'=>e= .returned (.bool (K.sureB l))/\Below w.heap.size w w':=by
 have h:=zfm w v l R0 153 #[] (fun r=> !K.goesB r) (enters_of func153 (by kernel_rfl) rfl) (fun W r u hW _ hu=>by simpa using zpp W u r hu);have e:K.sureB l= !(l.any fun r=> !K.goesB r):=by unfold K.sureB;rw[List.not_any_eq_all_not];simp
 rw[e];generalize (l.any fun r=> !K.goesB r)=z at *;obtain⟨aa,ca,rfl⟩:=R0.len;clear R0 e
 go_enter func105,ntmps105
 go_wp2_with fail
 refine h.mono ?_;rintro e w1 ⟨rfl,b1⟩;have HB1:=qH b1;clear b1 h;cases z with
 | false=>go_wp2;go_ret;exact⟨rfl,HB1.out⟩
 | true=>go_wp2;go_ret;exact⟨rfl,HB1.out⟩
end
section
open Go.RowKit Go.Shelf
theorem znk (w:World)(v:Value)(r:K.Rule)(R:K.RuIs w v r) :
  Calls prog 130 #[v] w fun e w'=>e= .returned (.bool (Pr.aroundB r))/\Below w.heap.size w w':=by
 obtain⟨bo,bc,so,sc,ao,ac,tgo,tc,rfl,h1,h2,h3,h4,h5,h6⟩:=R;have HA:=qH <| fun o=>(qR w).alloc qN o
 have f1:=h1.few;have f3:=h3.few;unfold Pr.aroundB;obtain⟨st,fi,be,sou,af,ta,cu⟩:=r;simp only at f1 f3 ⊢;clear h1 h2 h3 h4 h5 h6;cases st with
 | true =>
  go_enter func130,ntmps130
  go_wp2;go_ret
  exact⟨by simp,HA.out _⟩
 | false =>
  cases fi with
  | true =>
   go_enter func130,ntmps130
   go_wp2;go_ret
   exact⟨by simp,HA.out _⟩
  | false =>
   by_cases q1:0<be.length
   ·go_enter func130,ntmps130
    go_wp2;go_ret
    exact⟨by simp[q1],HA.out _⟩
   ·by_cases q2:0<af.length
    ·go_enter func130,ntmps130
     go_wp2;go_ret
     exact⟨by simp[q2],HA.out _⟩
    ·go_enter func130,ntmps130
     go_wp2;go_ret
     exact⟨by simp[q1,q2],HA.out _⟩
theorem zio (w:World)(v:Value)(l:List K.Rule)(R0:V.Rus w v l) :
  Calls prog 82 #[v] w fun e w'=>e= .returned (.bool (Pr.plainB l))/\Below w.heap.size w w':=by
 have HS:=qH <| zoy w v l R0
 have HC:Hid (∀X,Below w.heap.size w X->Calls prog 34 #[v,.func (.func 130) #[] #[]] X fun e w'=>e= .returned (.bool (l.any Pr.aroundB))/\Below X.heap.size X w'):=fun X hX =>
  zfm X v l (R0.below hX) 130 #[] Pr.aroundB (enters_of func130 (by kernel_rfl) rfl) (fun W r u _ _ hu=>by simpa using znk W u r hu)
 unfold Pr.plainB;generalize K.sureB l=y at *;generalize l.any Pr.aroundB=z at *;obtain⟨aa,ca,rfl⟩:=R0.len;clear R0
 go_enter func82,ntmps82
 go_wp2_with fail
 refine HS.out.mono ?_;rintro e w1 ⟨rfl,b1⟩;have HB1:=qH b1;clear b1 HS;cases y with
 | false=>go_wp2;go_ret;exact⟨rfl,HB1.out⟩
 | true =>
  go_wp2_with fail
  refine(HC.out _ HB1.out).mono ?_;rintro e w2 ⟨rfl,b2⟩;have HB2:=qH <| HB1.out.trans (b2.mono HB1.out.size);clear b2 HC;cases z with
  | false=>go_wp2;go_ret;exact⟨rfl,HB2.out⟩
  | true=>go_wp2;go_ret;exact⟨rfl,HB2.out⟩
theorem zqv (w:World)(bs:Nat)(v:Value)(s:List S.Sp)(R:S.Rd w v s)(N:S.Nf 0 s)(hl:s.length<=200)(hc:w.cell? ⟨bs,0,none⟩=some v)(r:Int) :
  Calls prog 132 (#[.int .i32 r]++#[.pointer (some ⟨bs,0,none⟩)]) w fun e w'=>e= .returned (.bool (S.memb s r))/\Below w.heap.size w w':=by
 have h:=zde w v s r R N hl;obtain⟨aa,ca,rfl⟩:=R.len;generalize S.memb s r=z at h;clear R N;show Calls prog 132 #[.int .i32 r,.pointer (some ⟨bs,0,none⟩)] w _
 go_enter func132,ntmps132
 go_wp2_with fail
 refine h.mono ?_;rintro e w1 ⟨rfl,b1⟩;have HB1:=qH b1;clear b1 h;go_wp2;go_ret;exact⟨rfl,HB1.out⟩
theorem zth (w:World)(bd:Nat)(vd:Value)(dom:List Int)(Rd:L.Rd w vd .i32 dom)(hd:dom.length<=8000)(hc:w.cell? ⟨bd,0,none⟩=some vd)(v:Value)(s:List S.Sp)(R:K.SetIs w v s)(N:S.Nf 0 s)(hl:s.length<=200) :
  Calls prog 131 (#[v]++#[.pointer (some ⟨bd,0,none⟩)]) w fun e w'=>e= .returned (.bool (Pr.neverB dom s))/\Below w.heap.size w w':=by
 have hmf:∀(fn:Fn) (first cap:Array Value) (w:World),(Instr.makeFunc fn first cap).run prog w= .ok (.func fn first cap) w:=fun _ _ _ _=>rfl
 obtain⟨⟨so,sc,rfl⟩,R,_⟩:=R;have HA:=qH <| fun o=>(qR w).alloc qN o
 have hb:=K.zau (w:=w) (qR (w.alloc (.cells #[.slice so s.length sc] 24)))
 have HC:Hid (Calls prog 119 #[vd,.func (.func 132) #[] #[.pointer (some ⟨w.heap.size,0,none⟩)]] (w.alloc (.cells #[.slice so s.length sc] 24)) fun e w'=>e= .returned (.bool (dom.any fun r=>S.memb s r))/\Below (w.alloc (.cells #[.slice so s.length sc] 24)).heap.size (w.alloc (.cells #[.slice so s.length sc] 24)) w') :=
  zp6 _ vd dom (Rd.below (HA.out _) qN) (by omega) 132 _ (fun r=>S.memb s r) (enters_of func132 (by kernel_rfl) rfl)
   (fun W x hW _=>zqv W w.heap.size _ s ((R.below (HA.out _) qN).below hW qN) N hl (K.zad (i:=0) (K.zae hb.1 hW) rfl) x)
 have hca:=fun o=>K.zai hc o
 unfold Pr.neverB;generalize (dom.any fun r=>S.memb s r)=z at *;obtain⟨xo,xc,rfl,_⟩:=Rd;clear R N hb hc;show Calls prog 131 #[_,.pointer (some ⟨bd,0,none⟩)] w _
 go_enter func131,ntmps131
 go_wp2_with fail
 refine HC.out.mono ?_;rintro e w1 ⟨rfl,b1⟩;have HB1:=qH <| (K.zau b1).2.1;clear b1 HC hca;cases z with
 | false=>go_wp2;go_ret;exact⟨rfl,HB1.out⟩
 | true=>go_wp2;go_ret;exact⟨rfl,HB1.out⟩
theorem ztg (w:World)(bf bd:Nat)(vd:Value)(dom:List Int)(Rd:L.Rd w vd .i32 dom)(hd:dom.length<=8000)(hc:w.cell? ⟨bd,0,none⟩=some vd)(hf:w.cell? ⟨bf,0,none⟩=some (.func (.func 131) #[] #[.pointer (some ⟨bd,0,none⟩)]))(v:Value)(r:K.Rule)(R:K.RuIs w v r)(hE:K.ruleE r=0) :
  Calls prog 133 (#[v]++#[.pointer (some ⟨bf,0,none⟩)]) w fun e w'=>e= .returned (.bool (Pr.broadB dom r))/\Below w.heap.size w w':=by
 obtain⟨bo,bc,so,sc,ao,ac,tgo,tc,rfl,h1,h2,h3,h4,h5,h6⟩:=R;have HA:=qH <| fun o=>(qR w).alloc qN o
 have hG:=(K.zal hE).2.1
 have HC:Hid (∀o,Calls prog 134 #[.slice so r.source.length sc,.func (.func 131) #[] #[.pointer (some ⟨bd,0,none⟩)]] (w.alloc o) fun e w'=>e= .returned (.bool (r.source.any (Pr.neverB dom)))/\Below (w.alloc o).heap.size (w.alloc o) w'):=fun o =>
  zpt (w.alloc o) _ r.source (h2.below (HA.out o)) 131 _ (Pr.neverB dom) (enters_of func131 (by kernel_rfl) rfl)
   (fun W s u hW hs hu=>zth W bd vd dom ((Rd.below (HA.out o) qN).below hW qN) hd (by rw[hW.cell (p:=⟨bd,0,none⟩) (L.block_lt (K.zai hc o)),K.zai hc o]) u s hu (hG.2 s hs).1 (hG.2 s hs).2)
 have hfa:=fun o=>K.zai hf o
 have f2:=hG.1;unfold Pr.broadB;generalize r.source.any (Pr.neverB dom)=z at *;obtain⟨st,fi,be,sou,af,ta,cu⟩:=r;simp only at HC f2 ⊢;clear h1 h2 h3 h4 h5 h6 hG hE Rd hc;show Calls prog 133 #[_,.pointer (some ⟨bf,0,none⟩)] w _
 by_cases q1:1<sou.length
 ·go_enter func133,ntmps133
  go_wp2_with fail
  refine(HC.out _).mono ?_;rintro e w1 ⟨rfl,b1⟩;have HB1:=qH <| (K.zau b1).2.1;clear b1 HC hfa hf;cases z with
  | false=>go_wp2;go_ret;exact⟨by simp[q1],HB1.out⟩
  | true=>go_wp2;go_ret;exact⟨by simp[q1],HB1.out⟩
 ·go_enter func133,ntmps133
  go_wp2;go_ret
  exact⟨by simp[q1],HA.out _⟩
theorem zir (w:World)(v:Value)(l:List K.Rule)(R0:V.Rus w v l)(hE:∀r∈l,K.ruleE r=0)(vd:Value)(dom:List Int)(Rd:L.Rd w vd .i32 dom)(hd:dom.length<=8000) :
  Calls prog 83 #[v,vd] w fun e w'=>e= .returned (.bool (Pr.oneByOneB l dom))/\Below w.heap.size w w':=by
 have hmf:∀(fn:Fn) (first cap:Array Value) (w:World),(Instr.makeFunc fn first cap).run prog w= .ok (.func fn first cap) w:=fun _ _ _ _=>rfl
 obtain⟨X,hX⟩:∃X,X=(w.alloc (.cells #[vd] 33)).alloc (.cells #[.func (.func 131) #[] #[.pointer (some ⟨w.heap.size,0,none⟩)]] 214):=⟨_,rfl⟩;have hb:=K.zar (w:=w) (qR ((w.alloc (.cells #[vd] 33)).alloc (.cells #[.func (.func 131) #[] #[.pointer (some ⟨w.heap.size,0,none⟩)]] 214)));rw[<- hX] at hb
 have HC:Hid (Calls prog 34 #[v,.func (.func 133) #[] #[.pointer (some ⟨w.heap.size+1,0,none⟩)]] X fun e w'=>e= .returned (.bool (l.any (Pr.broadB dom)))/\Below X.heap.size X w') :=
  zfm X v l (R0.below hb.2.2.1) 133 _ (Pr.broadB dom) (enters_of func133 (by kernel_rfl) rfl)
   (fun W r u hW hr hu=>ztg W (w.heap.size+1) w.heap.size vd dom ((Rd.below hb.2.2.1 qN).below hW qN) hd (K.zad (i:=0) (K.zae hb.1 hW) rfl) (K.zad (i:=0) (K.zae hb.2.1 hW) rfl) u r hu (hE r hr))
 have HB:=qH hb.2.2.1;unfold Pr.oneByOneB;generalize l.any (Pr.broadB dom)=z at *;obtain⟨aa,ca,rfl⟩:=R0.len;obtain⟨xo,xc,rfl,_⟩:=Rd;clear R0 hb hE
 go_enter func83,ntmps83
 go_wp2_with fail
 rw[<- hX];refine HC.out.mono ?_;rintro e w1 ⟨rfl,b1⟩;have HB1:=qH <| HB.out.trans (b1.mono HB.out.size);clear b1 HC hX;cases z with
 | false=>go_wp2;go_ret;exact⟨rfl,HB1.out⟩
 | true=>go_wp2;go_ret;exact⟨rfl,HB1.out⟩
end
section
open Go.RowKit
theorem Cn.app1 {w:World}{B:Nat}{vo:Value}{o:List Int}(own:w.ownsRow B 21 1 vo o.length (K.ints o))(hB:B<=w.heap.size)(hl:o.length<=50000000)(z:Int) :
  ∃ao' vc' w',(∀ty,(Builtin.append_ #[33,33] ty #[vo,.slice (some ⟨w.heap.size,0,none⟩) 1 1]).run prog (w.alloc (.cells #[.int .i32 z] 21))= .ok (.slice ao' (o.length+1) vc') w')/\w'.ownsRow B 21 1 (.slice ao' (o.length+1) vc') (o++ [z]).length (K.ints (o++ [z]))/\(∀b,b<w.heap.size->vo.ownBlock≠some b->w'.heap[b]?=w.heap[b]?)/\w.heap.size<=w'.heap.size/\Below B w w':=by
 have hal:Below w.heap.size w (w.alloc (.cells #[.int .i32 z] 21)):=(qR w).alloc qN _;have hnew:=heap_alloc_new w (.cells #[.int .i32 z] 21)
 have hrx:L.Rd (w.alloc (.cells #[.int .i32 z] 21)) (.slice (some ⟨w.heap.size,0,none⟩) 1 1) .i32 [z]:=⟨_,_,rfl,fun e=>by (cases e),fun _=>⟨_,0,rfl,fun j y hj=>by
  match j,hj with
  | 0,hj=>cases hj;exact K.zad hnew rfl
  | n+1,hj=>simp at hj⟩⟩
 obtain⟨v',w',run,own',gr,_⟩:=K.zu0 _ B vo o (own.alloc _) _ [z] hrx (by simp;omega) (by simp;omega);have hlen:(o++ [z]).length=o.length+1:=by simp
 obtain⟨ao',vc',rfl⟩:∃ao cap,v'= .slice ao (o.length+1) cap:=by
  rw[<- hlen];rcases own'.2 with ⟨hv,h0⟩|⟨g,cap,cur,hv,_⟩
  ·exact⟨none,0,by rw[hv,h0]⟩
  ·exact⟨_,cap,hv⟩
 refine⟨ao',vc',w',run,own',fun b hb hne=> ?_,?_,(hal.mono hB).grown gr (by simp;omega) fun k hk=>(own.lt k hk).1⟩
 ·rw[gr.block b (by simp;omega) (fun e=>hne e.symm)];exact hal.block b hb
 ·have:=gr.size;simp at this;omega
end
section
open Go.RowKit
theorem zsx (w:World)(x1 x2:Int)(h1:0<=x1)(h2:x1<=x2)(h3:x2<=1114111) :
  Calls prog 81 #[.agg #[.int .i32 x1,.int .i32 x2]] w fun e w'=>e= .returned (.int .i64 (x2 - x1+1))/\Below w.heap.size w w':=by
 go_enter func81,ntmps81
 go_wp2;go_ret
 exact⟨rfl,(qR w).alloc qN _⟩
