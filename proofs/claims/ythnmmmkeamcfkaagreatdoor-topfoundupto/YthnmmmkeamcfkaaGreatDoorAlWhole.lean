import Derived.Test.YthnmmmkeamcfkaaGreatDoorYIdx
set_option maxHeartbeats 0
set_option maxRecDepth 20000
set_option linter.unusedSimpArgs false
set_option linter.unusedVariables false
namespace Go.Proofs.YthnmmmkeamcfkaaGreatDoor
open Go.Proofs.Tryz
section
open Go.RowKit Go.Shelf
theorem zom (w:World)(v:Value)(r:K.Rule)(R:K.RuIs w v r) :
  Calls prog 153 #[v] w fun e w'=>e= .returned (.bool (!K.goesB r))/\Below w.heap.size w w':=by
 obtain⟨bo,bc,so,sc,ao,ac,tgo,tc,rfl,_,_,_,_,h5,hI⟩:=R;have hI1:=hI.1;have hI2:=hI.2;unfold K.goesB;obtain⟨st,fi,be,sou,af,ta,cu⟩:=r;simp only at h5 hI1 hI2 ⊢;clear hI
 by_cases hc:cu=ta.length
 ·go_enter func153,ntmps153
  go_wp2;go_ret
  exact⟨by simp[hc],(qR w).alloc qN _⟩
 ·go_enter func153,ntmps153
  go_wp2;go_ret
  exact⟨by simp[hc],(qR w).alloc qN _⟩
theorem zny (w:World)(v:Value)(l:List K.Rule)(R0:V.Rus w v l) :
  Calls prog 105 #[v] w fun e w'=>e= .returned (.bool (K.sureB l))/\Below w.heap.size w w':=by
 have h:=zo0 w v l R0 153 #[] (fun r=> !K.goesB r) (enters_of func153 (by kernel_rfl) rfl) (fun W r u hW _ hu=>by simpa using zom W u r hu);have e:K.sureB l= !(l.any fun r=> !K.goesB r):=by unfold K.sureB;rw[List.not_any_eq_all_not];simp
 rw[e];generalize (l.any fun r=> !K.goesB r)=z at *;obtain⟨aa,ca,rfl⟩:=R0.len;clear R0 e
 go_enter func105,ntmps105
 go_wp2_with fail
 refine h.mono ?_;rintro e w1 ⟨rfl,b1⟩;have HB1:=qH b1;clear b1 h;cases z with
 | false=>go_wp2;go_ret;exact⟨rfl,HB1.out⟩
 | true=>go_wp2;go_ret;exact⟨rfl,HB1.out⟩
end
section
open Go.RowKit Go.Shelf
def Al.cs (x:Al.Lk):Array Value:=#[.int .i64 x.fr,.int .i64 x.up,.int .i64 x.beg,.int .i64 x.fin,.int .i64 x.rule]
theorem Al.five {w W:World}{B a:Nat}(hb:Below B w W)(ha:B<=a)(v0 v1 v2 v3 v4:Value) :
  Below B w (((((W.setCell ⟨a,0,none⟩ v0).setCell ⟨a,1,none⟩ v1).setCell ⟨a,2,none⟩ v2).setCell ⟨a,3,none⟩ v3).setCell ⟨a,4,none⟩ v4) :=
 ((((hb.setCell (p:=⟨a,0,none⟩) ha _).setCell (p:=⟨a,1,none⟩) ha _).setCell (p:=⟨a,2,none⟩) ha _).setCell (p:=⟨a,3,none⟩) ha _).setCell (p:=⟨a,4,none⟩) ha _
theorem zkx (w:World)(v:Value)(a k fr:Int)(hk:k= -1)(hf0:0<=fr)(hf:fr<=1000000)(ha0:0<=a)(ha:a<=100000) :
  Calls prog 106 #[v,.agg #[.int .i64 a,.int .i64 k],.int .i64 fr] w fun e w'=>e= .returned (.agg #[.int .i64 fr,.int .i64 (fr+1),.int .i64 a,.int .i64 (a+1),.int .i64 k])/\Below w.heap.size w w':=by
 subst hk;have HB:Hid (∀o1 o2,Below w.heap.size w ((w.alloc o1).alloc o2)):=fun o1 o2=>((qR w).alloc qN _).alloc (by simp) _
 go_enter func106,ntmps106
 go_wp2;refine bodyPost_ret (v:= .agg #[.int .i64 fr,.int .i64 (fr+1),.int .i64 a,.int .i64 (a+1),.int .i64 (-1)]) (by simp[results,results106,go_sem, *]) rfl ?_
 exact⟨rfl,HB.out _ _⟩
theorem zkw (w:World)(v:Value)(l:List K.Rule)(R0:V.Rus w v l)(hl:l.length<=200)(j:Nat)(r:K.Rule)(hr:l[j]?=some r)(hE:K.ruleE r=0)(a k fr:Int)(hk:k=j)(hf0:0<=fr)(hf:fr<=1000000)(ha0:0<=a)(ha:a<=100000) :
  Calls prog 106 #[v,.agg #[.int .i64 a,.int .i64 k],.int .i64 fr] w fun e w'=>e= .returned (.agg #[.int .i64 fr,.int .i64 (fr+(r.source.length:Int)),.int .i64 a,.int .i64 (a+(r.target.length:Int)),.int .i64 k])/\Below w.heap.size w w':=by
 subst hk;obtain⟨ao,cap,rfl⟩:=R0.len;have hjl:=(qL.1 hr).1;obtain⟨ba,oa,bo,bc,so,sc,ao2,ac,tt,tc,rfl,a0,a1,a2,a3,a4,a5,a6,hP⟩:=K.Rus.rule R0 hr;have hb:=L.block_lt a0;have hls:=(K.zao hE).2.1.1;have hlt:=(K.zao hE).2.2.2.2.1;have HB:Hid (∀o1 o2,Below w.heap.size w ((w.alloc o1).alloc o2)):=fun o1 o2=>((qR w).alloc qN _).alloc (by simp) _
 clear R0 hr hE hP;obtain⟨st,fi,be,sou,af,ta,cu⟩:=r;simp only at a0 a1 a2 a3 a4 a5 a6 hls hlt ⊢
 go_enter func106,ntmps106
 go_wp2
 go_big_quiet (fail)
 go_wp2;refine bodyPost_ret (v:= .agg #[.int .i64 fr,.int .i64 (fr+(sou.length:Int)),.int .i64 a,.int .i64 (a+(ta.length:Int)),.int .i64 j]) (by simp[results,results106,go_sem, *]) rfl ?_
 exact⟨rfl,Al.five (below_drewN (HB.out _ _) _) (by omega) _ _ _ _ _⟩
end
section
open Go.RowKit Go.Shelf
namespace Al
theorem zh7:∀ {sh:List (Int×Int)} {k:Nat} {x:Int×Int},sh[k]?=some x->(scells sh)[k*2]?=some (.int .i64 x.1)/\(scells sh)[k*2+1]?=some (.int .i64 x.2):=by
 intro sh
 induction sh with
 | nil=>intro k x h;simp at h
 | cons y sh ih =>
  intro k x h;cases k with
  | zero=>simp at h;subst h;exact⟨rfl,rfl⟩
  | succ k =>
   have h1:=ih (k:=k) (x:=x) (by simpa using h);have e:scells (y::sh)= .int .i64 y.1:: .int .i64 y.2::scells sh:=rfl;rw[e,show (k+1)*2=k*2+1+1 by omega];exact h1
theorem zd1:∀ {sh:List Lk} {k:Nat} {x:Lk},sh[k]?=some x->(lcells sh)[k*5]?=some (.int .i64 x.fr)/\(lcells sh)[k*5+1]?=some (.int .i64 x.up)/\(lcells sh)[k*5+2]?=some (.int .i64 x.beg)/\(lcells sh)[k*5+3]?=some (.int .i64 x.fin)/\(lcells sh)[k*5+4]?=some (.int .i64 x.rule):=by
 intro sh
 induction sh with
 | nil=>intro k x h;simp at h
 | cons y sh ih =>
  intro k x h;cases k with
  | zero=>simp at h;subst h;exact⟨rfl,rfl,rfl,rfl,rfl⟩
  | succ k =>
   have h1:=ih (k:=k) (x:=x) (by simpa using h);have e:lcells (y::sh)= .int .i64 y.fr:: .int .i64 y.up:: .int .i64 y.beg:: .int .i64 y.fin:: .int .i64 y.rule::lcells sh:=rfl;rw[e,show (k+1)*5=k*5+1+1+1+1+1 by omega];exact h1
def ans (l:List K.Rule) (t:List Int) (o:List J.Hd×Int×Int):List Lk×Int×Int :=
 if o.2.1≠0 then ([],o.2.1,o.2.2)
 else if (K.play l (8*t.length+40) [] t 0 0).1≠0 then ([],(K.play l (8*t.length+40) [] t 0 0).1,0)
 else if K.sureB l=true then (links l 0 (shots l (8*t.length+40) [] t),0,0) else ([],8,0)
theorem zqq {l:List K.Rule}{t:List Int}{o o':List J.Hd×Int×Int}(h:Gm.Chk l t o)(h':Gm.Chk l t o'):o=o':=by
 rcases h with ⟨h1,h2⟩|⟨h1,h2,h3⟩|⟨h1,h2,h3⟩ <;> rcases h' with ⟨g1,g2⟩|⟨g1,g2,g3⟩|⟨g1,g2,g3⟩
 ·rw[h2,g2]
 ·exact absurd g1 h1
 ·exact absurd g1 h1
 ·exact absurd h1 g1
 ·rw[h3,g3]
 ·exact absurd g2 h2
 ·exact absurd h1 g1
 ·exact absurd h2 g2
 ·exact J.zfx h3 g3
theorem zs6 {l:List K.Rule}{k:Int}(h:k= -1∨∃(j:Nat) (r:K.Rule),k=j/\l[j]?=some r)(hE:∀r∈l,K.ruleE r=0):0<=about l k/\about l k<=20:=by
 rcases h with rfl | ⟨j,r,rfl,hr⟩
 ·have e:about l (-1)=1:=rfl;rw[e];exact⟨by decide,by decide⟩
 ·have h1:=(K.zao (hE r (List.mem_of_getElem? hr))).2.1.1;unfold about ruleAt;rw[if_neg (by omega),Int.toNat_natCast,hr];simp only[Option.getD_some];omega
end Al
theorem znp (w:World)(v:Value)(l:List K.Rule)(R0:V.Rus w v l)(hl:l.length<=200)(hE:∀r∈l,K.ruleE r=0)(s:Int×Int)(hs:0<=s.1/\s.1<=4000/\(s.2= -1∨∃(j:Nat) (r:K.Rule),s.2=j/\l[j]?=some r))(fr:Int)(hf0:0<=fr)(hf:fr<=1000000) :
  Calls prog 106 #[v,.agg #[.int .i64 s.1,.int .i64 s.2],.int .i64 fr] w fun e w'=>e= .returned (.agg #[.int .i64 (Al.link l s fr).fr,.int .i64 (Al.link l s fr).up,.int .i64 (Al.link l s fr).beg,.int .i64 (Al.link l s fr).fin,.int .i64 (Al.link l s fr).rule])/\Below w.heap.size w w':=by
 obtain⟨a,k⟩:=s;obtain⟨h1,h2,h3⟩:=hs;rcases h3 with h3 | ⟨j,r,h3,hr⟩
 ·have e:Al.link l (a,k) fr=⟨fr,fr+1,a,a+1,k⟩:=by
   have h3':k= -1:=h3;subst h3';rfl
  rw[e];exact zkx w v a k fr h3 hf0 hf h1 (by have:a<=4000:=h2;omega)
 ·have e:Al.link l (a,k) fr=⟨fr,fr+(r.source.length:Int),a,a+(r.target.length:Int),k⟩:=by
   have h3':k=j:=h3;subst h3';unfold Al.link Al.about Al.came Al.ruleAt;simp only[Int.toNat_natCast,hr,Option.getD_some];rw[if_neg (by omega),if_neg (by omega)]
  rw[e];exact zkw w v l R0 hl j r hr (hE r (List.mem_of_getElem? hr)) a k fr h3 hf0 hf h1 (by have:a<=4000:=h2;omega)
theorem zkv (w:World)(v:Value)(l:List K.Rule)(R0:V.Rus w v l)(vt:Value)(t:List Int)(Rt:L.Rd w vt .i32 t)(ht:t.length<=140737488355328) :
  Calls prog 53 #[v,vt] w fun e w'=>∃(v':Value) (o:List J.Hd×Int×Int),e= .returned (.tuple #[v',.agg #[.int .i64 (Al.ans l t o).2.1,.int .i64 (Al.ans l t o).2.2]])/\Gm.Chk l t o/\w'.ownsRow w.heap.size 188 5 v' (Al.ans l t o).1.length (Al.lcells (Al.ans l t o).1)/\Below w.heap.size w w':=by
 have HA:=qH <| fun o=>(qR w).alloc qN o
 have HT:=qH <| fun o=>zl1 _ v l (R0.below (HA.out o)) vt t (Rt.below (HA.out o) qN) ht
 have HR:=qH R0;obtain⟨va,vc,rfl⟩:=R0.len;clear R0 Rt
 go_enter func53,ntmps53
 go_wp2_with fail
 refine(HT.out _).mono ?_;rintro e w1 ⟨v1,sh,f1,f2,rfl,htrc,own1,b1⟩;obtain⟨h1,B1,s1⟩:=K.zay b1;have HB1:=qH B1;obtain⟨so,sc,rfl,hcell⟩:=Al.lies own1;obtain⟨x0,x1,f0,f3⟩:=K.box2 h1;have k0:=fun o=>K.zai x0 o
 have k1:=fun o=>K.zai x1 o
 have g0:=fun o=>K.zal h1 o 0
 have g1:=fun o=>K.zal h1 o 1
 have HB2:Hid (∀o x y,Below w.heap.size w (((w1.alloc o).setCell ⟨w.heap.size,0,none⟩ x).setCell ⟨w.heap.size,1,none⟩ y)):=fun o x y=>((HB1.out.alloc HB1.out.size o).setCell (p:=⟨w.heap.size,0,none⟩) qN _).setCell (p:=⟨w.heap.size,1,none⟩) qN _
 by_cases q:f1=0
 ·subst q;obtain⟨o,hchk,hor,hsh⟩:=htrc;rw[if_pos rfl] at hsh
  obtain⟨ho0,hp0,rfl⟩:o.2.1=0/\(K.play l (8*t.length+40) [] t 0 0).1=0/\f2=0:=by
   rcases hor with ⟨h,h',_⟩|⟨h,h',h''⟩
   ·exact absurd h'.symm h
   ·exact⟨h,h',h''⟩
  obtain⟨hs,o1,o2⟩:=o;have ho1:o1=0:=ho0;subst ho1;obtain⟨ht4,_,rfl,c,hok,_⟩:=hchk.ok;have HC:=qH hchk;have hl:=hok.few;have hE:=hok.right;have hin:=Al.zrk (l:=l) (left:=8*t.length+40) (A:= []) (Z:=t) (s:=0) (p:=0) (by simpa using ht4) hp0;rw[<- hsh] at hin;have HIn:=qH hin;have hshl:sh.length<=32040:=by have:=Al.zh6 (l:=l) (left:=8*t.length+40) (A:= []) (Z:=t);rw[<- hsh] at this;omega
  have HAn:Hid (Al.ans l t (hs,0,0)=if K.sureB l=true then (Al.links l 0 sh,0,0) else ([],8,0)):=by
   show _=_;unfold Al.ans;rw[if_neg (by simp),if_neg (by simp[hp0]),<- hsh]
  have HSu:=qH <| fun o=>zny _ _ l (HR.out.below (HB1.out.alloc HB1.out.size o))
  have HE:=qH hE;have HSc:=qH hcell;have HX1:Hid (w1.heap[w.heap.size]?=some (.cells #[.int .i64 0,.int .i64 0] 38)):=h1;have hs1:=s1;clear hchk hok hE hin hsh hp0 HT own1 b1 B1 hcell h1 x0 x1 f0 f3 hor ho0;generalize K.sureB l=su at *
  go_wp2_with fail
  go_at_call 105
  refine(HSu.out _).mono ?_;rintro e w2 ⟨rfl,b2⟩;have hal:Below w1.heap.size w1 (w1.alloc (.cells #[.int .i64 0,.int .i64 0] 38)):=(qR w1).alloc qN _;have hB12:=hal.trans (b2.mono hal.size);have HB12:=qH hB12;have hs2:w1.heap.size+1<=w2.heap.size:=by have:=b2.size;simp at this;omega
  have h2:=K.zaf HX1.out hB12;obtain⟨x0,x1,f0,f3⟩:=K.box2 h2;clear b2 hal hB12 HSu k0 k1 g0 g1 HB2 HX1;cases su with
  | false =>
   have HAn2:Hid (Al.ans l t (hs,0,0)=([],8,0)):=by
    have:=HAn.out;simp at this;exact this
   have HB3:Hid (∀x y,Below w.heap.size w ((w2.setCell ⟨w.heap.size,0,none⟩ x).setCell ⟨w.heap.size,1,none⟩ y)):=fun x y=>((HB1.out.trans (HB12.out.mono HB1.out.size)).setCell (p:=⟨w.heap.size,0,none⟩) qN _).setCell (p:=⟨w.heap.size,1,none⟩) qN _
   clear HAn HSc HIn h2;go_wp2;refine bodyPost_ret (v:= .tuple #[.slice none 0 0,.agg #[.int .i64 8,.int .i64 0]]) (by simp[results,results53,go_sem, *]) rfl ?_;exact⟨_,(hs,0,0),by rw[HAn2.out],HC.out,by rw[HAn2.out];exact World.ownsRow_nil _ _ _ _,HB3.out _ _⟩
  | true =>
   have HAn2:Hid (Al.ans l t (hs,0,0)=(Al.links l 0 sh,0,0)):=by
    have:=HAn.out;simp at this;exact this
   have HX2:=qH h2;clear HAn x0 x1 f0 f3 h2;go_wp2
   go_loopw [8,9,29] (fun i8 i9 i29 wr=>∃(k:Nat) (fr:Int) (xs:List Al.Lk) (vo:Option Addr) (vc:Nat),k<=sh.length/\i29= .int .i64 k/\i9= .int .i64 fr/\0<=fr/\fr<=20*k/\i8= .slice vo xs.length vc/\Hid (xs.length=k)/\Hid (Al.links l 0 sh=xs++Al.links l fr (sh.drop k)/\wr.ownsRow w2.heap.size 188 5 (.slice vo xs.length vc) xs.length (Al.lcells xs)/\Below w2.heap.size w2 wr)) (fun _ _ i29 _=>sh.length - (RowKit.intOf i29).toNat)
   case atStart=>exact⟨0,0,[],none,0,Nat.zero_le _,rfl,rfl,by omega,by omega,rfl,rfl,by simp,World.ownsRow_nil _ _ _ _,qR _⟩
   case round =>
    obtain⟨k,fr,xs,vo,vc',hk,rfl,rfl,hf0,hf1,rfl,HXl,HI⟩:=hrel;have hxl:xs.length<=32040:=by have:=HXl.out;omega
    by_cases hlt:k<sh.length
    ·obtain⟨s,hs'⟩:∃s,sh[k]?=some s:=⟨sh[k],by simp[hlt]⟩;obtain⟨g,rfl,hg,hc⟩:=HSc.out (by omega);have hBw:=HB12.out.trans (HI.out.2.2.mono HB12.out.size);have hsz:=HI.out.2.2.size;obtain⟨c0,c1⟩:=Al.zh7 hs'
     replace c0:=hc _ _ c0
     replace c1:=hc _ _ c1
     rw[<- (L.bcell hBw).1 g _ hg] at c0 c1;have hmem:=HIn.out s (List.mem_of_getElem? hs')
     have HLk:=qH <| fun o=>by
      have hb3:=hBw.alloc hBw.size o;exact znp _ _ l ((HR.out.below HB1.out).below hb3) hl HE.out s hmem fr hf0 (by omega)
     have hdrop:sh.drop k=s::sh.drop (k+1):=by
      rw[List.drop_eq_getElem_cons hlt];congr 1;exact(qL.1 hs').2
     have hab:=Al.zs6 hmem.2.2 HE.out
     have HN:Hid (Al.links l 0 sh=(xs++ [Al.link l s fr])++Al.links l (Al.link l s fr).up (sh.drop (k+1))/\(Al.link l s fr).up=fr+Al.about l s.2):=by
      refine⟨?_,rfl⟩;rw[HI.out.1,hdrop,List.append_assoc];rfl
     have hup:0<=(Al.link l s fr).up/\(Al.link l s fr).up<=20*(k+1:Nat):=by rw[HN.out.2];omega
     clear hs' hmem hdrop hab hc hBw;obtain⟨s1',s2'⟩:=s;generalize Al.link l (s1',s2') fr=x at *;obtain⟨q1,q2,q3,q4,q5⟩:=x;simp only at c0 c1 HLk HN hup
     go_wp2_with fail
     go_at_call 106
     refine(HLk.out _).mono ?_;rintro e w3 ⟨rfl,b3⟩;have hb3:=(K.zay b3).2.1;have hs3:=hb3.size;have own3:(w3.alloc (.cells #[.int .i64 q1,.int .i64 q2,.int .i64 q3,.int .i64 q4,.int .i64 q5] 188)).ownsRow w2.heap.size 188 5 (.slice vo xs.length vc') xs.length (Al.lcells xs):=(L.zbh HI.out.2.1 hb3 qN).alloc _;obtain⟨ao1,vc1,w4,run1,own1,kp1,sz1,be1⟩:=Al.app (sl:=120) underlying120 Tryz.infoLink rfl (by decide) (by decide) own3 (by simp;omega) (by omega) [.int .i64 q1,.int .i64 q2,.int .i64 q3,.int .i64 q4,.int .i64 q5] rfl (fun u hu=>by simp at hu;rcases hu with rfl | rfl | rfl | rfl | rfl <;> rfl)
     have hx4:w4.heap[w3.heap.size]?=some (.cells #[.int .i64 q1,.int .i64 q2,.int .i64 q3,.int .i64 q4,.int .i64 q5] 188):=by
      rw[kp1 _ (by simp) (fun e=>by have:=(Al.lies HI.out.2.1);obtain⟨a,c,h1,h2⟩:=this;cases h1;have h3:=(HI.out.2.1.lt _ e).2;omega)];exact heap_alloc_new w3 _
     have y1:=K.zad (i:=1) hx4 rfl
     have HN2:Hid (Al.links l 0 sh=(xs++ [⟨q1,q2,q3,q4,q5⟩])++Al.links l q2 (sh.drop (k+1))/\w4.ownsRow w2.heap.size 188 5 (.slice ao1 (xs.length+1) vc1) (xs.length+1) (Al.lcells (xs++ [⟨q1,q2,q3,q4,q5⟩]))/\Below w2.heap.size w2 w4/\(xs++ [(⟨q1,q2,q3,q4,q5⟩:Al.Lk)]).length=xs.length+1):=by
      refine⟨HN.out.1,by rw[Al.zhl];exact own1,?_,by simp⟩;exact(HI.out.2.2.trans (hb3.mono (by omega))).trans (((qR w3).alloc (by omega) _).trans be1)
     rw[show (w3.alloc (.cells #[.int .i64 q1,.int .i64 q2,.int .i64 q3,.int .i64 q4,.int .i64 q5] 188)).heap.size=w3.heap.size+1 by simp] at run1;clear own3 own1 kp1 be1 hx4 HLk b3 hb3 c0 c1 HN
     go_wp2_with (at_builtin;refine Lib.wpList_append_run _ rfl _ _ _ _ rfl _ _ rfl rfl _ _ (run1 _) ?_;clear run1)
     go_roundw
     case rel=>exact⟨k+1,q2,xs++ [⟨q1,q2,q3,q4,q5⟩],ao1,vc1,by omega,by go_num,rfl,hup.1,hup.2,(by rw[HN2.out.2.2.2]),by show _=_;rw[HN2.out.2.2.2,HXl.out],HN2.out.1,by rw[HN2.out.2.2.2];exact HN2.out.2.1,HN2.out.2.2.1⟩
     case measure=>simp[RowKit.intOf];omega
    ·have hke:k=sh.length:=by omega
     have hz:=K.zaf HX2.out HI.out.2.2;obtain⟨x0,x1,f0,f3⟩:=K.box2 hz
     have HFi:Hid (∀x y,((wr.setCell ⟨w.heap.size,0,none⟩ x).setCell ⟨w.heap.size,1,none⟩ y).ownsRow w.heap.size 188 5 (.slice vo xs.length vc') (Al.links l 0 sh).length (Al.lcells (Al.links l 0 sh))/\Below w.heap.size w ((wr.setCell ⟨w.heap.size,0,none⟩ x).setCell ⟨w.heap.size,1,none⟩ y)):=fun x y=>by
      have e1:Al.links l 0 sh=xs:=by
       rw[HI.out.1,hke,List.drop_length];exact List.append_nil _
      rw[e1];refine⟨L.za6 (Al.held HI.out.2.1 fun q hq _=> ?_) (by omega),(((HB1.out.trans (HB12.out.mono HB1.out.size)).trans (HI.out.2.2.mono (by omega))).setCell (p:=⟨w.heap.size,0,none⟩) qN _).setCell (p:=⟨w.heap.size,1,none⟩) qN _⟩;have:=(Al.block HI.out.2.1 hq).1;rw[heap_setCell_other _ ⟨w.heap.size,1,none⟩ q y (by simp;omega),heap_setCell_other _ ⟨w.heap.size,0,none⟩ q x (by simp;omega)]
     clear hz;go_wp2;refine bodyPost_ret (v:= .tuple #[.slice vo xs.length vc',.agg #[.int .i64 0,.int .i64 0]]) (by simp[results,results53,go_sem, *]) rfl ?_;exact⟨_,(hs,0,0),by rw[HAn2.out],HC.out,by rw[HAn2.out];exact(HFi.out _ _).1,(HFi.out _ _).2⟩
 ·obtain⟨o,hchk,hor,hsh⟩:=htrc
  have HAn:Hid (Al.ans l t o=([],f1,f2)):=by
   show _=_;unfold Al.ans;rcases hor with ⟨h,h',h''⟩|⟨h,h',h''⟩
   ·rw[if_pos h,h',h'']
   ·rw[if_neg (by simp[h]),if_pos (by rw[h'];exact q),h',h'']
  have HC:=qH hchk;clear hchk hor hsh HT own1 b1 B1 hcell h1;go_wp2
  go_region
  go_wp2;refine bodyPost_ret (v:= .tuple #[.slice none 0 0,.agg #[.int .i64 f1,.int .i64 f2]]) (by simp[results,results53,go_sem, *]) rfl ?_
  exact⟨_,o,by rw[HAn.out],HC.out,by rw[HAn.out];exact World.ownsRow_nil _ _ _ _,(HB2.out _ _ _).drew⟩
end
namespace Al
def cameOf (l:List K.Rule) (t:List Int) (x:Lk):List Int:=if x.rule<0 then (t.drop x.fr.toNat).take (x.up.toNat - x.fr.toNat) else (ruleAt l x.rule).target
def Fits (l:List K.Rule) (t:List Int) (x:Lk):Prop:=0<=x.fr/\x.fr<=x.up/\x.up<=t.length/\(x.rule= -1∨∃(j:Nat) (r:K.Rule),x.rule=j/\l[j]?=some r)
theorem whole {l:List K.Rule}{t:List Int}(hS:K.sureB l=true)(hE:∀r∈l,K.ruleE r=0):∀(left:Nat) (A:List Int) (fr:Nat) (s p:Int),fr<=t.length->(K.play l left A (t.drop fr) s p).1=0 ->
  (K.play l left A (t.drop fr) s p).2.1=A++(links l fr (shots l left A (t.drop fr))).flatMap (cameOf l t)/\∀x∈links l fr (shots l left A (t.drop fr)),Fits l t x:=by
 intro left
 induction left with
 | zero =>
  intro A fr s p hf h0
  by_cases hz:(t.drop fr).length=0
  ·rw[K.zbu hz,zbn hz];exact⟨by simp[links],fun x hx=>by cases hx⟩
  ·rw[K.zcz hz] at h0;exact absurd h0 (by decide)
 | succ n ih =>
  intro A fr s p hf h0
  by_cases hz:(t.drop fr).length=0
  ·rw[K.zbu hz,zbn hz];exact⟨by simp[links],fun x hx=>by cases hx⟩
  ·have hlt:fr<t.length:=by rw[List.length_drop] at hz;omega
   rcases K.zbr (l:=l) (t:=A++t.drop fr) (k:=A.length) with hk | ⟨j,r,hr,hm,hk⟩
   ·obtain⟨g1,g2⟩:=zum (fr:=(fr:Int)) hz hk h0;have e:(t.drop fr).drop 1=t.drop (fr+1):=by rw[List.drop_drop]
    rw[e] at g1 g2;obtain⟨i1,i2⟩:=ih (A++(t.drop fr).take 1) (fr+1) (s+1) p (by omega) g1;rw[K.zc7 hz hk,e,g2];have ef:((fr:Int)+1)=((fr+1:Nat):Int):=by omega
    rw[ef];refine⟨?_,fun x hx=> ?_⟩
    ·rw[i1,List.flatMap_cons,List.append_assoc];congr 1
     have:cameOf l t ⟨fr,((fr+1:Nat):Int),A.length,(A.length:Int)+1,-1⟩=(t.drop fr).take 1:=by
      unfold cameOf;rw[if_pos (show ((-1:Int))<0 by decide)];simp
     rw[this]
    ·rcases List.mem_cons.1 hx with rfl | hx
     ·exact⟨by show (0:Int)<=fr;omega,by show (fr:Int)<=((fr+1:Nat):Int);omega,by show ((fr+1:Nat):Int)<=t.length;omega,.inl rfl⟩
     ·exact i2 x hx
   ·have hfit:=K.fits (hE r (List.mem_of_getElem? hr)) hm;rw[List.length_drop] at hfit;obtain⟨g1,_,g2⟩:=zp9 (fr:=(fr:Int)) hz hk hr hS h0;have e:(t.drop fr).drop r.source.length=t.drop (fr+r.source.length):=by rw[List.drop_drop]
    rw[e] at g1 g2;obtain⟨i1,i2⟩:=ih (A++r.target) (fr+r.source.length) (s+1) (p+1) (by omega) g1
    have hpl:(K.play l (n+1) A (t.drop fr) s p).2.1=(K.play l n (A++r.target) (t.drop (fr+r.source.length)) (s+1) (p+1)).2.1:=by
     have hg:=List.all_eq_true.1 hS r (List.mem_of_getElem? hr);have hc:r.cursor.toNat=r.target.length:=by unfold K.goesB at hg;have:=of_decide_eq_true hg;omega
     have e1:(K.restOf r (t.drop fr)).take r.cursor.toNat=r.target:=by rw[hc];unfold K.restOf;exact List.take_left
     have e2:(K.restOf r (t.drop fr)).drop r.cursor.toNat=t.drop (fr+r.source.length):=by rw[hc];unfold K.restOf;rw[List.drop_left,e]
     by_cases hmu:4000<A.length+(K.restOf r (t.drop fr)).length
     ·rw[K.zb2 hz hk hr hmu] at h0;exact absurd h0 (by decide)
     ·rw[K.zcl hz hk hr hmu,e1,e2]
    rw[hpl,g2];have ef:((fr:Int)+(r.source.length:Int))=((fr+r.source.length:Nat):Int):=by omega
    rw[ef];refine⟨?_,fun x hx=> ?_⟩
    ·rw[i1,List.flatMap_cons,List.append_assoc];congr 1
     have:cameOf l t ⟨fr,((fr+r.source.length:Nat):Int),A.length,(A.length:Int)+(r.target.length:Int),j⟩=r.target:=by
      unfold cameOf ruleAt;rw[if_neg (by show ¬(j:Int)<0;omega)];show ((l[(j:Int).toNat]?).getD K.noRule).target=_;rw[Int.toNat_natCast,hr];rfl
     rw[this]
    ·rcases List.mem_cons.1 hx with rfl | hx
     ·exact⟨by show (0:Int)<=fr;omega,by show (fr:Int)<=((fr+r.source.length:Nat):Int);omega,by show ((fr+r.source.length:Nat):Int)<=t.length;omega,.inr ⟨j,r,rfl,hr⟩⟩
     ·exact i2 x hx
end Al
