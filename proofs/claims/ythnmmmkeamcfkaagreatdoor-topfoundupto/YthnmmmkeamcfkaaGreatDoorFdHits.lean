import Derived.Test.YthnmmmkeamcfkaaGreatDoorYIdx
set_option maxHeartbeats 0
set_option maxRecDepth 20000
set_option linter.unusedSimpArgs false
set_option linter.unusedVariables false
namespace Go.Proofs.YthnmmmkeamcfkaaGreatDoor
open Go.Proofs.Tryz
section
open Go.RowKit Go.Shelf
theorem zom (w:World)(v:Value)(r:K.Rule)(R:K.RuIs w v r) :
  Calls prog 153 #[v] w fun e w'=>e= .returned (.bool (!K.goesB r))/\Below w.heap.size w w':=by
 obtain⟨bo,bc,so,sc,ao,ac,tgo,tc,rfl,_,_,_,_,h5,hI⟩:=R;have hI1:=hI.1;have hI2:=hI.2;unfold K.goesB;obtain⟨st,fi,be,sou,af,ta,cu⟩:=r;simp only at h5 hI1 hI2 ⊢;clear hI
 by_cases hc:cu=ta.length
 ·go_enter func153,ntmps153
  go_wp2;go_ret
  exact⟨by simp[hc],(qR w).alloc qN _⟩
 ·go_enter func153,ntmps153
  go_wp2;go_ret
  exact⟨by simp[hc],(qR w).alloc qN _⟩
theorem zny (w:World)(v:Value)(l:List K.Rule)(R0:V.Rus w v l) :
  Calls prog 105 #[v] w fun e w'=>e= .returned (.bool (K.sureB l))/\Below w.heap.size w w':=by
 have h:=zo0 w v l R0 153 #[] (fun r=> !K.goesB r) (enters_of func153 (by kernel_rfl) rfl) (fun W r u hW _ hu=>by simpa using zom W u r hu);have e:K.sureB l= !(l.any fun r=> !K.goesB r):=by unfold K.sureB;rw[List.not_any_eq_all_not];simp
 rw[e];generalize (l.any fun r=> !K.goesB r)=z at *;obtain⟨aa,ca,rfl⟩:=R0.len;clear R0 e
 go_enter func105,ntmps105
 go_wp2_with fail
 refine h.mono ?_;rintro e w1 ⟨rfl,b1⟩;have HB1:=qH b1;clear b1 h;cases z with
 | false=>go_wp2;go_ret;exact⟨rfl,HB1.out⟩
 | true=>go_wp2;go_ret;exact⟨rfl,HB1.out⟩
end
section
open Go.RowKit Go.Shelf
def Al.cs (x:Al.Lk):Array Value:=#[.int .i64 x.fr,.int .i64 x.up,.int .i64 x.beg,.int .i64 x.fin,.int .i64 x.rule]
theorem Al.five {w W:World}{B a:Nat}(hb:Below B w W)(ha:B<=a)(v0 v1 v2 v3 v4:Value) :
  Below B w (((((W.setCell ⟨a,0,none⟩ v0).setCell ⟨a,1,none⟩ v1).setCell ⟨a,2,none⟩ v2).setCell ⟨a,3,none⟩ v3).setCell ⟨a,4,none⟩ v4) :=
 ((((hb.setCell (p:=⟨a,0,none⟩) ha _).setCell (p:=⟨a,1,none⟩) ha _).setCell (p:=⟨a,2,none⟩) ha _).setCell (p:=⟨a,3,none⟩) ha _).setCell (p:=⟨a,4,none⟩) ha _
theorem zkx (w:World)(v:Value)(a k fr:Int)(hk:k= -1)(hf0:0<=fr)(hf:fr<=1000000)(ha0:0<=a)(ha:a<=100000) :
  Calls prog 106 #[v,.agg #[.int .i64 a,.int .i64 k],.int .i64 fr] w fun e w'=>e= .returned (.agg #[.int .i64 fr,.int .i64 (fr+1),.int .i64 a,.int .i64 (a+1),.int .i64 k])/\Below w.heap.size w w':=by
 subst hk;have HB:Hid (∀o1 o2,Below w.heap.size w ((w.alloc o1).alloc o2)):=fun o1 o2=>((qR w).alloc qN _).alloc (by simp) _
 go_enter func106,ntmps106
 go_wp2;refine bodyPost_ret (v:= .agg #[.int .i64 fr,.int .i64 (fr+1),.int .i64 a,.int .i64 (a+1),.int .i64 (-1)]) (by simp[results,results106,go_sem, *]) rfl ?_
 exact⟨rfl,HB.out _ _⟩
theorem zkw (w:World)(v:Value)(l:List K.Rule)(R0:V.Rus w v l)(hl:l.length<=200)(j:Nat)(r:K.Rule)(hr:l[j]?=some r)(hE:K.ruleE r=0)(a k fr:Int)(hk:k=j)(hf0:0<=fr)(hf:fr<=1000000)(ha0:0<=a)(ha:a<=100000) :
  Calls prog 106 #[v,.agg #[.int .i64 a,.int .i64 k],.int .i64 fr] w fun e w'=>e= .returned (.agg #[.int .i64 fr,.int .i64 (fr+(r.source.length:Int)),.int .i64 a,.int .i64 (a+(r.target.length:Int)),.int .i64 k])/\Below w.heap.size w w':=by
 subst hk;obtain⟨ao,cap,rfl⟩:=R0.len;have hjl:=(qL.1 hr).1;obtain⟨ba,oa,bo,bc,so,sc,ao2,ac,tt,tc,rfl,a0,a1,a2,a3,a4,a5,a6,hP⟩:=K.Rus.rule R0 hr;have hb:=L.block_lt a0;have hls:=(K.zao hE).2.1.1;have hlt:=(K.zao hE).2.2.2.2.1;have HB:Hid (∀o1 o2,Below w.heap.size w ((w.alloc o1).alloc o2)):=fun o1 o2=>((qR w).alloc qN _).alloc (by simp) _
 clear R0 hr hE hP;obtain⟨st,fi,be,sou,af,ta,cu⟩:=r;simp only at a0 a1 a2 a3 a4 a5 a6 hls hlt ⊢
 go_enter func106,ntmps106
 go_wp2
 go_big_quiet (fail)
 go_wp2;refine bodyPost_ret (v:= .agg #[.int .i64 fr,.int .i64 (fr+(sou.length:Int)),.int .i64 a,.int .i64 (a+(ta.length:Int)),.int .i64 j]) (by simp[results,results106,go_sem, *]) rfl ?_
 exact⟨rfl,Al.five (below_drewN (HB.out _ _) _) (by omega) _ _ _ _ _⟩
end
section
open Go.RowKit Go.Shelf
namespace Al
theorem zh7:∀ {sh:List (Int×Int)} {k:Nat} {x:Int×Int},sh[k]?=some x->(scells sh)[k*2]?=some (.int .i64 x.1)/\(scells sh)[k*2+1]?=some (.int .i64 x.2):=by
 intro sh
 induction sh with
 | nil=>intro k x h;simp at h
 | cons y sh ih =>
  intro k x h;cases k with
  | zero=>simp at h;subst h;exact⟨rfl,rfl⟩
  | succ k =>
   have h1:=ih (k:=k) (x:=x) (by simpa using h);have e:scells (y::sh)= .int .i64 y.1:: .int .i64 y.2::scells sh:=rfl;rw[e,show (k+1)*2=k*2+1+1 by omega];exact h1
theorem zd1:∀ {sh:List Lk} {k:Nat} {x:Lk},sh[k]?=some x->(lcells sh)[k*5]?=some (.int .i64 x.fr)/\(lcells sh)[k*5+1]?=some (.int .i64 x.up)/\(lcells sh)[k*5+2]?=some (.int .i64 x.beg)/\(lcells sh)[k*5+3]?=some (.int .i64 x.fin)/\(lcells sh)[k*5+4]?=some (.int .i64 x.rule):=by
 intro sh
 induction sh with
 | nil=>intro k x h;simp at h
 | cons y sh ih =>
  intro k x h;cases k with
  | zero=>simp at h;subst h;exact⟨rfl,rfl,rfl,rfl,rfl⟩
  | succ k =>
   have h1:=ih (k:=k) (x:=x) (by simpa using h);have e:lcells (y::sh)= .int .i64 y.fr:: .int .i64 y.up:: .int .i64 y.beg:: .int .i64 y.fin:: .int .i64 y.rule::lcells sh:=rfl;rw[e,show (k+1)*5=k*5+1+1+1+1+1 by omega];exact h1
def ans (l:List K.Rule) (t:List Int) (o:List J.Hd×Int×Int):List Lk×Int×Int :=
 if o.2.1≠0 then ([],o.2.1,o.2.2)
 else if (K.play l (8*t.length+40) [] t 0 0).1≠0 then ([],(K.play l (8*t.length+40) [] t 0 0).1,0)
 else if K.sureB l=true then (links l 0 (shots l (8*t.length+40) [] t),0,0) else ([],8,0)
theorem zqq {l:List K.Rule}{t:List Int}{o o':List J.Hd×Int×Int}(h:Gm.Chk l t o)(h':Gm.Chk l t o'):o=o':=by
 rcases h with ⟨h1,h2⟩|⟨h1,h2,h3⟩|⟨h1,h2,h3⟩ <;> rcases h' with ⟨g1,g2⟩|⟨g1,g2,g3⟩|⟨g1,g2,g3⟩
 ·rw[h2,g2]
 ·exact absurd g1 h1
 ·exact absurd g1 h1
 ·exact absurd h1 g1
 ·rw[h3,g3]
 ·exact absurd g2 h2
 ·exact absurd h1 g1
 ·exact absurd h2 g2
 ·exact J.zfx h3 g3
theorem zs6 {l:List K.Rule}{k:Int}(h:k= -1∨∃(j:Nat) (r:K.Rule),k=j/\l[j]?=some r)(hE:∀r∈l,K.ruleE r=0):0<=about l k/\about l k<=20:=by
 rcases h with rfl | ⟨j,r,rfl,hr⟩
 ·have e:about l (-1)=1:=rfl;rw[e];exact⟨by decide,by decide⟩
 ·have h1:=(K.zao (hE r (List.mem_of_getElem? hr))).2.1.1;unfold about ruleAt;rw[if_neg (by omega),Int.toNat_natCast,hr];simp only[Option.getD_some];omega
end Al
theorem znp (w:World)(v:Value)(l:List K.Rule)(R0:V.Rus w v l)(hl:l.length<=200)(hE:∀r∈l,K.ruleE r=0)(s:Int×Int)(hs:0<=s.1/\s.1<=4000/\(s.2= -1∨∃(j:Nat) (r:K.Rule),s.2=j/\l[j]?=some r))(fr:Int)(hf0:0<=fr)(hf:fr<=1000000) :
  Calls prog 106 #[v,.agg #[.int .i64 s.1,.int .i64 s.2],.int .i64 fr] w fun e w'=>e= .returned (.agg #[.int .i64 (Al.link l s fr).fr,.int .i64 (Al.link l s fr).up,.int .i64 (Al.link l s fr).beg,.int .i64 (Al.link l s fr).fin,.int .i64 (Al.link l s fr).rule])/\Below w.heap.size w w':=by
 obtain⟨a,k⟩:=s;obtain⟨h1,h2,h3⟩:=hs;rcases h3 with h3 | ⟨j,r,h3,hr⟩
 ·have e:Al.link l (a,k) fr=⟨fr,fr+1,a,a+1,k⟩:=by
   have h3':k= -1:=h3;subst h3';rfl
  rw[e];exact zkx w v a k fr h3 hf0 hf h1 (by have:a<=4000:=h2;omega)
 ·have e:Al.link l (a,k) fr=⟨fr,fr+(r.source.length:Int),a,a+(r.target.length:Int),k⟩:=by
   have h3':k=j:=h3;subst h3';unfold Al.link Al.about Al.came Al.ruleAt;simp only[Int.toNat_natCast,hr,Option.getD_some];rw[if_neg (by omega),if_neg (by omega)]
  rw[e];exact zkw w v l R0 hl j r hr (hE r (List.mem_of_getElem? hr)) a k fr h3 hf0 hf h1 (by have:a<=4000:=h2;omega)
theorem zkv (w:World)(v:Value)(l:List K.Rule)(R0:V.Rus w v l)(vt:Value)(t:List Int)(Rt:L.Rd w vt .i32 t)(ht:t.length<=140737488355328) :
  Calls prog 53 #[v,vt] w fun e w'=>∃(v':Value) (o:List J.Hd×Int×Int),e= .returned (.tuple #[v',.agg #[.int .i64 (Al.ans l t o).2.1,.int .i64 (Al.ans l t o).2.2]])/\Gm.Chk l t o/\w'.ownsRow w.heap.size 188 5 v' (Al.ans l t o).1.length (Al.lcells (Al.ans l t o).1)/\Below w.heap.size w w':=by
 have HA:=qH <| fun o=>(qR w).alloc qN o
 have HT:=qH <| fun o=>zl1 _ v l (R0.below (HA.out o)) vt t (Rt.below (HA.out o) qN) ht
 have HR:=qH R0;obtain⟨va,vc,rfl⟩:=R0.len;clear R0 Rt
 go_enter func53,ntmps53
 go_wp2_with fail
 refine(HT.out _).mono ?_;rintro e w1 ⟨v1,sh,f1,f2,rfl,htrc,own1,b1⟩;obtain⟨h1,B1,s1⟩:=K.zay b1;have HB1:=qH B1;obtain⟨so,sc,rfl,hcell⟩:=Al.lies own1;obtain⟨x0,x1,f0,f3⟩:=K.box2 h1;have k0:=fun o=>K.zai x0 o
 have k1:=fun o=>K.zai x1 o
 have g0:=fun o=>K.zal h1 o 0
 have g1:=fun o=>K.zal h1 o 1
 have HB2:Hid (∀o x y,Below w.heap.size w (((w1.alloc o).setCell ⟨w.heap.size,0,none⟩ x).setCell ⟨w.heap.size,1,none⟩ y)):=fun o x y=>((HB1.out.alloc HB1.out.size o).setCell (p:=⟨w.heap.size,0,none⟩) qN _).setCell (p:=⟨w.heap.size,1,none⟩) qN _
 by_cases q:f1=0
 ·subst q;obtain⟨o,hchk,hor,hsh⟩:=htrc;rw[if_pos rfl] at hsh
  obtain⟨ho0,hp0,rfl⟩:o.2.1=0/\(K.play l (8*t.length+40) [] t 0 0).1=0/\f2=0:=by
   rcases hor with ⟨h,h',_⟩|⟨h,h',h''⟩
   ·exact absurd h'.symm h
   ·exact⟨h,h',h''⟩
  obtain⟨hs,o1,o2⟩:=o;have ho1:o1=0:=ho0;subst ho1;obtain⟨ht4,_,rfl,c,hok,_⟩:=hchk.ok;have HC:=qH hchk;have hl:=hok.few;have hE:=hok.right;have hin:=Al.zrk (l:=l) (left:=8*t.length+40) (A:= []) (Z:=t) (s:=0) (p:=0) (by simpa using ht4) hp0;rw[<- hsh] at hin;have HIn:=qH hin;have hshl:sh.length<=32040:=by have:=Al.zh6 (l:=l) (left:=8*t.length+40) (A:= []) (Z:=t);rw[<- hsh] at this;omega
  have HAn:Hid (Al.ans l t (hs,0,0)=if K.sureB l=true then (Al.links l 0 sh,0,0) else ([],8,0)):=by
   show _=_;unfold Al.ans;rw[if_neg (by simp),if_neg (by simp[hp0]),<- hsh]
  have HSu:=qH <| fun o=>zny _ _ l (HR.out.below (HB1.out.alloc HB1.out.size o))
  have HE:=qH hE;have HSc:=qH hcell;have HX1:Hid (w1.heap[w.heap.size]?=some (.cells #[.int .i64 0,.int .i64 0] 38)):=h1;have hs1:=s1;clear hchk hok hE hin hsh hp0 HT own1 b1 B1 hcell h1 x0 x1 f0 f3 hor ho0;generalize K.sureB l=su at *
  go_wp2_with fail
  go_at_call 105
  refine(HSu.out _).mono ?_;rintro e w2 ⟨rfl,b2⟩;have hal:Below w1.heap.size w1 (w1.alloc (.cells #[.int .i64 0,.int .i64 0] 38)):=(qR w1).alloc qN _;have hB12:=hal.trans (b2.mono hal.size);have HB12:=qH hB12;have hs2:w1.heap.size+1<=w2.heap.size:=by have:=b2.size;simp at this;omega
  have h2:=K.zaf HX1.out hB12;obtain⟨x0,x1,f0,f3⟩:=K.box2 h2;clear b2 hal hB12 HSu k0 k1 g0 g1 HB2 HX1;cases su with
  | false =>
   have HAn2:Hid (Al.ans l t (hs,0,0)=([],8,0)):=by
    have:=HAn.out;simp at this;exact this
   have HB3:Hid (∀x y,Below w.heap.size w ((w2.setCell ⟨w.heap.size,0,none⟩ x).setCell ⟨w.heap.size,1,none⟩ y)):=fun x y=>((HB1.out.trans (HB12.out.mono HB1.out.size)).setCell (p:=⟨w.heap.size,0,none⟩) qN _).setCell (p:=⟨w.heap.size,1,none⟩) qN _
   clear HAn HSc HIn h2;go_wp2;refine bodyPost_ret (v:= .tuple #[.slice none 0 0,.agg #[.int .i64 8,.int .i64 0]]) (by simp[results,results53,go_sem, *]) rfl ?_;exact⟨_,(hs,0,0),by rw[HAn2.out],HC.out,by rw[HAn2.out];exact World.ownsRow_nil _ _ _ _,HB3.out _ _⟩
  | true =>
   have HAn2:Hid (Al.ans l t (hs,0,0)=(Al.links l 0 sh,0,0)):=by
    have:=HAn.out;simp at this;exact this
   have HX2:=qH h2;clear HAn x0 x1 f0 f3 h2;go_wp2
   go_loopw [8,9,29] (fun i8 i9 i29 wr=>∃(k:Nat) (fr:Int) (xs:List Al.Lk) (vo:Option Addr) (vc:Nat),k<=sh.length/\i29= .int .i64 k/\i9= .int .i64 fr/\0<=fr/\fr<=20*k/\i8= .slice vo xs.length vc/\Hid (xs.length=k)/\Hid (Al.links l 0 sh=xs++Al.links l fr (sh.drop k)/\wr.ownsRow w2.heap.size 188 5 (.slice vo xs.length vc) xs.length (Al.lcells xs)/\Below w2.heap.size w2 wr)) (fun _ _ i29 _=>sh.length - (RowKit.intOf i29).toNat)
   case atStart=>exact⟨0,0,[],none,0,Nat.zero_le _,rfl,rfl,by omega,by omega,rfl,rfl,by simp,World.ownsRow_nil _ _ _ _,qR _⟩
   case round =>
    obtain⟨k,fr,xs,vo,vc',hk,rfl,rfl,hf0,hf1,rfl,HXl,HI⟩:=hrel;have hxl:xs.length<=32040:=by have:=HXl.out;omega
    by_cases hlt:k<sh.length
    ·obtain⟨s,hs'⟩:∃s,sh[k]?=some s:=⟨sh[k],by simp[hlt]⟩;obtain⟨g,rfl,hg,hc⟩:=HSc.out (by omega);have hBw:=HB12.out.trans (HI.out.2.2.mono HB12.out.size);have hsz:=HI.out.2.2.size;obtain⟨c0,c1⟩:=Al.zh7 hs'
     replace c0:=hc _ _ c0
     replace c1:=hc _ _ c1
     rw[<- (L.bcell hBw).1 g _ hg] at c0 c1;have hmem:=HIn.out s (List.mem_of_getElem? hs')
     have HLk:=qH <| fun o=>by
      have hb3:=hBw.alloc hBw.size o;exact znp _ _ l ((HR.out.below HB1.out).below hb3) hl HE.out s hmem fr hf0 (by omega)
     have hdrop:sh.drop k=s::sh.drop (k+1):=by
      rw[List.drop_eq_getElem_cons hlt];congr 1;exact(qL.1 hs').2
     have hab:=Al.zs6 hmem.2.2 HE.out
     have HN:Hid (Al.links l 0 sh=(xs++ [Al.link l s fr])++Al.links l (Al.link l s fr).up (sh.drop (k+1))/\(Al.link l s fr).up=fr+Al.about l s.2):=by
      refine⟨?_,rfl⟩;rw[HI.out.1,hdrop,List.append_assoc];rfl
     have hup:0<=(Al.link l s fr).up/\(Al.link l s fr).up<=20*(k+1:Nat):=by rw[HN.out.2];omega
     clear hs' hmem hdrop hab hc hBw;obtain⟨s1',s2'⟩:=s;generalize Al.link l (s1',s2') fr=x at *;obtain⟨q1,q2,q3,q4,q5⟩:=x;simp only at c0 c1 HLk HN hup
     go_wp2_with fail
     go_at_call 106
     refine(HLk.out _).mono ?_;rintro e w3 ⟨rfl,b3⟩;have hb3:=(K.zay b3).2.1;have hs3:=hb3.size;have own3:(w3.alloc (.cells #[.int .i64 q1,.int .i64 q2,.int .i64 q3,.int .i64 q4,.int .i64 q5] 188)).ownsRow w2.heap.size 188 5 (.slice vo xs.length vc') xs.length (Al.lcells xs):=(L.zbh HI.out.2.1 hb3 qN).alloc _;obtain⟨ao1,vc1,w4,run1,own1,kp1,sz1,be1⟩:=Al.app (sl:=120) underlying120 Tryz.infoLink rfl (by decide) (by decide) own3 (by simp;omega) (by omega) [.int .i64 q1,.int .i64 q2,.int .i64 q3,.int .i64 q4,.int .i64 q5] rfl (fun u hu=>by simp at hu;rcases hu with rfl | rfl | rfl | rfl | rfl <;> rfl)
     have hx4:w4.heap[w3.heap.size]?=some (.cells #[.int .i64 q1,.int .i64 q2,.int .i64 q3,.int .i64 q4,.int .i64 q5] 188):=by
      rw[kp1 _ (by simp) (fun e=>by have:=(Al.lies HI.out.2.1);obtain⟨a,c,h1,h2⟩:=this;cases h1;have h3:=(HI.out.2.1.lt _ e).2;omega)];exact heap_alloc_new w3 _
     have y1:=K.zad (i:=1) hx4 rfl
     have HN2:Hid (Al.links l 0 sh=(xs++ [⟨q1,q2,q3,q4,q5⟩])++Al.links l q2 (sh.drop (k+1))/\w4.ownsRow w2.heap.size 188 5 (.slice ao1 (xs.length+1) vc1) (xs.length+1) (Al.lcells (xs++ [⟨q1,q2,q3,q4,q5⟩]))/\Below w2.heap.size w2 w4/\(xs++ [(⟨q1,q2,q3,q4,q5⟩:Al.Lk)]).length=xs.length+1):=by
      refine⟨HN.out.1,by rw[Al.zhl];exact own1,?_,by simp⟩;exact(HI.out.2.2.trans (hb3.mono (by omega))).trans (((qR w3).alloc (by omega) _).trans be1)
     rw[show (w3.alloc (.cells #[.int .i64 q1,.int .i64 q2,.int .i64 q3,.int .i64 q4,.int .i64 q5] 188)).heap.size=w3.heap.size+1 by simp] at run1;clear own3 own1 kp1 be1 hx4 HLk b3 hb3 c0 c1 HN
     go_wp2_with (at_builtin;refine Lib.wpList_append_run _ rfl _ _ _ _ rfl _ _ rfl rfl _ _ (run1 _) ?_;clear run1)
     go_roundw
     case rel=>exact⟨k+1,q2,xs++ [⟨q1,q2,q3,q4,q5⟩],ao1,vc1,by omega,by go_num,rfl,hup.1,hup.2,(by rw[HN2.out.2.2.2]),by show _=_;rw[HN2.out.2.2.2,HXl.out],HN2.out.1,by rw[HN2.out.2.2.2];exact HN2.out.2.1,HN2.out.2.2.1⟩
     case measure=>simp[RowKit.intOf];omega
    ·have hke:k=sh.length:=by omega
     have hz:=K.zaf HX2.out HI.out.2.2;obtain⟨x0,x1,f0,f3⟩:=K.box2 hz
     have HFi:Hid (∀x y,((wr.setCell ⟨w.heap.size,0,none⟩ x).setCell ⟨w.heap.size,1,none⟩ y).ownsRow w.heap.size 188 5 (.slice vo xs.length vc') (Al.links l 0 sh).length (Al.lcells (Al.links l 0 sh))/\Below w.heap.size w ((wr.setCell ⟨w.heap.size,0,none⟩ x).setCell ⟨w.heap.size,1,none⟩ y)):=fun x y=>by
      have e1:Al.links l 0 sh=xs:=by
       rw[HI.out.1,hke,List.drop_length];exact List.append_nil _
      rw[e1];refine⟨L.za6 (Al.held HI.out.2.1 fun q hq _=> ?_) (by omega),(((HB1.out.trans (HB12.out.mono HB1.out.size)).trans (HI.out.2.2.mono (by omega))).setCell (p:=⟨w.heap.size,0,none⟩) qN _).setCell (p:=⟨w.heap.size,1,none⟩) qN _⟩;have:=(Al.block HI.out.2.1 hq).1;rw[heap_setCell_other _ ⟨w.heap.size,1,none⟩ q y (by simp;omega),heap_setCell_other _ ⟨w.heap.size,0,none⟩ q x (by simp;omega)]
     clear hz;go_wp2;refine bodyPost_ret (v:= .tuple #[.slice vo xs.length vc',.agg #[.int .i64 0,.int .i64 0]]) (by simp[results,results53,go_sem, *]) rfl ?_;exact⟨_,(hs,0,0),by rw[HAn2.out],HC.out,by rw[HAn2.out];exact(HFi.out _ _).1,(HFi.out _ _).2⟩
 ·obtain⟨o,hchk,hor,hsh⟩:=htrc
  have HAn:Hid (Al.ans l t o=([],f1,f2)):=by
   show _=_;unfold Al.ans;rcases hor with ⟨h,h',h''⟩|⟨h,h',h''⟩
   ·rw[if_pos h,h',h'']
   ·rw[if_neg (by simp[h]),if_pos (by rw[h'];exact q),h',h'']
  have HC:=qH hchk;clear hchk hor hsh HT own1 b1 B1 hcell h1;go_wp2
  go_region
  go_wp2;refine bodyPost_ret (v:= .tuple #[.slice none 0 0,.agg #[.int .i64 f1,.int .i64 f2]]) (by simp[results,results53,go_sem, *]) rfl ?_
  exact⟨_,o,by rw[HAn.out],HC.out,by rw[HAn.out];exact World.ownsRow_nil _ _ _ _,(HB2.out _ _ _).drew⟩
end
namespace Al
def cameOf (l:List K.Rule) (t:List Int) (x:Lk):List Int:=if x.rule<0 then (t.drop x.fr.toNat).take (x.up.toNat - x.fr.toNat) else (ruleAt l x.rule).target
def Fits (l:List K.Rule) (t:List Int) (x:Lk):Prop:=0<=x.fr/\x.fr<=x.up/\x.up<=t.length/\(x.rule= -1∨∃(j:Nat) (r:K.Rule),x.rule=j/\l[j]?=some r)
theorem whole {l:List K.Rule}{t:List Int}(hS:K.sureB l=true)(hE:∀r∈l,K.ruleE r=0):∀(left:Nat) (A:List Int) (fr:Nat) (s p:Int),fr<=t.length->(K.play l left A (t.drop fr) s p).1=0 ->
  (K.play l left A (t.drop fr) s p).2.1=A++(links l fr (shots l left A (t.drop fr))).flatMap (cameOf l t)/\∀x∈links l fr (shots l left A (t.drop fr)),Fits l t x:=by
 intro left
 induction left with
 | zero =>
  intro A fr s p hf h0
  by_cases hz:(t.drop fr).length=0
  ·rw[K.zbu hz,zbn hz];exact⟨by simp[links],fun x hx=>by cases hx⟩
  ·rw[K.zcz hz] at h0;exact absurd h0 (by decide)
 | succ n ih =>
  intro A fr s p hf h0
  by_cases hz:(t.drop fr).length=0
  ·rw[K.zbu hz,zbn hz];exact⟨by simp[links],fun x hx=>by cases hx⟩
  ·have hlt:fr<t.length:=by rw[List.length_drop] at hz;omega
   rcases K.zbr (l:=l) (t:=A++t.drop fr) (k:=A.length) with hk | ⟨j,r,hr,hm,hk⟩
   ·obtain⟨g1,g2⟩:=zum (fr:=(fr:Int)) hz hk h0;have e:(t.drop fr).drop 1=t.drop (fr+1):=by rw[List.drop_drop]
    rw[e] at g1 g2;obtain⟨i1,i2⟩:=ih (A++(t.drop fr).take 1) (fr+1) (s+1) p (by omega) g1;rw[K.zc7 hz hk,e,g2];have ef:((fr:Int)+1)=((fr+1:Nat):Int):=by omega
    rw[ef];refine⟨?_,fun x hx=> ?_⟩
    ·rw[i1,List.flatMap_cons,List.append_assoc];congr 1
     have:cameOf l t ⟨fr,((fr+1:Nat):Int),A.length,(A.length:Int)+1,-1⟩=(t.drop fr).take 1:=by
      unfold cameOf;rw[if_pos (show ((-1:Int))<0 by decide)];simp
     rw[this]
    ·rcases List.mem_cons.1 hx with rfl | hx
     ·exact⟨by show (0:Int)<=fr;omega,by show (fr:Int)<=((fr+1:Nat):Int);omega,by show ((fr+1:Nat):Int)<=t.length;omega,.inl rfl⟩
     ·exact i2 x hx
   ·have hfit:=K.fits (hE r (List.mem_of_getElem? hr)) hm;rw[List.length_drop] at hfit;obtain⟨g1,_,g2⟩:=zp9 (fr:=(fr:Int)) hz hk hr hS h0;have e:(t.drop fr).drop r.source.length=t.drop (fr+r.source.length):=by rw[List.drop_drop]
    rw[e] at g1 g2;obtain⟨i1,i2⟩:=ih (A++r.target) (fr+r.source.length) (s+1) (p+1) (by omega) g1
    have hpl:(K.play l (n+1) A (t.drop fr) s p).2.1=(K.play l n (A++r.target) (t.drop (fr+r.source.length)) (s+1) (p+1)).2.1:=by
     have hg:=List.all_eq_true.1 hS r (List.mem_of_getElem? hr);have hc:r.cursor.toNat=r.target.length:=by unfold K.goesB at hg;have:=of_decide_eq_true hg;omega
     have e1:(K.restOf r (t.drop fr)).take r.cursor.toNat=r.target:=by rw[hc];unfold K.restOf;exact List.take_left
     have e2:(K.restOf r (t.drop fr)).drop r.cursor.toNat=t.drop (fr+r.source.length):=by rw[hc];unfold K.restOf;rw[List.drop_left,e]
     by_cases hmu:4000<A.length+(K.restOf r (t.drop fr)).length
     ·rw[K.zb2 hz hk hr hmu] at h0;exact absurd h0 (by decide)
     ·rw[K.zcl hz hk hr hmu,e1,e2]
    rw[hpl,g2];have ef:((fr:Int)+(r.source.length:Int))=((fr+r.source.length:Nat):Int):=by omega
    rw[ef];refine⟨?_,fun x hx=> ?_⟩
    ·rw[i1,List.flatMap_cons,List.append_assoc];congr 1
     have:cameOf l t ⟨fr,((fr+r.source.length:Nat):Int),A.length,(A.length:Int)+(r.target.length:Int),j⟩=r.target:=by
      unfold cameOf ruleAt;rw[if_neg (by show ¬(j:Int)<0;omega)];show ((l[(j:Int).toNat]?).getD K.noRule).target=_;rw[Int.toNat_natCast,hr];rfl
     rw[this]
    ·rcases List.mem_cons.1 hx with rfl | hx
     ·exact⟨by show (0:Int)<=fr;omega,by show (fr:Int)<=((fr+r.source.length:Nat):Int);omega,by show ((fr+r.source.length:Nat):Int)<=t.length;omega,.inr ⟨j,r,rfl,hr⟩⟩
     ·exact i2 x hx
end Al
section
open Go.RowKit Go.Lib
theorem Al.zb1 (xo:Option Addr)(N xc i j:Nat)(h:i<=j)(hj:j<=xc)(w':World):(Instr.slice 33 (.slice xo N xc) (some (.int .i64 (i:Int))) (some (.int .i64 (j:Int))) none).run prog w'= .ok (.slice (if xc=i then xo else Option.map (fun x=>x.add i) xo) (j - i) (xc - i)) w':=by
 have a1:(i:Int)<=j:=by omega
 have a2:(j:Int)<=xc:=by omega
 have a0:(0:Int)<=i:=by omega
 have a3:(0:Int)<=j:=by omega
 go_simp
theorem Al.zva {w:World}{xo:Option Addr}{xc:Nat}{t:List Int}(h:L.Rd w (.slice xo t.length xc) .i32 t){a b:Nat}(hab:a<=b)(hb:b<=t.length)(hxc:t.length<=xc):L.Rd w (.slice (if xc=a then xo else Option.map (fun p=>p.add a) xo) (b - a) (xc - a)) .i32 ((t.drop a).take (b - a)):=by
 have h1:=K.zhd h hb;have e:(t.take b).length=b:=by rw[List.length_take];omega
 have h2:=K.zfi (t:=t.take b) (xo:=xo) (xc:=xc) (w:=w) (by rw[e];exact h1) (d:=a) (by omega) (by omega);rw[e,List.drop_take] at h2;exact h2
theorem Al.ztg {l:List K.Rule}{t:List Int}{o:List J.Hd×Int×Int}(h:(Al.ans l t o).2.1=0):o.2.1=0/\(K.play l (8*t.length+40) [] t 0 0).1=0/\K.sureB l=true/\Al.ans l t o=(Al.links l 0 (Al.shots l (8*t.length+40) [] t),0,0):=by
 unfold Al.ans at h ⊢
 by_cases h1:o.2.1≠0
 ·rw[if_pos h1] at h;exact absurd h h1
 ·rw[if_neg h1] at h ⊢
  by_cases h2:(K.play l (8*t.length+40) [] t 0 0).1≠0
  ·rw[if_pos h2] at h;exact absurd h h2
  ·rw[if_neg h2] at h ⊢
   by_cases h3:K.sureB l=true
   ·rw[if_pos h3] at h ⊢;exact⟨by simpa using h1,by simpa using h2,h3,rfl⟩
   ·rw[if_neg h3] at h;exact absurd (show (8:Int)=0 from h) (by decide)
end
section
open Go.RowKit Go.Lib
namespace Fd
def At (w:World) (p:Option Addr) (X:List Al.Lk):Prop:=0<X.length->∃g,p=some ⟨g,0,none⟩/\g<w.heap.size/\∀j u,(Al.lcells X)[j]?=some u->w.cell? ⟨g,j,none⟩=some u
theorem At.below {w w':World}{p:Option Addr}{X:List Al.Lk}(h:At w p X)(hb:Below w.heap.size w w'):At w' p X:=fun h0=>by
 obtain⟨g,rfl,hg,hc⟩:=h h0;exact⟨g,rfl,by have:=hb.size;omega,fun j u hu=>(hb.cell (p:=⟨g,_,none⟩) hg).trans (hc j u hu)⟩
theorem zml {f:Al.Lk->List Int}{ls:List Al.Lk}{k:Nat}:((ls.take k).flatMap f).length<=(ls.flatMap f).length:=by
 conv=>rhs;rw[<- List.take_append_drop k ls,List.flatMap_append,List.length_append]
 omega
end Fd
theorem znh (w:World)(va:Option Addr)(vc:Nat)(l:List K.Rule)(R0:V.Rus w (.slice va l.length vc) l)(xo:Option Addr)(xc:Nat)(t:List Int)(D0:L.Rd w (.slice xo t.length xc) .i32 t)(hxc:t.length<=xc)(ht4:t.length<=4000)
  (p1:Option Addr) (pc1:Nat) (Lk:List Al.Lk) (hOw:Fd.At w p1 Lk) (hLl:Lk.length<=32040) (hl200:l.length<=200) (hFit:∀x∈Lk,Al.Fits l t x) (hpx:(Lk.flatMap (Al.cameOf l t)).length<=4000) :
  Calls prog 56 #[.slice va l.length vc,.slice xo t.length xc,.slice p1 Lk.length pc1] w fun e w'=>∃zo zc,e= .returned (.slice zo (Lk.flatMap (Al.cameOf l t)).length zc)/\L.Rd w' (.slice zo (Lk.flatMap (Al.cameOf l t)).length zc) .i32 (Lk.flatMap (Al.cameOf l t))/\(Lk.flatMap (Al.cameOf l t)).length<=zc/\Below w.heap.size w w':=by
 have HR3:=qH R0;have HD3:=qH D0;have HOw:=qH hOw;have HW2:=qH hFit
 have HPre:Hid (∀k,((Lk.take k).flatMap (Al.cameOf l t)).length<=4000):=fun k=>by
  have:=Fd.zml (f:=Al.cameOf l t) (ls:=Lk) (k:=k);omega
 clear R0 D0 hOw hFit hpx
 go_enter func56,ntmps56
 go_wp2
 go_loopw [7,12] (fun i7 i12 wr=>∃(k:Nat) (z:List Int) (zo:Option Addr) (zc:Nat),k<=Lk.length/\i12= .int .i64 k/\i7= .slice zo z.length zc/\z.length<=4000/\Hid (z=(Lk.take k).flatMap (Al.cameOf l t))/\Hid (wr.ownsRow w.heap.size 21 1 (.slice zo z.length zc) z.length (K.ints z)/\Below w.heap.size w wr)) (fun _ i12 _=>Lk.length - (RowKit.intOf i12).toNat)
 case atStart=>exact⟨0,[],none,0,Nat.zero_le _,rfl,rfl,by simp,by show _=_;simp,World.ownsRow_nil _ _ _ _,qR _⟩
 case round =>
  obtain⟨k,z,zo,zc,hk,rfl,rfl,hzl,HZ,HI⟩:=hrel
  by_cases hlt:k<Lk.length
  ·obtain⟨x,hx⟩:∃x,Lk[k]?=some x:=⟨Lk[k],by simp[hlt]⟩;obtain⟨g,rfl,hg,hc⟩:=HOw.out (by omega);obtain⟨a0,a1,a2,a3,a4⟩:=Al.zd1 hx;have c0:wr.cell? ⟨g,k*5,none⟩=_:=(HI.out.2.cell (p:=⟨g,_,none⟩) hg).trans (hc _ _ a0);have c1:wr.cell? ⟨g,k*5+1,none⟩=_:=(HI.out.2.cell (p:=⟨g,_,none⟩) hg).trans (hc _ _ a1);have c2:wr.cell? ⟨g,k*5+2,none⟩=_:=(HI.out.2.cell (p:=⟨g,_,none⟩) hg).trans (hc _ _ a2);have c3:wr.cell? ⟨g,k*5+3,none⟩=_:=(HI.out.2.cell (p:=⟨g,_,none⟩) hg).trans (hc _ _ a3);have c4:wr.cell? ⟨g,k*5+4,none⟩=_:=(HI.out.2.cell (p:=⟨g,_,none⟩) hg).trans (hc _ _ a4);obtain⟨e1,e2,e3,e4⟩:=HW2.out x (List.mem_of_getElem? hx)
   have hnx:(Lk.take (k+1)).flatMap (Al.cameOf l t)=z++Al.cameOf l t x:=by
    rw[List.take_add_one,hx,List.flatMap_append,<- HZ.out];simp
   have hln:=HPre.out (k+1);rw[hnx] at hln;obtain⟨q1,q2,q3,q4,q5⟩:=x;simp only at c0 c1 c2 c3 c4 e1 e2 e3 e4;obtain⟨X,hX⟩:∃X,X=wr.alloc (.cells #[.int .i64 q1,.int .i64 q2,.int .i64 q3,.int .i64 q4,.int .i64 q5] 188):=⟨_,rfl⟩;have hXb:Below wr.heap.size wr X:=by rw[hX];exact(qR wr).alloc qN _
   have ownX:X.ownsRow w.heap.size 21 1 (.slice zo z.length zc) z.length (K.ints z):=by rw[hX];exact HI.out.1.alloc _
   have hXs:w.heap.size<=X.heap.size:=by have:=HI.out.2.size;have:=hXb.size;omega
   obtain⟨ia,hia⟩:∃a:Nat,q1=a:=⟨q1.toNat,by omega⟩;obtain⟨ib,hib⟩:∃b:Nat,q2=b:=⟨q2.toNat,by omega⟩;subst hia hib;have u1:¬(ia:Int)<0:=by omega
   have u2:¬(t.length:Int)<ib:=by omega
   have u3:¬(ib:Int)<ia:=by omega
   rcases e4 with e4 | ⟨j,r,e4,hj⟩
   ·subst e4
    have hcm:Al.cameOf l t ⟨ia,ib,q3,q4,-1⟩=(t.drop ia).take (ib - ia):=by
     unfold Al.cameOf;rw[if_pos (show ((-1:Int))<0 by decide)];simp
    rw[hcm] at hnx hln;obtain⟨ap,hap⟩:∃ap,ap=(if xc=ia then xo else Option.map (fun x=>x.add ia) xo):=⟨_,rfl⟩;have hsl:∀w',(Instr.slice 33 (.slice xo t.length xc) (some (.int .i64 (ia:Int))) (some (.int .i64 (ib:Int))) none).run prog w'= .ok (.slice ap (ib - ia) (xc - ia)) w':=fun w'=>by rw[hap];exact Al.zb1 xo t.length xc ia ib (by omega) (by omega) w'
    have hrw:=Al.zva (HD3.out.below (HI.out.2.trans (hXb.mono HI.out.2.size)) qN) (a:=ia) (b:=ib) (by omega) (by omega) hxc;rw[<- hap] at hrw;have hlw:((t.drop ia).take (ib - ia)).length=ib - ia:=by rw[List.length_take,List.length_drop];omega
    obtain⟨v8,w8,run8,own8,gr8,_⟩:=K.zqu X w.heap.size _ z ownX (.slice ap (ib - ia) (xc - ia)) ((t.drop ia).take (ib - ia)) hrw (by rw[List.length_append] at hln;omega) hXs;obtain⟨zo8,zc8,rfl,_⟩:=Al.lies own8;rw[hX] at run8;have HN:Hid (z++(t.drop ia).take (ib - ia)=(Lk.take (k+1)).flatMap (Al.cameOf l t)/\w8.ownsRow w.heap.size 21 1 (.slice zo8 (z++(t.drop ia).take (ib - ia)).length zc8) (z++(t.drop ia).take (ib - ia)).length (K.ints (z++(t.drop ia).take (ib - ia)))/\Below w.heap.size w w8/\(z++(t.drop ia).take (ib - ia)).length<=4000):=⟨hnx.symm,own8,(HI.out.2.trans (hXb.mono HI.out.2.size)).grown gr8 (by omega) fun k' hk'=>(ownX.lt k' hk').1,hln⟩;generalize z++(t.drop ia).take (ib - ia)=z2 at *;clear hcm hnx hln hrw hlw hap ownX own8 gr8 hXb hx hc a0 a1 a2 a3 a4 hX
    go_wp2_with (at_builtin;refine Lib.wpList_append_run _ rfl _ _ _ _ rfl _ _ rfl rfl _ _ (run8 _) ?_;clear run8)
    go_roundw
    case rel=>exact⟨k+1,z2,zo8,zc8,by omega,by go_num,rfl,HN.out.2.2.2,HN.out.1,HN.out.2.1,HN.out.2.2.1⟩
    case measure=>simp[RowKit.intOf];omega
   ·subst e4;have hjl:=(qL.1 hj).1
    have hcm:Al.cameOf l t ⟨ia,ib,q3,q4,j⟩=r.target:=by
     unfold Al.cameOf Al.ruleAt;rw[if_neg (show ¬(j:Int)<0 by omega)];show ((l[(j:Int).toNat]?).getD K.noRule).target=_;rw[Int.toNat_natCast,hj];rfl
    rw[hcm] at hnx hln;obtain⟨ba,oa,bo,bc,so,sc,ao2,ac,tt,tc,hva,r0,r1,r2,r3,r4,r5,r6,hP⟩:=K.Rus.rule (HR3.out.below HI.out.2) hj;cases hva;have hba:=L.block_lt r0;have hnb:ba≠wr.heap.size:=by omega
    have hPt:L.Rd wr (.slice tt r.target.length tc) .i32 r.target:=by
     obtain⟨_,_,_,_,_,_,_,_,he,_,_,_,h5,_⟩:=hP;simp at he;obtain⟨_,_,_,⟨q1',q2'⟩⟩:=he;subst q1' q2';exact h5
    obtain⟨v8,w8,run8,own8,gr8,_⟩:=K.zqu X w.heap.size _ z ownX (.slice tt r.target.length tc) r.target (hPt.below hXb qN) (by rw[List.length_append] at hln;omega) hXs;obtain⟨zo8,zc8,rfl,_⟩:=Al.lies own8;rw[hX] at run8;have HN:Hid (z++r.target=(Lk.take (k+1)).flatMap (Al.cameOf l t)/\w8.ownsRow w.heap.size 21 1 (.slice zo8 (z++r.target).length zc8) (z++r.target).length (K.ints (z++r.target))/\Below w.heap.size w w8/\(z++r.target).length<=4000):=⟨hnx.symm,own8,(HI.out.2.trans (hXb.mono HI.out.2.size)).grown gr8 (by omega) fun k' hk'=>(ownX.lt k' hk').1,hln⟩;generalize z++r.target=z2 at *;have hj0:(0:Int)<=j:=by omega
    have hjl2:(j:Int)<l.length:=by omega
    have u0:¬((l.length:Nat):Int)<=j:=by omega
    have u4:¬(j:Int)<0:=by omega
    clear hcm hnx hln hPt hP ownX own8 gr8 hXb hx hc a0 a1 a2 a3 a4 hX hj
    go_wp2_with (at_builtin;refine Lib.wpList_append_run _ rfl _ _ _ _ rfl _ _ rfl rfl _ _ (run8 _) ?_;clear run8)
    go_roundw
    case rel=>exact⟨k+1,z2,zo8,zc8,by omega,by go_num,rfl,HN.out.2.2.2,HN.out.1,HN.out.2.1,HN.out.2.2.1⟩
    case measure=>simp[RowKit.intOf];omega
  ·have hke:k=Lk.length:=by omega
   have hz:=HZ.out;rw[hke,List.take_length] at hz;go_wp2;go_ret;obtain⟨ao,cap,h1,h2,_⟩:=K.zpl HI.out.1;cases h1;rw[<- hz];exact⟨zo,zc,rfl,L.Rd.za7 HI.out.1,h2,HI.out.2⟩
end
namespace Fd
open Al (Lk)
def Row (n:Int):Int->List Lk->Prop
 | b,[]=>b=n
 | b,x::xs=>x.beg=b/\b<=x.fin/\Row n x.fin xs
theorem zo1 {l:List K.Rule}(hS:K.sureB l=true):∀(left:Nat) (A Z:List Int) (fr s p:Int),(K.play l left A Z s p).1=0 ->
  Row ((K.play l left A Z s p).2.1.length:Int) A.length (Al.links l fr (Al.shots l left A Z)):=by
 intro left
 induction left with
 | zero =>
  intro A Z fr s p h0
  by_cases hz:Z.length=0
  ·rw[K.zbu hz,Al.zbn hz];rfl
  ·rw[K.zcz hz] at h0;exact absurd h0 (by decide)
 | succ n ih =>
  intro A Z fr s p h0
  by_cases hz:Z.length=0
  ·rw[K.zbu hz,Al.zbn hz];rfl
  ·rcases K.zbr (l:=l) (t:=A++Z) (k:=A.length) with hk | ⟨j,r,hr,hm,hk⟩
   ·obtain⟨g1,g2⟩:=Al.zum (fr:=fr) hz hk h0;rw[K.zc7 hz hk,g2];have i1:=ih (A++Z.take 1) (Z.drop 1) (fr+1) (s+1) p g1;have e:(((A++Z.take 1).length:Nat):Int)=(A.length:Int)+1:=by rw[List.length_append,List.length_take];omega
    rw[e] at i1;exact⟨rfl,by show (A.length:Int)<=(A.length:Int)+1;omega,i1⟩
   ·obtain⟨g1,_,g2⟩:=Al.zp9 (fr:=fr) hz hk hr hS h0;have i1:=ih (A++r.target) (Z.drop r.source.length) (fr+(r.source.length:Int)) (s+1) (p+1) g1
    have hpl:(K.play l (n+1) A Z s p).2.1=(K.play l n (A++r.target) (Z.drop r.source.length) (s+1) (p+1)).2.1:=by
     have hg:=List.all_eq_true.1 hS r (List.mem_of_getElem? hr);have hc:r.cursor.toNat=r.target.length:=by unfold K.goesB at hg;have:=of_decide_eq_true hg;omega
     have e1:(K.restOf r Z).take r.cursor.toNat=r.target:=by rw[hc];unfold K.restOf;exact List.take_left
     have e2:(K.restOf r Z).drop r.cursor.toNat=Z.drop r.source.length:=by rw[hc];unfold K.restOf;rw[List.drop_left]
     by_cases hmu:4000<A.length+(K.restOf r Z).length
     ·rw[K.zb2 hz hk hr hmu] at h0;exact absurd h0 (by decide)
     ·rw[K.zcl hz hk hr hmu,e1,e2]
    rw[hpl,g2];have e:(((A++r.target).length:Nat):Int)=(A.length:Int)+(r.target.length:Int):=by rw[List.length_append];omega
    rw[e] at i1;exact⟨rfl,by show (A.length:Int)<=(A.length:Int)+(r.target.length:Int);omega,i1⟩
theorem Row.low {n:Int}:∀ {X:List Lk} {b:Int},Row n b X->b<=n/\∀x∈X,b<=x.beg/\x.beg<=x.fin/\x.fin<=n:=by
 intro X
 induction X with
 | nil=>intro b h;have h':b=n:=h;exact⟨by omega,fun x hx=>by cases hx⟩
 | cons y X ih =>
  intro b h;obtain⟨h1,h2,h3⟩:=h;obtain⟨g1,g2⟩:=ih h3;refine⟨by omega,fun x hx=> ?_⟩;rcases List.mem_cons.1 hx with rfl | hx
  ·exact⟨by omega,by omega,g1⟩
  ·have:=g2 x hx;exact⟨by omega,by omega,by omega⟩
theorem Row.behind {n:Int}:∀ {X:List Lk} {b:Int} {k:Nat} {x:Lk},Row n b X->X[k]?=some x->Row n x.fin (X.drop (k+1)):=by
 intro X
 induction X with
 | nil=>intro b k x _ h;simp at h
 | cons y X ih =>
  intro b k x h hx;cases k with
  | zero=>simp at hx;subst hx;exact h.2.2
  | succ k=>exact ih h.2.2 (by simpa using hx)
theorem zr9 {X:List Lk}{i j:Nat}{y:Lk}(hy:X[j]?=some y)(h:i<=j):y∈X.drop i :=
 List.mem_of_getElem? (i:=j - i) (by rw[List.getElem?_drop,show i+(j - i)=j by omega];exact hy)
theorem Row.order {n b:Int}{X:List Lk}(h:Row n b X){i j:Nat}{x y:Lk}(hx:X[i]?=some x)(hy:X[j]?=some y)(hij:i<j):x.fin<=y.beg :=
 ((h.behind hx).low.2 y (zr9 hy (by omega))).1
theorem Row.at {n b:Int}{X:List Lk}(h:Row n b X){i:Nat}{x:Lk}(hx:X[i]?=some x):b<=x.beg/\x.beg<=x.fin/\x.fin<=n:=h.low.2 x (List.mem_of_getElem? hx)
theorem Row.begs {n b:Int}{X:List Lk}(h:Row n b X){i j:Nat}{x y:Lk}(hx:X[i]?=some x)(hy:X[j]?=some y)(hij:i<=j):x.beg<=y.beg/\x.fin<=y.fin:=by
 rcases Nat.lt_or_eq_of_le hij with h1 | h1
 ·have:=h.order hx hy h1;have:=h.at hx;have:=h.at hy;exact⟨by omega,by omega⟩
 ·subst h1;rw[hx] at hy;cases hy;exact⟨Int.le_refl _,Int.le_refl _⟩
theorem Row.last {n:Int}:∀ {X:List Lk} {b:Int},Row n b X->0<X.length->∃y,X[X.length - 1]?=some y/\y.fin=n:=by
 intro X
 induction X with
 | nil=>intro b _ h;simp at h
 | cons x X ih =>
  intro b h _
  by_cases hz:X.length=0
  ·have:X= []:=List.length_eq_zero_iff.1 hz;subst this;have h3:x.fin=n:=h.2.2;exact⟨x,rfl,h3⟩
  ·obtain⟨y,h1,h2⟩:=ih h.2.2 (by omega);refine⟨y,?_,h2⟩;rw[List.length_cons,show X.length+1 - 1=(X.length - 1)+1 by omega];exact h1
def hit (C p:List Int) (X:List Lk) (x:Lk):List (Int×Int) :=
 if (C.drop x.beg.toNat).take p.length=p then (X.filter fun y=>decide (y.fin=x.beg+p.length)).map fun y=>(x.fr,y.up) else []
def hitsF (C p:List Int) (X:List Lk):List (Int×Int):=X.flatMap (hit C p X)
def wrongF (p:List Int):Int:=if K.textE p=0 then (if p.length=0 then 6 else 0) else K.textE p
theorem zuo {C p:List Int}{b:Nat}(h:(C.drop b).take p.length=p)(hp:0<p.length):b+p.length<=C.length:=by
 have:=congrArg List.length h;rw[List.length_take,List.length_drop] at this;omega
theorem zne {X:List Lk}{E:Int}{a j:Nat}(h1:∀y∈X.take a,y.fin≠E)(h2:∀y∈(X.drop a).take j,y.fin=E)(h3:∀y∈X.drop (a+j),y.fin≠E):(X.filter fun y=>decide (y.fin=E))=(X.drop a).take j:=by
 have e:X=X.take a++((X.drop a).take j++X.drop (a+j)):=by
  rw[<- List.drop_drop,List.take_append_drop,List.take_append_drop]
 conv=>lhs;rw[e]
 rw[List.filter_append,List.filter_append,List.filter_eq_nil_iff.2 (fun y hy=>by simpa using h1 y hy),List.filter_eq_self.2 (fun y hy=>by simpa using h2 y hy),List.filter_eq_nil_iff.2 (fun y hy=>by simpa using h3 y hy)];simp
theorem zvg {C p:List Int}{n:Int}{X:List Lk}(h:Row n 0 X){x:Lk}(hq:(C.drop x.beg.toNat).take p.length=p){lb j:Nat}(h1:∀i y,i<lb->X[i]?=some y->y.fin<x.beg+p.length)(h2:∀y,X[lb]?=some y->x.beg+p.length<=y.fin)(h3:∀y∈(X.drop lb).take j,y.fin=x.beg+p.length)(h4:∀y,X[lb+j]?=some y->y.fin≠x.beg+p.length):hit C p X x=((X.drop lb).take j).map fun y=>(x.fr,y.up):=by
 unfold hit;rw[if_pos hq,zne (a:=lb) (j:=j) ?_ h3 ?_]
 ·intro y hy;obtain⟨i,hi⟩:=List.getElem?_of_mem hy;rw[List.getElem?_take] at hi;split at hi
  ·rename_i hlt
   have:=h1 i y hlt hi;omega
  ·cases hi
 ·intro y hy;obtain⟨i,hi⟩:=List.getElem?_of_mem hy;rw[List.getElem?_drop] at hi;have hlt:=(qL.1 hi).1;obtain⟨z,hz⟩:∃z,X[lb+j]?=some z:=⟨X[lb+j]'(by omega),by simp[show lb+j<X.length by omega]⟩;obtain⟨u,hu⟩:∃u,X[lb]?=some u:=⟨X[lb]'(by omega),by simp[show lb<X.length by omega]⟩;have g1:=h4 z hz;have g2:=h2 u hu;have g3:=h.begs hu hz (by omega);have g4:=h.begs hz hi (by omega);omega
theorem zuk {C p:List Int}{X:List Lk}{x:Lk}:(hit C p X x).length<=X.length:=by
 unfold hit;split
 ·rw[List.length_map];exact List.length_filter_le _ _
 ·exact Nat.zero_le _
theorem zsj {C p:List Int}{X:List Lk}:∀k:Nat,((X.take k).flatMap (hit C p X)).length<=k*X.length:=by
 intro k
 induction k with
 | zero=>simp
 | succ k ih =>
  cases hx:X[k]? with
  | none=>rw[List.take_add_one,hx];simp only[Option.toList_none,List.append_nil];rw[Nat.succ_mul];omega
  | some x =>
   rw[List.take_add_one,hx,List.flatMap_append,List.length_append,Nat.succ_mul];have:=zuk (C:=C) (p:=p) (X:=X) (x:=x);simp only[Option.toList_some,List.flatMap_cons,List.flatMap_nil,List.append_nil];omega
theorem zp5 {C p:List Int}{X:List Lk}{k:Nat}{x:Lk}(hx:X[k]?=some x):(X.take (k+1)).flatMap (hit C p X)=(X.take k).flatMap (hit C p X)++hit C p X x:=by
 rw[List.take_add_one,hx,List.flatMap_append];simp
def near (C p:List Int) (x y:Lk):Bool:=decide (y.fin - x.beg=(p.length:Int))&&decide ((C.drop x.beg.toNat).take (y.fin.toNat - x.beg.toNat)=p)
end Fd
section
open Go.RowKit Go.Shelf
theorem Tryz.infoHit:(prog.info? 71).map (fun i=>(i.zero,i.size,i.bytes))=some (some (.agg #[.int .i64 0,.int .i64 0]),2,16):=by kernel_rfl
namespace Fd
theorem app {w:World}{B n:Nat}{vo:Value}{xs:List Value}(own:w.ownsRow B 71 2 vo n xs)(hB:B<=w.heap.size)(hl:n<=1099511627776)(news:List Value)(hn:news.length=2)(h1:∀u∈news,u.oneCell'=true) :
  ∃ao' vc' w',(∀ty,(Builtin.append_ #[67,67] ty #[vo,.slice (some ⟨w.heap.size,0,none⟩) 1 1]).run prog (w.alloc (.cells news.toArray 71))= .ok (.slice ao' (n+1) vc') w')/\w'.ownsRow B 71 2 (.slice ao' (n+1) vc') (n+1) (xs++news)/\Below B w w'/\∀(b:Nat) (cs:Array Value),w.heap[b]?=some (Obj.cells cs 188)->w'.heap[b]?=some (Obj.cells cs 188):=by
 have hal:Below w.heap.size w (w.alloc (.cells news.toArray 71)):=(qR w).alloc qN _;have hnew:=heap_alloc_new w (.cells news.toArray 71);obtain⟨i0,hi,hz0,hz1,hz2⟩:=info_parts Tryz.infoHit
 have hcells:∀j u,news[j]?=some u->(w.alloc (.cells news.toArray 71)).cell? ((⟨w.heap.size,0,none⟩:Addr).add j)=some u:=fun j u hj=>by
  rw[L.addr_add,Nat.zero_add];exact K.zad hnew (by simpa using hj)
 obtain⟨v',w',run,own',gr,_⟩:=run_append_own (P:=prog) (w.alloc (.cells news.toArray 71)) B 67 67 71 i0 _ 2 16 underlying67 hi hz0 hz1 hz2 rfl (by decide) vo n xs (own.alloc _) ⟨w.heap.size,0,none⟩ 1 1 news (by rw[hn]) hcells h1 (by unfold maxLen;omega) (by omega) (by simp;omega)
 obtain⟨ao',vc',rfl⟩:∃ao cap,v'= .slice ao (n+1) cap:=by
  rcases own'.2 with ⟨hv,h0⟩|⟨g,cap,cur,hv,_⟩
  ·omega
  ·exact⟨_,cap,hv⟩
 refine⟨ao',vc',w',fun ty=>run,own',(hal.mono hB).grown gr (by simp;omega) fun k hk=>(own.lt k hk).1,fun b cs hb=> ?_⟩;have hlt:=lt_of_block hb;rw[gr.block b (by simp;omega) fun e=> ?_,hal.block b hlt]
 ·exact hb
 ·obtain⟨_,cs',q,h⟩:=Al.block own (q:=b) e.symm;rw[hb] at h;simp at h
theorem zun (xo:Option Addr)(g N xc i:Nat)(hx:xo=some ⟨g,0,none⟩)(h:i<N)(hc:N<=xc)(w':World):(Instr.slice 120 (.slice xo N xc) (some (.int .i64 (i:Int))) none none).run prog w'= .ok (.slice (some ⟨g,i*5,none⟩) (N - i) (xc - i)) w':=by
 subst hx;have a1:(i:Int)<=N:=by omega
 have a2:(N:Int)<=xc:=by omega
 have a0:(0:Int)<=i:=by omega
 have a3:¬xc=i:=by omega
 go_simp
theorem zp6 {C p:List Int}{X:List Al.Lk}{k:Nat}(hX:X.length<=32040)(hk:k<=X.length):((X.take k).flatMap (hit C p X)).length<=1026561600:=by
 have h1:=zsj (C:=C) (p:=p) (X:=X) k;have h2:k*X.length<=32040*32040:=Nat.mul_le_mul (by omega) hX;omega
end Fd
end
section
open Go.RowKit
theorem zh2 {a b:List Int}{k:Nat}{x y:Int}(h:a.take k=b.take k)(hx:a[k]?=some x)(hy:b[k]?=some y)(e:x=y):a.take (k+1)=b.take (k+1):=by
 rw[List.take_add_one,List.take_add_one,h,hx,hy,e]
end
section
open Go.RowKit
theorem zic (w:World)(va vb:Value)(za zb:List Int)(ha:L.Rd w va .i32 za)(hb:L.Rd w vb .i32 zb)(hla:za.length<=4611686018427387903)(hlb:zb.length<=4611686018427387903) :
  Calls prog 154 #[va,vb] w fun e w'=>e= .returned (.bool (decide (za=zb)))/\∃n,w'=w.drewN n:=by
 obtain⟨ao,ca,rfl,_,ha⟩:=ha;obtain⟨bo,cb,rfl,_,hb⟩:=hb
 by_cases hl:za.length=zb.length
 ·go_enter func154,ntmps154
  go_wp2
  go_loopw [13] (fun i wr=>∃k n:Nat,k<=za.length/\i= .int .i64 k/\za.take k=zb.take k/\wr=w.drewN n) (fun i _=>za.length - (intOf i).toNat)
  case atStart=>exact⟨0,0,Nat.zero_le _,rfl,by simp,rfl⟩
  case round =>
   obtain⟨k,n,hk,rfl,ht,rfl⟩:=hrel
   by_cases hlt:k<za.length
   ·obtain⟨b1,o1,rfl,hc1⟩:=ha (by intro h;subst h;simp at hlt);obtain⟨b2,o2,rfl,hc2⟩:=hb (by intro h;subst h;simp at hl;rw[hl] at hlt;simp at hlt);obtain⟨x,hx⟩:∃x,za[k]?=some x:=⟨za[k],by simp[hlt]⟩;obtain⟨y,hy⟩:∃y,zb[k]?=some y:=⟨zb[k]'(by omega),by simp[show k<zb.length by omega]⟩;have c1:=hc1 k x hx;have c2:=hc2 k y hy;clear hc1 hc2 ha hb;have HX:Hid (za[k]?=some x/\zb[k]?=some y/\za.take k=zb.take k):=⟨hx,hy,ht⟩;clear hx hy ht
    by_cases hxy:x=y
    ·go_wp2
     go_quiet (fail)
     go_wp2
     go_roundw
     case rel=>exact⟨k+1,_,by omega,by go_num,zh2 HX.out.2.2 HX.out.1 HX.out.2.1 hxy,rfl⟩
     case measure=>simp[intOf];omega
    ·go_wp2
     go_quiet (fail)
     go_wp2;go_ret
     refine⟨L.zaj ?_,⟨_,World.drewN_drewN _ _ _⟩⟩
     have:za≠zb:=by
      intro e;rw[e] at HX;have h1:=HX.out.1;rw[HX.out.2.1] at h1;exact hxy (Option.some.inj h1).symm
     simp[this]
   ·go_wp2;go_ret
    refine⟨L.zaj ?_,⟨_,rfl⟩⟩;rw[List.take_of_length_le (by omega),List.take_of_length_le (by omega)] at ht;simp[ht]
 ·go_enter func154,ntmps154
  go_wp2;go_ret
  refine⟨L.zaj ?_,⟨0,rfl⟩⟩;have:za≠zb:=by intro e;exact hl (by rw[e])
  simp[this]
theorem zjy (w:World)(va vb:Value)(za zb:List Int)(ha:L.Rd w va .i32 za)(hb:L.Rd w vb .i32 zb)(hla:za.length<=4611686018427387903)(hlb:zb.length<=4611686018427387903) :
  Calls prog 154 #[va,vb] w fun e w'=>e= .returned (.bool (decide (za=zb)))/\Below w.heap.size w w' :=
 (zic w va vb za zb ha hb hla hlb).mono fun _ _ ⟨h,n,hw⟩=>⟨h,by rw[hw];exact below_drewN (qR _) _⟩
end
section
open Go.RowKit
theorem zkh (w:World)(v:Value)(p:List Int)(R:L.Rd w v .i32 p)(hp:p.length<=140737488355328) :
  Calls prog 54 #[v] w fun e w'=>e= .returned (.int .i64 (Fd.wrongF p))/\Below w.heap.size w w':=by
 have H:=zd0 w v p R hp;obtain⟨ao,c,rfl,_⟩:=R;have HO:Hid (Fd.wrongF p=if K.textE p=0 then (if p.length=0 then 6 else 0) else K.textE p):=rfl;generalize K.textE p=e1 at *;generalize Fd.wrongF p=o at *
 go_enter func54,ntmps54
 go_wp2_with fail
 refine H.mono ?_;rintro e w1 ⟨rfl,b1⟩
 by_cases q:e1=0
 ·subst q
  by_cases q2:p.length=0
  ·have ho:=HO.out;rw[if_pos rfl,if_pos q2] at ho;subst ho;have u:(p.length:Int)=0:=by omega
   go_wp2;go_ret
   exact⟨rfl,b1⟩
  ·have ho:=HO.out;rw[if_pos rfl,if_neg q2] at ho;subst ho;have u:¬(p.length:Int)=0:=by omega
   go_wp2;go_ret
   exact⟨rfl,b1⟩
 ·have ho:=HO.out;rw[if_neg q] at ho;subst ho;go_wp2;go_ret;exact⟨rfl,b1⟩
theorem ziy (w:World)(ao:Option Addr)(c:Nat)(t:List Int)(R:L.Rd w (.slice ao t.length c) .i32 t)(hc:t.length<=c)(ht:t.length<=100000)(v:Value)(p:List Int)(Rp:L.Rd w v .i32 p)(hp:p.length<=140737488355328) :
  Calls prog 107 #[.slice ao t.length c,v] w fun e w'=>e= .returned (.bool (decide (t.take p.length=p)))/\Below w.heap.size w w':=by
 have hv:=Rp;obtain⟨bo,d,rfl,_⟩:=hv
 by_cases h:p.length<=t.length
 ·have u:(p.length:Int)<=t.length:=by omega
  have H:=zjy w (.slice ao p.length c) _ (t.take p.length) p (K.zhd R h) Rp (by rw[List.length_take];omega) (by omega);have hs:=K.za5 ao t.length c p.length (by omega);generalize decide (t.take p.length=p)=o at *;clear R Rp
  go_enter func107,ntmps107
  go_wp2_with fail
  refine H.mono ?_;rintro e w1 ⟨rfl,b1⟩;go_wp2;go_ret;exact⟨rfl,b1⟩
 ·have u:¬(p.length:Int)<=t.length:=by omega
  have hn:¬t.take p.length=p:=fun e=>h (by have:=congrArg List.length e;rw[List.length_take] at this;omega)
  rw[decide_eq_false hn];clear R Rp
  go_enter func107,ntmps107
  go_wp2;go_ret
  exact⟨rfl,qR _⟩
end
section
open Go.RowKit Go.Lib
theorem znf (w:World)(p1:Option Addr)(pc1:Nat)(X:List Al.Lk)(hOw:Fd.At w p1 X)(hX:X.length<=32040)(hpc:X.length<=pc1)(C:List Int)(hRow:Fd.Row C.length 0 X)(co:Option Addr)(cc:Nat)(RC:L.Rd w (.slice co C.length cc) .i32 C)(hcc:C.length<=cc)(hC4:C.length<=4000)
  (vp:Value) (p:List Int) (Rp:L.Rd w vp .i32 p) (hp0:0<p.length) (hp:p.length<=140737488355328) :
  Calls prog 55 #[.slice p1 X.length pc1,.slice co C.length cc,vp] w fun e w'=>∃v',e= .returned v'/\w'.ownsRow w.heap.size 71 2 v' (Fd.hitsF C p X).length (Al.scells (Fd.hitsF C p X))/\Below w.heap.size w w':=by
 have HOw:=qH hOw;have HRow:=qH hRow;have HC:=qH RC;have HP:=qH Rp;have HLe:Hid (∀k,k<=X.length->((X.take k).flatMap (Fd.hit C p X)).length<=1026561600):=fun k hk=>Fd.zp6 hX hk
 obtain⟨po,pc,rfl,_⟩:=Rp;clear hOw hRow RC
 go_enter func55,ntmps55
 go_wp2
 go_loopw [7,8,16] (fun i7 i8 i16 wr=>∃(k la:Nat) (xs:List (Int×Int)) (vo:Option Addr) (vc:Nat),k<=X.length/\la<=X.length/\i16= .int .i64 k/\i8= .int .i64 la/\i7= .slice vo xs.length vc/\Hid (xs=(X.take k).flatMap (Fd.hit C p X))/\Hid (∀i j y x,i<la->X[i]?=some y->k<=j->X[j]?=some x->y.fin<x.beg+p.length)/\Hid (wr.ownsRow w.heap.size 71 2 (.slice vo xs.length vc) xs.length (Al.scells xs)/\Below w.heap.size w wr)) (fun _ _ i16 _=>X.length - (RowKit.intOf i16).toNat)
 case atStart=>exact⟨0,0,[],none,0,Nat.zero_le _,Nat.zero_le _,rfl,rfl,rfl,rfl,(fun i j y x h=>absurd h (Nat.not_lt_zero _)),World.ownsRow_nil _ _ _ _,qR _⟩
 case round =>
  obtain⟨k,la,xs,vo,vc,hk,hla,rfl,rfl,rfl,HZ,HLa,HI⟩:=hrel
  by_cases hlt:k<X.length
  ·obtain⟨x,hx⟩:∃x,X[k]?=some x:=⟨X[k],by simp[hlt]⟩;obtain⟨g,rfl,hg,hc⟩:=HOw.out (by omega);have hcell:∀ {W:World} (_:Below w.heap.size w W) (j:Nat) (u:Value),(Al.lcells X)[j]?=some u->W.cell? ⟨g,j,none⟩=some u:=fun hb j u hu=>(hb.cell (p:=⟨g,_,none⟩) hg).trans (hc j u hu)
   have HCell:Hid (∀ {W:World} (_:Below w.heap.size w W) (j:Nat) (u:Value),(Al.lcells X)[j]?=some u->W.cell? ⟨g,j,none⟩=some u):=hcell;obtain⟨a0,a1,a2,a3,a4⟩:=Al.zd1 hx;have c0:=hcell HI.out.2 _ _ a0;have c1:=hcell HI.out.2 _ _ a1;have c2:=hcell HI.out.2 _ _ a2;have c3:=hcell HI.out.2 _ _ a3;have c4:=hcell HI.out.2 _ _ a4;obtain⟨z1,z2,z3⟩:=HRow.out.at hx;have hsn:=Fd.zp5 (C:=C) (p:=p) hx;rw[<- HZ.out] at hsn;have HX:=qH hx;have hHit:Fd.hit C p X x=if (C.drop x.beg.toNat).take p.length=p then (X.filter fun y=>decide (y.fin=x.beg+p.length)).map fun y=>(x.fr,y.up) else []:=rfl
   obtain⟨q1,q2,q3,q4,q5⟩:=x;simp only at c0 c1 c2 c3 c4 z1 z2 z3 hHit;obtain⟨ib,hib⟩:∃a:Nat,q3=a:=⟨q3.toNat,by omega⟩;subst hib;have hibC:ib<=C.length:=by omega
   rw[Int.toNat_natCast] at hHit;obtain⟨ap,hap⟩:∃ap,ap=(if cc=ib then co else Option.map (fun x=>x.add ib) co):=⟨_,rfl⟩;have hsl:∀w',(Instr.slice 33 (.slice co C.length cc) (some (.int .i64 (ib:Int))) none none).run prog w'= .ok (.slice ap (C.drop ib).length (cc - ib)) w':=fun w'=>by rw[hap,List.length_drop];exact K.zau co C.length cc ib hibC hcc w'
   obtain⟨W,hW⟩:∃W,W=wr.alloc (.cells #[.int .i64 q1,.int .i64 q2,.int .i64 ib,.int .i64 q4,.int .i64 q5] 188):=⟨_,rfl⟩;have hWb:Below wr.heap.size wr W:=by rw[hW];exact(qR wr).alloc qN _
   have hbW:=HI.out.2.trans (hWb.mono HI.out.2.size);have hbx:W.heap[wr.heap.size]?=some (.cells #[.int .i64 q1,.int .i64 q2,.int .i64 ib,.int .i64 q4,.int .i64 q5] 188):=by rw[hW];exact heap_alloc_new wr _
   have hrd:L.Rd W (.slice ap (C.drop ib).length (cc - ib)) .i32 (C.drop ib):=by
    have:=K.zfi (HC.out.below hbW qN) (d:=ib) hibC hcc;rw[<- hap] at this;rw[List.length_drop];exact this
   have HB:=qH <| ziy W ap _ (C.drop ib) hrd (by rw[List.length_drop];omega) (by rw[List.length_drop];omega) _ p (HP.out.below hbW qN) hp;have HW:Hid (Below w.heap.size w W/\W.heap[wr.heap.size]?=some (.cells #[.int .i64 q1,.int .i64 q2,.int .i64 ib,.int .i64 q4,.int .i64 q5] 188)/\wr.heap.size<W.heap.size/\W.ownsRow w.heap.size 71 2 (.slice vo xs.length vc) xs.length (Al.scells xs)):=⟨hbW,hbx,lt_of_block hbx,by rw[hW];exact HI.out.1.alloc _⟩;generalize (C.drop ib).length=cl at *;clear hc hcell hrd hbx hbW hWb hap a0 a1 a2 a3 a4 hx
   go_wp2_with fail
   try rw[<- hW]
   clear hW;refine HB.out.mono ?_;rintro e w2 ⟨rfl,b2⟩;have hB2:=HW.out.1.trans (b2.mono HW.out.1.size);have hx2:=K.zaf HW.out.2.1 b2;have y0:=K.zad (i:=0) hx2 rfl;have y2:=K.zad (i:=2) hx2 rfl;have own2:=L.zbh HW.out.2.2.2 b2 qN
   by_cases hq:(C.drop ib).take p.length=p
   ·have hin:=Fd.zuo hq hp0;obtain⟨yl,hyl,hyn⟩:=HRow.out.last (by omega);have HQ:=qH hq;have HTop:Hid (X[X.length - 1]?=some yl/\yl.fin=C.length):=⟨hyl,hyn⟩;have HLa2:Hid (∀i y,i<la->X[i]?=some y->y.fin<(ib:Int)+p.length):=fun i y h h'=>HLa.out i k y _ h h' qN HX.out
    rw[decide_eq_true hq];have HSn:=qH hsn;have HB2:Hid (Below w.heap.size w w2/\w2.heap[wr.heap.size]?=some (.cells #[.int .i64 q1,.int .i64 q2,.int .i64 ib,.int .i64 q4,.int .i64 q5] 188)/\w2.ownsRow w.heap.size 71 2 (.slice vo xs.length vc) xs.length (Al.scells xs)):=⟨hB2,hx2,own2⟩;have hxs:xs.length<=1026561600:=by have:=HLe.out k hk;rw[<- HZ.out] at this;exact this
    obtain⟨E,hE⟩:∃E:Nat,E=ib+p.length:=⟨_,rfl⟩;have hE2:(ib:Int)+p.length=(E:Int):=by omega
    have hEC:E<=C.length:=by omega
    have hwE:IntKind.i64.wrap ((ib:Int)+p.length)=(E:Int):=by rw[IntKind.wrap_i64];omega
    rw[hE2] at HLa2;have HE2:=qH hE2;clear hE hE2;clear hq hin hyl hyn hHit hsn b2 hB2 hx2 own2 HB HLa HI HW c0 c1 c2 c3 c4;generalize wr.heap.size=bx at *;go_wp2
    go_loop [8] (fun i8=>∃lb:Nat,lb<=X.length/\i8= .int .i64 lb/\Hid (∀i y,i<lb->X[i]?=some y->y.fin<(E:Int))) (fun i8=>X.length - (RowKit.intOf i8).toNat)
    case atStart=>exact⟨la,hla,rfl,HLa2⟩
    case round =>
     obtain⟨lb,hlb,rfl,HLb⟩:=hrel
     have hlx:lb<X.length:=by
      refine Decidable.byContradiction fun hn=> ?_
      have h1:=HLb.out (X.length - 1) yl (by omega) HTop.out.1;have h2:=HTop.out.2;omega
     obtain⟨y,hy⟩:∃y,X[lb]?=some y:=⟨X[lb],by simp[hlx]⟩;obtain⟨_,_,_,a3,_⟩:=Al.zd1 hy;have d3:=HCell.out HB2.out.1 _ _ a3;have HY:=qH hy;obtain⟨s1,s2,s3,s4,s5⟩:=y;simp only at d3;clear a3 hy
     by_cases hf:s4<(E:Int)
     ·go_wp2
      go_round
      case rel =>
       refine⟨lb+1,by omega,by go_num,fun i y h h'=> ?_⟩;rcases Nat.lt_or_eq_of_le (Nat.lt_succ_iff.1 h) with h2 | h2
       ·exact HLb.out i y h2 h'
       ·subst h2;rw[HY.out] at h';cases h';exact hf
      case measure=>simp[RowKit.intOf];omega
     ·have HGe:Hid (∀y,X[lb]?=some y->(E:Int)<=y.fin):=fun y h=>by rw[HY.out] at h;cases h;show (E:Int)<=s4;omega
      obtain⟨N,hN⟩:∃N,N=X.length - lb:=⟨_,rfl⟩;have hs:=Fd.zun (some ⟨g,0,none⟩) g X.length pc1 lb rfl hlx hpc;rw[<- hN] at hs;have hN1:N+lb<=X.length:=by omega
      have hN2:X.length<=N+lb:=by omega
      have HDone:Hid (∀(W:World) (j:Nat) (ys:List (Int×Int)),j<=N->ys=xs++((X.drop lb).take j).map (fun y=>(q1,y.up))->(∀y∈(X.drop lb).take j,y.fin=(E:Int))->(∀y,X[lb+j]?=some y->y.fin≠(E:Int))->ys=(X.take (k+1)).flatMap (Fd.hit C p X)):=fun W j ys _ h1 h2 h3=>by
       rw[HSn.out,Fd.zvg (x:=⟨q1,q2,ib,q4,q5⟩) (lb:=lb) (j:=j) HRow.out HQ.out]
       ·exact h1
       ·show ∀i y,i<lb->X[i]?=some y->y.fin<(ib:Int)+p.length;rw[HE2.out];exact HLb.out
       ·show ∀y,X[lb]?=some y->(ib:Int)+p.length<=y.fin;rw[HE2.out];exact HGe.out
       ·show ∀y∈(X.drop lb).take j,y.fin=(ib:Int)+p.length;rw[HE2.out];exact h2
       ·show ∀y,X[lb+j]?=some y->y.fin≠(ib:Int)+p.length;rw[HE2.out];exact h3
      have HNext:Hid (∀i j y x,i<lb->X[i]?=some y->k+1<=j->X[j]?=some x->y.fin<x.beg+p.length):=fun i j y x h1 h2 h3 h4=>by
       have g1:=HLb.out i y h1 h2;have g2:=(HRow.out.begs HX.out h4 (by omega)).1;simp only at g2;have g3:=HE2.out;omega
      clear hN;go_wp2
      go_loopw [7,45] (fun i7 i45 wi=>∃(j:Nat) (ys:List (Int×Int)) (vo2:Option Addr) (vc2:Nat),j<=N/\i45= .int .i64 j/\i7= .slice vo2 ys.length vc2/\ys.length<=1026561600+j/\Hid (ys=xs++((X.drop lb).take j).map (fun y=>(q1,y.up)))/\Hid (∀y∈(X.drop lb).take j,y.fin=(E:Int))/\Hid (wi.ownsRow w.heap.size 71 2 (.slice vo2 ys.length vc2) ys.length (Al.scells ys)/\Below w.heap.size w wi/\wi.heap[bx]?=some (.cells #[.int .i64 q1,.int .i64 q2,.int .i64 ib,.int .i64 q4,.int .i64 q5] 188))) (fun _ i45 _=>N - (RowKit.intOf i45).toNat)
      case atStart=>exact⟨0,xs,vo,vc,Nat.zero_le _,rfl,rfl,by omega,by show _=_;simp,(fun y hy=>by simp at hy),HB2.out.2.2,HB2.out.1,HB2.out.2.1⟩
      case round =>
       obtain⟨j,ys,vo2,vc2,hj,rfl,rfl,hyl,HYs,HAll,HI2⟩:=hrel;have hBw:=HI2.out.2.1
       by_cases hjN:j<N
       ·obtain⟨y,hy⟩:∃y,X[lb+j]?=some y:=⟨X[lb+j]'(by omega),by simp[show lb+j<X.length by omega]⟩;obtain⟨a0,a1,a2,a3,a4⟩:=Al.zd1 hy;rw[Nat.add_mul] at a0 a1 a2 a3 a4;have d0:=HCell.out hBw _ _ a0;have d1:=HCell.out hBw _ _ a1;have d2:=HCell.out hBw _ _ a2;have d3:=HCell.out hBw _ _ a3;have d4:=HCell.out hBw _ _ a4;have hx3:=HI2.out.2.2;have e0:=K.zad (i:=0) hx3 rfl;have HBw:=qH hBw;have HY2:=qH hy;obtain⟨s1',s2',s3',s4',s5'⟩:=y;simp only at d0 d1 d2 d3 d4
        by_cases hf2:s4'=(E:Int)
        ·subst hf2;obtain⟨W3,hW3⟩:∃W3,W3=wr.alloc (.cells #[.int .i64 s1',.int .i64 s2',.int .i64 s3',.int .i64 (E:Int),.int .i64 s5'] 188):=⟨_,rfl⟩;have hb3:Below wr.heap.size wr W3:=by rw[hW3];exact(qR wr).alloc qN _
         have own3:W3.ownsRow w.heap.size 71 2 (.slice vo2 ys.length vc2) ys.length (Al.scells ys):=by rw[hW3];exact HI2.out.1.alloc _
         have hB3:=hBw.trans (hb3.mono hBw.size);obtain⟨ao1,vc1,w4,run1,own4,be4,kp4⟩:=Fd.app own3 hB3.size (by omega) [.int .i64 q1,.int .i64 s2'] rfl (fun u hu=>by simp at hu;rcases hu with rfl | rfl <;> rfl)
         have HNx:Hid (ys++ [(q1,s2')]=xs++((X.drop lb).take (j+1)).map (fun y=>(q1,y.up))/\∀y∈(X.drop lb).take (j+1),y.fin=(E:Int)):=by
          have e:(X.drop lb).take (j+1)=(X.drop lb).take j++ [⟨s1',s2',s3',(E:Int),s5'⟩]:=by rw[List.take_add_one,List.getElem?_drop,HY2.out];rfl
          show _/\_;rw[e,List.map_append];refine⟨by rw[HYs.out,List.append_assoc];rfl,fun y hy=> ?_⟩;rcases List.mem_append.1 hy with h | h
          ·exact HAll.out y h
          ·simp at h;subst h;rfl
         have HL:Hid ((ys++ [(q1,s2')]).length=ys.length+1):=by show _=_;simp
         have HO4:Hid (w4.ownsRow w.heap.size 71 2 (.slice ao1 (ys.length+1) vc1) (ys.length+1) (Al.scells (ys++ [(q1,s2')]))/\Below w.heap.size w w4/\w4.heap[bx]?=some (.cells #[.int .i64 q1,.int .i64 q2,.int .i64 ib,.int .i64 q4,.int .i64 q5] 188)):=⟨by rw[Al.zds];exact own4,hB3.trans be4,kp4 _ _ (K.zaf hx3 hb3)⟩;rw[hW3,show (wr.alloc (.cells #[.int .i64 s1',.int .i64 s2',.int .i64 s3',.int .i64 (E:Int),.int .i64 s5'] 188)).heap.size=wr.heap.size+1 by simp] at run1;have e1:∀o,(wr.alloc o).cell? ⟨bx,0,none⟩=some (.int .i64 q1):=fun o=>K.zai e0 o
         clear hW3 hb3 own3 hB3 own4 be4 kp4 hy a0 a1 a2 a3 a4 hBw hx3 HDone
         go_wp2_with (at_builtin;refine Lib.wpList_append_run _ rfl _ _ _ _ rfl _ _ rfl rfl _ _ (run1 _) ?_;clear run1)
         go_roundw
         case rel=>exact⟨j+1,ys++ [(q1,s2')],ao1,vc1,by omega,by go_num,by rw[HL.out],by rw[HL.out];omega,HNx.out.1,HNx.out.2,by show _/\_;rw[HL.out];exact HO4.out⟩
         case measure=>simp[RowKit.intOf];omega
        ·have HFin:=qH <| HDone.out w j ys hj HYs.out HAll.out (fun y h=>by rw[HY2.out] at h;cases h;exact hf2);have HOwn:Hid (∀o,(wr.alloc o).ownsRow w.heap.size 71 2 (.slice vo2 ys.length vc2) ys.length (Al.scells ys)/\Below w.heap.size w (wr.alloc o)):=fun o=>⟨HI2.out.1.alloc _,hBw.alloc hBw.size o⟩
         clear hy a0 a1 a2 a3 a4 hBw hx3 HDone;go_wp2
         go_roundw
         case rel=>exact⟨k+1,lb,ys,vo2,vc2,by omega,hlb,by go_num,rfl,rfl,HFin.out,HNext.out,HOwn.out _⟩
         case measure=>simp[RowKit.intOf];omega
       ·have HFin:=qH <| HDone.out w j ys hj HYs.out HAll.out (fun y h=>by have:=(qL.1 h).1;omega);have HBw:=qH hBw;clear hBw HDone;go_wp2
        go_roundw
        case rel=>exact⟨k+1,lb,ys,vo2,vc2,by omega,hlb,by go_num,rfl,rfl,HFin.out,HNext.out,HI2.out.1,HBw.out⟩
        case measure=>simp[RowKit.intOf];omega
   ·rw[if_neg hq] at hHit;rw[hHit,List.append_nil] at hsn;rw[decide_eq_false hq];have HN:Hid (xs=(X.take (k+1)).flatMap (Fd.hit C p X)/\w2.ownsRow w.heap.size 71 2 (.slice vo xs.length vc) xs.length (Al.scells xs)/\Below w.heap.size w w2):=⟨hsn.symm,own2,hB2⟩;clear hHit hsn b2 hB2 hx2 own2 HB;go_wp2
    go_roundw
    case rel=>exact⟨k+1,la,xs,vo,vc,by omega,hla,by go_num,rfl,rfl,HN.out.1,(fun i j y x h1 h2 h3 h4=>HLa.out i j y x h1 h2 (by omega) h4),HN.out.2⟩
    case measure=>simp[RowKit.intOf];omega
  ·have hke:k=X.length:=by omega
   have hz:=HZ.out;rw[hke,List.take_length] at hz;go_wp2;go_ret;have:Fd.hitsF C p X=xs:=hz.symm;rw[this];exact⟨_,rfl,HI.out.1,HI.out.2⟩
