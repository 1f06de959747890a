import Derived.Test.YthnmmmkeamcfkaaGreatDoorYMath
set_option maxHeartbeats 0
set_option maxRecDepth 20000
set_option linter.unusedSimpArgs false
set_option linter.unusedVariables false
namespace Go.Proofs.YthnmmmkeamcfkaaGreatDoor
open Go.Proofs.Tryz
namespace Al
def shots (l:List K.Rule):Nat->List Int->List Int->List (Int×Int)
 | 0,_,_=> []
 | left+1,A,Z =>
  if Z.length=0 then []
  else if K.which l (A++Z) A.length<0 then ((A.length:Int),-1)::shots l left (A++Z.take 1) (Z.drop 1)
  else
   let r:=(l[(K.which l (A++Z) A.length).toNat]?).getD K.noRule
   ((A.length:Int),K.which l (A++Z) A.length)::shots l left (A++(K.restOf r Z).take r.cursor.toNat) ((K.restOf r Z).drop r.cursor.toNat)
theorem zbn {l:List K.Rule}{left:Nat}{A Z:List Int}(h:Z.length=0):shots l left A Z= []:=by
 cases left
 ·rfl
 ·rw[shots,if_pos h]
theorem zg4 {l:List K.Rule}{left:Nat}{A Z:List Int}(h:¬Z.length=0)(hk:K.which l (A++Z) A.length= -1):shots l (left+1) A Z=((A.length:Int),-1)::shots l left (A++Z.take 1) (Z.drop 1):=by
 rw[shots,if_neg h,if_pos (by rw[hk];decide)]
theorem ze9 {l:List K.Rule}{left:Nat}{A Z:List Int}{j:Nat}{r:K.Rule}(h:¬Z.length=0)(hk:K.which l (A++Z) A.length=(j:Int))(hr:l[j]?=some r):shots l (left+1) A Z=((A.length:Int),(j:Int))::shots l left (A++(K.restOf r Z).take r.cursor.toNat) ((K.restOf r Z).drop r.cursor.toNat):=by
 rw[shots,if_neg h,if_neg (by rw[hk];omega),hk,Int.toNat_natCast,hr];rfl
theorem zh6 {l:List K.Rule}:∀ {left:Nat} {A Z:List Int},(shots l left A Z).length<=left:=by
 intro left
 induction left with
 | zero=>intro A Z;exact qN
 | succ n ih =>
  intro A Z;rw[shots];split
  ·simp
  ·split
   ·rw[List.length_cons];have:=ih (A:=A++Z.take 1) (Z:=Z.drop 1);omega
   ·simp only[List.length_cons];exact Nat.succ_le_succ ih
theorem zrk {l:List K.Rule}:∀ {left:Nat} {A Z:List Int} {s p:Int},A.length+Z.length<=4000->(K.play l left A Z s p).1=0->∀x∈shots l left A Z,0<=x.1/\x.1<=4000/\(x.2= -1∨∃(j:Nat) (r:K.Rule),x.2=j/\l[j]?=some r):=by
 intro left
 induction left with
 | zero=>intro A Z s p _ _ x hx;cases hx
 | succ n ih =>
  intro A Z s p hl h0 x hx
  by_cases hz:Z.length=0
  ·rw[zbn hz] at hx;cases hx
  ·rcases K.zbr (l:=l) (t:=A++Z) (k:=A.length) with hk | ⟨j,r,hr,hm,hk⟩
   ·rw[zg4 hz hk] at hx;rw[K.zc7 hz hk] at h0;rcases List.mem_cons.1 hx with rfl | hx
    ·exact⟨by show (0:Int)<=A.length;omega,by show (A.length:Int)<=4000;omega,.inl rfl⟩
    ·exact ih (by simp;omega) h0 x hx
   ·rw[ze9 hz hk hr] at hx
    by_cases hmu:4000<A.length+(K.restOf r Z).length
    ·rw[K.zb2 hz hk hr hmu] at h0;exact absurd h0 (by decide)
    ·rw[K.zcl hz hk hr hmu] at h0;rcases List.mem_cons.1 hx with rfl | hx
     ·exact⟨by show (0:Int)<=A.length;omega,by show (A.length:Int)<=4000;omega,.inr ⟨j,r,rfl,hr⟩⟩
     ·refine ih ?_ h0 x hx;rw[List.length_append,List.length_take,List.length_drop];omega
structure Lk where
 fr:Int
 up:Int
 beg:Int
 fin:Int
 rule:Int
def ruleAt (l:List K.Rule) (k:Int):K.Rule:=(l[k.toNat]?).getD K.noRule
def about (l:List K.Rule) (k:Int):Int:=if k<0 then 1 else ((ruleAt l k).source.length:Int)
def came (l:List K.Rule) (k:Int):Int:=if k<0 then 1 else ((ruleAt l k).target.length:Int)
def link (l:List K.Rule) (s:Int×Int) (fr:Int):Lk:=⟨fr,fr+about l s.2,s.1,s.1+came l s.2,s.2⟩
def links (l:List K.Rule):Int->List (Int×Int)->List Lk
 | _,[]=> []
 | fr,s::ss=>link l s fr::links l (fr+about l s.2) ss
theorem zpz {l:List K.Rule}:∀ {ss:List (Int×Int)} {fr:Int},(links l fr ss).length=ss.length:=by
 intro ss
 induction ss with
 | nil=>intro fr;rfl
 | cons x ss ih=>intro fr;rw[links,List.length_cons,List.length_cons,ih]
theorem zum {l:List K.Rule}{left:Nat}{A Z:List Int}{s p fr:Int}(hz:¬Z.length=0)(hk:K.which l (A++Z) A.length= -1)(h0:(K.play l (left+1) A Z s p).1=0) :
  (K.play l left (A++Z.take 1) (Z.drop 1) (s+1) p).1=0/\links l fr (shots l (left+1) A Z)=⟨fr,fr+1,A.length,(A.length:Int)+1,-1⟩::links l (fr+1) (shots l left (A++Z.take 1) (Z.drop 1)):=by
 refine⟨by rw[K.zc7 hz hk] at h0;exact h0,?_⟩;rw[zg4 hz hk];rfl
theorem zp9 {l:List K.Rule}{left:Nat}{A Z:List Int}{s p fr:Int}{j:Nat}{r:K.Rule}(hz:¬Z.length=0)(hk:K.which l (A++Z) A.length=(j:Int))(hr:l[j]?=some r)(hS:K.sureB l=true)(h0:(K.play l (left+1) A Z s p).1=0) :
  (K.play l left (A++r.target) (Z.drop r.source.length) (s+1) (p+1)).1=0/\A.length+r.target.length+(Z.length - r.source.length)<=4000/\links l fr (shots l (left+1) A Z)=⟨fr,fr+(r.source.length:Int),A.length,(A.length:Int)+(r.target.length:Int),j⟩::links l (fr+(r.source.length:Int)) (shots l left (A++r.target) (Z.drop r.source.length)):=by
 have hg:=List.all_eq_true.1 hS r (List.mem_of_getElem? hr);have hc:r.cursor.toNat=r.target.length:=by unfold K.goesB at hg;have:=of_decide_eq_true hg;omega
 have e1:(K.restOf r Z).take r.cursor.toNat=r.target:=by rw[hc];unfold K.restOf;exact List.take_left
 have e2:(K.restOf r Z).drop r.cursor.toNat=Z.drop r.source.length:=by rw[hc];unfold K.restOf;exact List.drop_left
 by_cases hmu:4000<A.length+(K.restOf r Z).length
 ·rw[K.zb2 hz hk hr hmu] at h0;exact absurd h0 (by decide)
 ·rw[K.zcl hz hk hr hmu,e1,e2] at h0;refine⟨h0,by rw[K.zdt] at hmu;omega,?_⟩;rw[ze9 hz hk hr,e1,e2];have ha:ruleAt l (j:Int)=r:=by unfold ruleAt;rw[Int.toNat_natCast,hr];rfl
  have hb:about l (j:Int)=(r.source.length:Int):=by unfold about;rw[if_neg (by omega),ha]
  have hd:came l (j:Int)=(r.target.length:Int):=by unfold came;rw[if_neg (by omega),ha]
  rw[links,link];simp only[hb,hd]
end Al
section
open Go.RowKit Go.Shelf
theorem zlv (b:Nat)(ms:List Nat)(mb:Nat)(wb w:World)(g:Nat)(vr vh:Value)(l:List K.Rule)(c:List Int)(A Z:List Int)(M:Gm.Mx b ms mb wb w g vr vh l c A Z)(O:Gm.Ok l c)(hz:0<Z.length)(hR:K.allR (A++Z)=true) :
    Calls prog 214 #[.pointer (some ⟨mb,0,none⟩),.int .i64 (K.which l (A++Z) A.length)] w fun e w'=>∃x:Int,e= .returned (.int .i64 x) /\
      ((x=4/\Below b w w'/\∀left s p,K.play l (left+1) A Z s p=(4,[],0,0)) ∨
       (x=0/\∃A' Z',Gm.Mx b ms mb wb w' g vr vh l c A' Z'/\Gm.Fr ⟨b,ms⟩ w w'/\K.allR (A'++Z')=true/\(∀left s p,K.play l (left+1) A Z s p=K.play l left A' Z' (s+1) (p+if K.which l (A++Z) A.length= -1 then 0 else 1))/\∀left,Al.shots l (left+1) A Z=((A.length:Int),K.which l (A++Z) A.length)::Al.shots l left A' Z')):=by
  have hzn:¬Z.length=0:=by omega
  rcases K.zbr (l:=l) (t:=A++Z) (k:=(A.length:Int)) with hw | ⟨j,r,hj,hm,hw⟩
  · have h:=zk3 b ms mb wb w g vr vh l c A Z M hz
    rw[hw];refine h.mono ?_;rintro e w' ⟨rfl,h1,h2⟩;refine⟨0,rfl,.inr ⟨rfl,_,_,h1,h2,?_,fun left s p=> ?_,fun left=> ?_⟩⟩
    · rw[List.append_assoc,List.take_append_drop];exact hR
    · rw[K.zc7 hzn hw,if_pos rfl,Int.add_zero]
    · exact Al.zg4 hzn hw
  · have h:=zhv b ms mb wb w g vr vh l c A Z M j r hj (O.right r (List.mem_of_getElem? hj)) hm
    rw[hw];refine h.mono ?_;rintro e w' ⟨x,rfl,⟨h1,rfl,h2⟩|⟨h1,rfl,h2,h3⟩⟩
    · exact⟨4,rfl,.inl ⟨rfl,h2,fun left s p=>K.zb2 hzn hw hj h1⟩⟩
    · refine⟨0,rfl,.inr ⟨rfl,_,_,h2,h3,?_,fun left s p=> ?_,fun left=> ?_⟩⟩
      · rw[List.append_assoc,List.take_append_drop]
        obtain⟨g1,g2⟩:=Gm.zbx.1 hR;refine Gm.zbx.2 ⟨g1,Gm.zbx.2 ⟨(K.zao (O.right r (List.mem_of_getElem? hj))).2.2.2.2.2.1,Gm.zb9 g2 fun x hx=>List.mem_of_mem_drop hx⟩⟩
      · rw[K.zcl hzn hw hj h1,if_neg (by omega)]
      · exact Al.ze9 hzn hw hj
theorem zlx (b mb:Nat)(wb w:World)(g:Nat)(vr vh:Value)(l:List K.Rule)(c t:List Int)(M:Gm.Mx b [mb] mb wb w g vr vh l c [] t)(O:Gm.Ok l c)(hR:K.allR t=true)
    (U:World->Prop) (hU0:U w) (hUb:∀W W',U W->Below b W W'->U W')
    (T:World->List Nat->List (Int×Int)->Prop) (hT0:T w [] []) (hTb:∀W W' ms sh,T W ms sh->Gm.Fr ⟨b,mb::ms⟩ W W'->T W' ms sh)
    (ft:Nat) (ct:Array Value) (eg:∀args w,(callFunc ft args).run prog w= .ok (.enter ft args) w)
    (hf:∀W ms A Z (sh:List (Int×Int)) (at_ k:Int),Gm.Mx b (mb::ms) mb wb W g vr vh l c A Z->T W ms sh->U W->sh.length<8*t.length+40->Calls prog ft (#[.agg #[.int .i64 at_,.int .i64 k]]++ct) W fun e w'=>e= .returned (.tuple #[])/\U w'/\∃ns,Gm.Mx b (mb::ns) mb wb w' g vr vh l c A Z/\T w' ns (sh++ [(at_,k)]))
    (o1:Int) (o2:List Int) (o3 o4:Int) (hO:K.play l (8*t.length+40) [] t 0 0=(o1,o2,o3,o4)) :
    Calls prog 190 #[.pointer (some ⟨mb,0,none⟩),.func (.func ft) #[] ct] w fun e w'=>e= .returned (.int .i64 o1)/\Below wb.heap.size wb w'/\U w'/\(o1=0->∃ms,T w' ms (Al.shots l (8*t.length+40) [] t)):=by
  have ht:t.length<=4000:=by
    obtain⟨_,_,h⟩:=M.tx;simpa using h.few
  have HM:=qH M;have hbw:=M.top;have HOk:=qH O;have HR:Hid (K.allR ([]++t)=true):=hR;have HT:Hid (T w [] []/\U w):=⟨hT0,hU0⟩;have HUb:=qH hUb;have HTb:=qH hTb;have HTq0:Hid (∀W ms sh q,b<=W.heap.size->T W ms sh/\U W->T (W.drewN q) ms sh/\U (W.drewN q)):=fun W ms sh q hb h=>⟨hTb _ _ _ _ h.1 (Gm.Fr.of_below (below_drewN (qR W) q) hb),hUb _ _ h.2 (below_drewN (qR W) q)⟩
  obtain⟨SH,hSH⟩:∃SH,SH=Al.shots l (8*t.length+40) [] t:=⟨_,rfl⟩;rw[<- hSH];have HSH:Hid ([]++Al.shots l (8*t.length+40) [] t=SH):=hSH.symm;have HF:=qH hf;have HO:=qH hO;have k0:w.cell? ⟨mb,0,none⟩=some (.pointer (some ⟨g,0,none⟩)):=K.zad (i:=0) M.box rfl;have HL:=M.len 0
  have HL0:Hid (Calls prog 211 #[.pointer (some ⟨g,0,none⟩)] w fun e w'=>e= .returned (.int .i64 t.length)/\∃q',w'=w.drewN q'):=by
    simp only[List.length_nil,Nat.zero_add] at HL;exact HL
  clear M O hR hT0 hTb hU0 hUb hf hO HL hSH
  go_enter func190,ntmps190
  go_wp2_with fail
  go_at_call 211
  refine HL0.out.mono ?_;rintro e w1 ⟨rfl,q,rfl⟩;have HM1:=qH <| HM.out.drewN q;have HT1:Hid (T (w.drewN q) [] []/\U (w.drewN q)):=HTq0.out _ _ _ _ hbw HT.out;have hbw1:b<=(w.drewN q).heap.size:=hbw;generalize w.drewN q=w0 at *;clear HM HT HL0 k0 hbw
  go_wp2_with (go_at_call 44;refine(zhx _ t.length ht).mono ?_;rintro e wq ⟨rfl,rfl⟩)
  go_loopw [5] (fun i5 wr=>∃(left:Nat) (A Z:List Int) (ms:List Nat) (sh:List (Int×Int)) (s p:Int),i5= .int .i64 left/\sh.length+left=8*t.length+40/\Hid (Gm.Mx b (mb::ms) mb wb wr g vr vh l c A Z)/\Hid (T wr ms sh/\U wr)/\Hid (K.allR (A++Z)=true)/\Hid (K.play l left A Z s p=(o1,o2,o3,o4))/\Hid (sh++Al.shots l left A Z=SH)/\b<=wr.heap.size) (fun i5 _=>(RowKit.intOf i5).toNat)
  case atStart=>exact⟨8*t.length+40,[],t,[],[],0,0,by go_num,by simp,HM1,HT1,HR,HO,HSH,hbw1⟩
  case round =>
    obtain⟨left,A,Z,ms,sh,s,p,rfl,hsl,HMr,HTr,HRr,HPr,HSr,hbr⟩:=hrel;have k0:wr.cell? ⟨mb,0,none⟩=some (.pointer (some ⟨g,0,none⟩)):=K.zad (i:=0) HMr.out.box rfl
    have hlen:A.length+Z.length<=4000:=by
      obtain⟨_,_,h⟩:=HMr.out.tx;exact h.few
    by_cases hz:Z.length=0
    · have hp:=HPr.out
      rw[K.zbu hz] at hp;simp only[Prod.mk.injEq] at hp;obtain⟨rfl,rfl,rfl,rfl⟩:=hp;have hzn:=List.eq_nil_of_length_eq_zero hz;subst hzn
      have HSe:Hid (sh=SH):=by
        have:=HSr.out;rw[Al.zbn rfl,List.append_nil] at this;exact this
      have HQ:Hid (∀q,Calls prog 211 #[.pointer (some ⟨g,0,none⟩)] (wr.drewN q) fun e w'=>e= .returned (.int .i64 A.length)/\∃q',w'=(wr.drewN q).drewN q'):=fun q=>HMr.out.len q
      have HC:=qH <| fun q=>HMr.out.cur q
      clear HPr HRr HF HO HR HM1 HT1 HSr HSH
      go_wp2_with fail
      go_quiet (first | (go_at_call 211;exact Calls.quiet_of (HQ.out _)) | (go_at_call 212;exact Calls.quiet_of_same (HC.out _)))
      go_wp2;go_ret
      exact⟨rfl,(HMr.out.drewN nq).bel,(HTq0.out _ _ _ nq hbr HTr.out).2,ms,by rw[<- HSe.out];exact(HTq0.out _ _ _ nq hbr HTr.out).1⟩
    · obtain⟨N,hN⟩:∃N,N=A.length+Z.length:=⟨_,rfl⟩
      have HQ:Hid (∀q,Calls prog 211 #[.pointer (some ⟨g,0,none⟩)] (wr.drewN q) fun e w'=>e= .returned (.int .i64 N)/\∃q',w'=(wr.drewN q).drewN q'):=fun q=>by rw[hN];exact HMr.out.len q
      have HC:=qH <| fun q=>HMr.out.cur q
      have hlt:(A.length:Int)<N:=by omega
      clear HO HR HM1 HT1 HSH
      go_wp2_with fail
      go_quiet (first | (go_at_call 211;exact Calls.quiet_of (HQ.out _)) | (go_at_call 212;exact Calls.quiet_of_same (HC.out _)))
      have HMq:=qH <| HMr.out.drewN nq;have HTq:=qH <| HTq0.out _ _ _ nq hbr HTr.out;have hbq:b<=(wr.drewN nq).heap.size:=hbr;clear HQ HC k0 HMr HTr hbr;generalize wr.drewN nq=W at *;have k0:W.cell? ⟨mb,0,none⟩=some (.pointer (some ⟨g,0,none⟩)):=K.zad (i:=0) HMq.out.box rfl;cases left with
      | zero =>
        have hp:=HPr.out;rw[K.zcz hz] at hp;simp only[Prod.mk.injEq] at hp;obtain⟨rfl,rfl,rfl,rfl⟩:=hp;go_wp2;go_ret;exact⟨rfl,HMq.out.bel,HTq.out.2,fun h=>absurd h (by decide)⟩
      | succ left =>
        have hne:¬((left+1:Nat):Int)=0:=by omega
        have HCu:Hid (Calls prog 212 #[.pointer (some ⟨g,0,none⟩)] W fun e w'=>e= .returned (.int .i64 A.length)/\w'=W):=HMq.out.cur 0;have HFi:=qH <| zf5 b (mb::ms) mb wb W g vr vh l c A Z HMq.out HOk.out (by omega) (Gm.zfe HRr.out)
        have HSt:Hid (∀W2 o,Below W.heap.size W W2->Calls prog 214 #[.pointer (some ⟨mb,0,none⟩),.int .i64 (K.which l (A++Z) A.length)] (W2.alloc o) fun e w'=>∃x:Int,e= .returned (.int .i64 x) /\
      ((x=4/\Below wb.heap.size wb w'/\U w'/\o1=4) ∨
       (x=0/\w'.heap[W2.heap.size]?=some o/\b<=w'.heap.size/\∃A' Z',Gm.Mx b (mb::ms) mb wb w' g vr vh l c A' Z'/\(T w' ms sh/\U w')/\K.allR (A'++Z')=true/\K.play l left A' Z' (s+1) (p+if K.which l (A++Z) A.length= -1 then 0 else 1)=(o1,o2,o3,o4)/\(sh++ [((A.length:Int),K.which l (A++Z) A.length)])++Al.shots l left A' Z'=SH))):=fun W2 o hW2=>by
          have hM2:=(HMq.out.below hW2).box1 o;have hb2:=hW2.alloc (hW2.size) o;have hs2:=hb2.size;refine(zlv b _ mb wb _ g vr vh l c A Z hM2 HOk.out (by omega) HRr.out).mono ?_;rintro e w' ⟨x,rfl,⟨rfl,h1,h2⟩|⟨rfl,A',Z',h1,h2,h3,h4,h5⟩⟩
          · have hp:=HPr.out
            rw[h2] at hp;simp only[Prod.mk.injEq] at hp;exact⟨4,rfl,.inl ⟨rfl,hM2.bel.trans (h1.mono hM2.base),HUb.out _ _ HTq.out.2 ((hb2.mono hbq).trans h1),hp.1.symm⟩⟩
          · have hfr:=((Gm.Fr.of_below hb2 hbq).trans (B:=⟨b,mb::ms⟩) ⟨h2.1,fun j hj hm=>h2.2 j (List.mem_cons_of_mem _ hj) hm⟩)
            refine⟨0,rfl,.inr ⟨rfl,?_,by have:=h2.size;omega,A',Z',h1.less (by simp) (fun j hj=>List.mem_cons_of_mem _ hj),⟨HTb.out _ _ _ _ HTq.out.1 hfr,HUb.out _ _ HTq.out.2 hfr.1⟩,h3,?_,?_⟩⟩
            · rw[h2.2 _ (by simp) (by simp)];exact heap_alloc_new W2 o
            · rw[<- h4];exact HPr.out
            · have hq:=HSr.out
              rw[h5] at hq;rw[List.append_assoc];exact hq
        generalize K.which l (A++Z) A.length=kk at *;clear HMq HRr HTq HPr HSr
        go_wp2_with fail
        go_at_call 212
        refine HCu.out.mono ?_;rintro e w1 ⟨rfl,rfl⟩
        go_wp2_with fail
        go_at_call 213
        refine HFi.out.mono ?_;rintro e w2 ⟨rfl,hw2⟩;have HB2:=qH hw2;clear hw2 k0 HCu HFi
        go_wp2_with fail
        refine(HSt.out w2 _ HB2.out).mono ?_;rintro e w3 ⟨x,rfl,⟨rfl,h1,h1t,rfl⟩|⟨rfl,h1,h2,A',Z',h3,h4,h5,h6,h7⟩⟩
        · have H1:Hid (Below wb.heap.size wb w3/\U w3):=⟨h1,h1t⟩
          clear h1 h1t HSt HB2 HF;go_wp2;go_ret;exact⟨rfl,H1.out.1,H1.out.2,fun h=>absurd h (by decide)⟩
        · have d0:w3.cell? ⟨w2.heap.size,0,none⟩=some (.int .i64 A.length):=K.zad (i:=0) h1 rfl
          have d1:w3.cell? ⟨w2.heap.size,1,none⟩=some (.int .i64 kk):=K.zad (i:=1) h1 rfl;have HFo2:=qH <| HF.out w3 ms A' Z' sh A.length kk h3 h4.1 h4.2 (by omega);have H7:=qH h7;have hsl2:(sh++ [((A.length:Int),kk)]).length+left=8*t.length+40:=by simp;omega
          have H5:=qH h5;have H6:=qH h6;clear h1 h2 h3 h4 h5 h6 h7 HSt HB2 HF
          go_wp2_with fail
          refine HFo2.out.mono ?_;rintro e w4 ⟨rfl,g0,ns,g1,g2⟩;have G1:=qH g1;have G2:Hid (T w4 ns (sh++ [((A.length:Int),kk)])/\U w4):=⟨g2,g0⟩;clear g0 g1 g2 HFo2 d0 d1;go_wp2
          go_roundw
          case rel=>exact⟨left,A',Z',ns,_,s+1,_,by go_num,hsl2,G1,G2,H5,H6,H7,G1.out.top⟩
          case measure=>simp[RowKit.intOf]
end
section
open Go.RowKit
end
section
open Go.RowKit Go.Shelf
namespace Al
theorem app {sl e:TypeId}{z:Value}{k y:Nat}(hs:prog.underlying sl=some (.slice e))(hinfo:(prog.info? e).map (fun i=>(i.zero,i.size,i.bytes))=some (some z,k,y))(hzk:z.cells.size=k)(hk:0<k)(hy:y<=100)
  {w:World} {B n:Nat} {vo:Value} {xs:List Value} (own:w.ownsRow B e k vo n xs) (hB:B<=w.heap.size) (hl:n<=1000000) (news:List Value) (hn:news.length=k) (h1:∀u∈news,u.oneCell'=true) :
  ∃ao' vc' w',(∀ty,(Builtin.append_ #[sl,sl] ty #[vo,.slice (some ⟨w.heap.size,0,none⟩) 1 1]).run prog (w.alloc (.cells news.toArray e))= .ok (.slice ao' (n+1) vc') w')/\w'.ownsRow B e k (.slice ao' (n+1) vc') (n+1) (xs++news)/\(∀b,b<w.heap.size->vo.ownBlock≠some b->w'.heap[b]?=w.heap[b]?)/\w.heap.size<=w'.heap.size/\Below B w w':=by
 have hal:Below w.heap.size w (w.alloc (.cells news.toArray e)):=(qR w).alloc qN _;have hnew:=heap_alloc_new w (.cells news.toArray e);obtain⟨i0,hi,hz0,hz1,hz2⟩:=info_parts hinfo
 have hcells:∀j u,news[j]?=some u->(w.alloc (.cells news.toArray e)).cell? ((⟨w.heap.size,0,none⟩:Addr).add j)=some u:=fun j u hj=>by
  rw[L.addr_add,Nat.zero_add];exact K.zad hnew (by simpa using hj)
 have hyb:(n+1)*y<=140737488355328:=Nat.le_trans (Nat.mul_le_mul (Nat.succ_le_succ hl) hy) (by decide);obtain⟨v',w',run,own',gr,_⟩:=run_append_own (P:=prog) (w.alloc (.cells news.toArray e)) B sl sl e i0 _ k y hs hi hz0 hz1 hz2 hzk hk vo n xs (own.alloc _) ⟨w.heap.size,0,none⟩ 1 1 news (by rw[hn];omega) hcells h1 (by unfold maxLen;omega) hyb (by simp;omega)
 obtain⟨ao',vc',rfl⟩:∃ao cap,v'= .slice ao (n+1) cap:=by
  rcases own'.2 with ⟨hv,h0⟩|⟨g,cap,cur,hv,_⟩
  ·omega
  ·exact⟨_,cap,hv⟩
 refine⟨ao',vc',w',fun ty=>run,own',fun b hb hne=> ?_,?_,(hal.mono hB).grown gr (by simp;omega) fun k hk=>(own.lt k hk).1⟩
 ·rw[gr.block b (by simp;omega) (fun e=>hne e.symm)];exact hal.block b hb
 ·have:=gr.size;simp at this;omega
theorem held {F:Nat}{e:TypeId}{k:Nat}{w w':World}{v:Value}{n:Nat}{xs:List Value}(h:w.ownsRow F e k v n xs)(hb:∀q,v.ownBlock=some q->q<w.heap.size->w'.heap[q]?=w.heap[q]?):w'.ownsRow F e k v n xs:=by
 obtain⟨h1,h2⟩:=h;refine⟨h1,?_⟩;rcases h2 with h2 | ⟨g,cap,cur,hv,hg,hx,r⟩
 ·exact .inl h2
 ·exact .inr ⟨g,cap,cur,hv,hg,by rw[hb g (by rw[hv];rfl) (lt_of_block hx)];exact hx,r⟩
theorem block {F:Nat}{e:TypeId}{k:Nat}{w:World}{v:Value}{n:Nat}{xs:List Value}(h:w.ownsRow F e k v n xs){q:Nat}(hq:v.ownBlock=some q):F<=q/\∃cs p,w.heap[q]?=some (.cells cs e p):=by
 obtain⟨h1,h2⟩:=h;rcases h2 with ⟨h2,_⟩|⟨g,cap,cur,hv,hg,hx,r⟩
 ·rw[h2] at hq;cases hq
 ·rw[hv] at hq;have hq':some g=some q:=hq;cases hq';exact⟨hg,_,_,hx⟩
theorem lies {F:Nat}{e:TypeId}{k:Nat}{w:World}{v:Value}{n:Nat}{xs:List Value}(h:w.ownsRow F e k v n xs):∃ao cap,v= .slice ao n cap/\(0<n->∃g,ao=some ⟨g,0,none⟩/\g<w.heap.size/\∀j u,xs[j]?=some u->w.cell? ⟨g,j,none⟩=some u):=by
 have h0:=h;obtain⟨h1,h2⟩:=h;rcases h2 with ⟨rfl,h2⟩|⟨g,cap,cur,rfl,hg,hx,r⟩
 ·exact⟨none,0,by rw[h2],fun h=>by omega⟩
 ·refine⟨_,cap,rfl,fun _=>⟨g,rfl,lt_of_block hx,fun j u hu=> ?_⟩⟩;have:=h0.cells (g:=g) rfl j u hu;rw[L.addr_add,Nat.zero_add] at this;exact this
end Al
