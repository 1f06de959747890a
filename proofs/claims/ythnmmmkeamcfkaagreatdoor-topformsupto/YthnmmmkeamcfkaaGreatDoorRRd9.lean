import Derived.Test.YthnmmmkeamcfkaaGreatDoorRRd7
set_option maxHeartbeats 0
set_option maxRecDepth 20000
set_option linter.unusedSimpArgs false
set_option linter.unusedVariables false
namespace Go.Proofs.YthnmmmkeamcfkaaGreatDoor
open Go.Proofs.Tryz
section
open Go.RowKit
theorem R.zb0 {w w1:World}{c:Array Value}{t:TypeId}(h:Below (w.alloc (.cells c t)).heap.size (w.alloc (.cells c t)) w1) :
  w1.heap[w.heap.size]?=some (.cells c t)/\Below w.heap.size w w1/\w.heap.size<w1.heap.size:=by
 have hs:=h.size;have e:(w.alloc (.cells c t)).heap.size=w.heap.size+1:=by simp
 refine⟨?_,((qR w).alloc qN _).trans (h.mono (by omega)),by omega⟩;rw[h.block _ (by omega)];exact heap_alloc_new w _
theorem R.zcs {w w1:World}{b:Nat}{o:Obj}(h:w.heap[b]?=some o)(hb:Below w.heap.size w w1):w1.heap[b]?=some o:=by
 rw[hb.block b (qA.1 h).1];exact h
theorem R.zah {w:World}{b i:Nat}{c:Array Value}{t:TypeId}{v:Value}(h:w.heap[b]?=some (.cells c t))(hv:c[i]?=some v):w.cell? ⟨b,i,none⟩=some v:=by
 rw[Lib.cell_of_heap h];exact hv
theorem R.box2 {w:World}{g:Nat}{a b:Value}{t:TypeId}(hg:w.heap[g]?=some (.cells #[a,b] t)):w.cell? ⟨g,0,none⟩=some a/\w.cell? ⟨g,1,none⟩=some b/\w.frozen? ⟨g,0,none⟩=false/\w.frozen? ⟨g,1,none⟩=false:=by
 refine⟨?_,?_,?_,?_⟩
 ·rw[World.cell?];simp[hg]
 ·rw[World.cell?];simp[hg]
 ·rw[World.frozen?];simp[hg]
 ·rw[World.frozen?];simp[hg]
theorem zg2 (w:World)(x:R.Item)(so:Option Addr)(sc:Nat)(R0:S.Rd w (.slice so x.set.length sc) x.set)(hf:S.Fit x.set) :
  Calls prog 266 #[.agg #[.int .i64 x.kind,.int .i32 x.rune,.slice so x.set.length sc,.string x.name]] w fun e w'=>e= .returned (.int .i64 (R.itemE x))/\Below w.heap.size w w':=by
 obtain⟨k,r,s,n⟩:=x;simp only at R0 hf ⊢;have HA:=qH <| fun o=>(qR w).alloc qN o
 have HW:Hid (∀o,Calls prog 62 #[.slice so s.length sc] (w.alloc o) fun e w'=>e= .returned (.int .i64 (S.wrongE s))/\Below w.heap.size w w'):=fun o=>by
  refine(zb4 _ _ s (R.zcu R0 (R.Keeps.alloc w o)) hf).mono ?_;rintro e w' ⟨h1,h2⟩;exact⟨h1,(HA.out o).trans (h2.mono (by simp))⟩
 have HN:Hid (∀o,Calls prog 196 #[.string n] (w.alloc o) fun e w'=>e= .returned (.bool (R.named n))/\Below w.heap.size w w'):=fun o=>by
  refine(zd0 n _).mono ?_;rintro e w' ⟨h1,h2⟩;exact⟨h1,(HA.out o).trans (h2.mono (by simp))⟩
 obtain⟨o,HO⟩:∃o,Hid (R.itemE ⟨k,r,s,n⟩=o):=⟨_,rfl⟩;rw[HO.out];clear R0 hf
 by_cases h1:k=1
 ·subst h1;cases hr:M.right r with
  | true =>
   have HR:=qH hr;clear hr
   go_enter func266,ntmps266
   go_wp2_with (go_at_call 121;refine(zfg _ _).mono ?_;rintro e w1 ⟨rfl,rfl⟩;rw[HR.out])
   go_ret;exact⟨by rw[<- HO.out];simp[R.itemE,HR.out],HA.out _⟩
  | false =>
   have HR:=qH hr;clear hr
   go_enter func266,ntmps266
   go_wp2_with (go_at_call 121;refine(zfg _ _).mono ?_;rintro e w1 ⟨rfl,rfl⟩;rw[HR.out])
   go_ret;exact⟨by rw[<- HO.out];simp[R.itemE,HR.out],HA.out _⟩
 ·by_cases h2:k=2
  ·subst h2
   go_enter func266,ntmps266
   go_wp2_with (go_at_call 62;refine(HW.out _).mono ?_;rintro e w1 ⟨rfl,b1⟩)
   go_ret;exact⟨by rw[<- HO.out];simp[R.itemE],b1⟩
  ·by_cases h3:k=3
   ·subst h3;cases hr:R.named n with
    | true =>
     have HR:=qH hr;clear hr
     go_enter func266,ntmps266
     go_wp2_with (go_at_call 196;refine(HN.out _).mono ?_;rintro e w1 ⟨rfl,b1⟩;rw[HR.out])
     go_ret;exact⟨by rw[<- HO.out];simp[R.itemE,HR.out],b1⟩
    | false =>
     have HR:=qH hr;clear hr
     go_enter func266,ntmps266
     go_wp2_with (go_at_call 196;refine(HN.out _).mono ?_;rintro e w1 ⟨rfl,b1⟩;rw[HR.out])
     go_ret;exact⟨by rw[<- HO.out];simp[R.itemE,HR.out],b1⟩
   ·go_enter func266,ntmps266
    go_wp2;go_ret
    exact⟨by rw[<- HO.out];simp[R.itemE,h1,h2,h3],HA.out _⟩
theorem zf4 (w:World)(v:Value)(l:List R.Item)(R0:R.Its w v l) :
  Calls prog 244 #[v] w fun e w'=>e= .returned (.int .i64 (R.itemsE l))/\Below w.heap.size w w':=by
 have HR:=qH R0;obtain⟨ao,cap,rfl,_⟩:=R0;unfold R.itemsE
 by_cases hbig:20<l.length
 ·rw[if_pos hbig]
  go_enter func244,ntmps244
  go_wp2;go_ret
  exact⟨rfl,qR w⟩
 ·rw[if_neg hbig];obtain⟨o,HO⟩:∃o,Hid (R.firstE (l.map R.itemE)=o):=⟨_,rfl⟩;rw[HO.out]
  go_enter func244,ntmps244
  go_wp2
  go_loopw [11] (fun i wr=>∃k:Nat,k<=l.length/\i= .int .i64 k/\Hid (R.firstE ((l.drop k).map R.itemE)=o)/\Hid (Below w.heap.size w wr)) (fun i _=>l.length - (intOf i).toNat)
  case atStart=>exact⟨0,Nat.zero_le _,rfl,HO,qR w⟩
  case round =>
   obtain⟨k,hk,rfl,HE,HB⟩:=hrel
   by_cases hlt:k<l.length
   ·obtain⟨x,hx⟩:∃x,l[k]?=some x:=⟨l[k],by simp[hlt]⟩;obtain⟨ao',cap',e',hcs⟩:=HR.out.below HB.out;cases e';obtain⟨b,off,rfl,hcell⟩:=hcs (by intro h;subst h;simp at hlt);obtain⟨c0,c1,c3,⟨so,sc,c2,r2⟩,hf,_⟩:=hcell k x hx;have HE2:Hid _:=R.zkm hx;have hsz:=HB.out.size
    have HW:Hid (∀o,Calls prog 266 #[.agg #[.int .i64 x.kind,.int .i32 x.rune,.slice so x.set.length sc,.string x.name]] (wr.alloc o) fun e w'=>e= .returned (.int .i64 (R.itemE x))/\Below w.heap.size w w'):=fun o=>by
     refine(zg2 _ x so sc (R.zcu r2 (R.Keeps.alloc wr o)) hf).mono ?_;rintro e w' ⟨h1,h2⟩;exact⟨h1,(HB.out.alloc hsz o).trans (h2.mono (by simp;omega))⟩
    obtain⟨z,HZ⟩:∃z,Hid (R.itemE x=z):=⟨_,rfl⟩;rw[HZ.out] at HW HE2;clear hx hcell hcs r2 hf;obtain⟨xk,xr,xs,xn⟩:=x;simp only at c0 c1 c2 c3 HW
    go_wp2_with fail
    refine(HW.out _).mono ?_;rintro e w1 ⟨rfl,b1⟩
    by_cases hz:z=0
    ·subst hz;go_wp2
     go_roundw
     case rel=>exact⟨k+1,by omega,by go_num,by show _=_;rw[<- HE.out,HE2.out];simp,b1⟩
     case measure=>simp[intOf];omega
    ·go_wp2;go_ret
     exact⟨by rw[<- HE.out,HE2.out];simp[hz],b1⟩
   ·have hke:k=l.length:=by omega
    go_wp2;go_ret
    refine⟨?_,HB.out⟩;rw[<- HE.out,List.drop_eq_nil_of_le (by omega)];rfl
theorem zf5 (w:World)(v:Value)(s:R.Side)(R0:R.SdIs w v s) :
  Calls prog 246 #[v] w fun e w'=>e= .returned (.bool (R.around s))/\Below w.heap.size w w':=by
 obtain⟨bo,bc,so,sc,ao,ac,rfl,_⟩:=R0;obtain⟨st,fi,be,sr,af,cu⟩:=s;unfold R.around;simp only;have HA:=qH <| fun o=>(qR w).alloc qN o
 cases st with
 | true =>
  go_enter func246,ntmps246
  go_wp2;go_ret
  exact⟨by simp,HA.out _⟩
 | false =>
  cases fi with
  | true =>
   go_enter func246,ntmps246
   go_wp2;go_ret
   exact⟨by simp,HA.out _⟩
  | false =>
   by_cases h:0<be.length
   ·go_enter func246,ntmps246
    go_wp2;go_ret
    exact⟨by simp[h],HA.out _⟩
   ·go_enter func246,ntmps246
    go_wp2;go_ret
    exact⟨L.zak (by simp[h]),HA.out _⟩
theorem zru (w:World)(v:Value)(s:R.Side)(R0:R.SdIs w v s)(hl:s.source.length<=20) :
  Calls prog 245 #[v] w fun e w'=>e= .returned (.bool (R.gives s))/\Below w.heap.size w w':=by
 obtain⟨bo,bc,so,sc,ao,ac,rfl,_,hI,_⟩:=R0;obtain⟨st,fi,be,l,af,cu⟩:=s;simp only at hI hl ⊢;have HI:=qH hI;clear hI;have HA:=qH <| fun o=>(qR w).alloc qN o
 obtain⟨o,HO⟩:∃o,Hid (l.all (fun x=>decide (x.kind=1))=o):=⟨_,rfl⟩;have hgo:R.gives ⟨st,fi,be,l,af,cu⟩=o:=HO.out;rw[hgo];clear hgo
 go_enter func245,ntmps245
 go_wp2
 go_loopw [8] (fun i wr=>∃k:Nat,k<=l.length/\i= .int .i64 k/\Hid ((l.drop k).all (fun x=>decide (x.kind=1))=o)/\Hid (Below w.heap.size w wr)) (fun i _=>l.length - (intOf i).toNat)
 case atStart=>exact⟨0,Nat.zero_le _,rfl,HO,HA.out _⟩
 case round =>
  obtain⟨k,hk,rfl,HE,HB⟩:=hrel
  by_cases hlt:k<l.length
  ·obtain⟨x,hx⟩:∃x,l[k]?=some x:=⟨l[k],by simp[hlt]⟩;obtain⟨ao',cap',e',hcs⟩:=HI.out.below HB.out;cases e';obtain⟨b,off,rfl,hcell⟩:=hcs (by intro h;subst h;simp at hlt);obtain⟨c0,c1,c3,⟨so,sc,c2,r2⟩,hf,_⟩:=hcell k x hx
   have HE2:Hid ((l.drop k).all (fun x=>decide (x.kind=1))=(decide (x.kind=1)&&(l.drop (k+1)).all (fun x=>decide (x.kind=1)))):=by
    show _=_;rw[List.drop_eq_getElem_cons hlt];have:l[k]=x:=by rw[List.getElem?_eq_getElem hlt] at hx;exact Option.some.inj hx
    rw[this];rfl
   have hsz:=HB.out.size;have HB2:=qH <| fun o=>HB.out.alloc hsz o
   clear hx hcell hcs r2 hf;obtain⟨xk,xr,xs,xn⟩:=x;simp only at c0 c1 c2 c3
   by_cases hz:xk=1
   ·subst hz;go_wp2
    go_roundw
    case rel=>exact⟨k+1,by omega,by go_num,by show _=_;rw[<- HE.out,HE2.out];simp,HB2.out _⟩
    case measure=>simp[intOf];omega
   ·go_wp2;go_ret
    exact⟨L.zak (by rw[<- HE.out,HE2.out];simp[hz]),HB2.out _⟩
  ·go_wp2;go_ret
   refine⟨L.zak ?_,HB.out⟩;rw[<- HE.out,List.drop_eq_nil_of_le (by omega)];rfl
end
section
open Go.RowKit
theorem zdj {w:World}{v:Value}{l:List R.Item}(R0:R.Its w v l):∀w1,Below w.heap.size w w1->Calls prog 244 #[v] w1 fun e w'=>e= .returned (.int .i64 (R.itemsE l))/\Below w1.heap.size w1 w':=fun w1 hb=>zf4 w1 v l (R0.below hb)
theorem zg0 (w:World)(v:Value)(s:R.Side)(m:Bool)(R0:R.SdIs w v s) :
  Calls prog 224 #[v,.bool m] w fun e w'=>e= .returned (.int .i64 (R.sideE s m))/\Below w.heap.size w w':=by
 obtain⟨bo,bc,so,sc,ao,ac,rfl,hB,hS,hA,hcu⟩:=R0;have HIb:=qH <| zdj hB;have HIs:=qH <| zdj hS;have HIa:=qH <| zdj hA;have HA:=qH <| fun o=>(qR w).alloc qN o
 clear hB hS hA;obtain⟨st,fi,be,sr,af,cu⟩:=s;simp only at hcu HIb HIs HIa ⊢;obtain⟨o,HO⟩:∃o,Hid (R.sideE ⟨st,fi,be,sr,af,cu⟩ m=o):=⟨_,rfl⟩;obtain⟨zb,HZb⟩:∃z,Hid (R.itemsE be=z):=⟨_,rfl⟩;obtain⟨zs,HZs⟩:∃z,Hid (R.itemsE sr=z):=⟨_,rfl⟩;obtain⟨za,HZa⟩:∃z,Hid (R.itemsE af=z):=⟨_,rfl⟩
 have HE:Hid ((if zb≠0 then zb else if zs≠0 then zs else if za≠0 then za else if cu< -1∨(sr.length:Int)<cu then 3 else if m=true/\sr.length=0 then 6 else 0)=o):=by
  show _=_;rw[<- HO.out,<- HZb.out,<- HZs.out,<- HZa.out];rfl
 rw[HO.out];rw[HZb.out] at HIb;rw[HZs.out] at HIs;rw[HZa.out] at HIa;unfold R.I64 at hcu
 go_enter func224,ntmps224
 go_wp2_with fail
 refine(HIb.out _ (HA.out _)).mono ?_;rintro e w1 ⟨rfl,b1⟩;obtain⟨hb1,B1,hl1⟩:=R.zb0 b1;have HK1:Hid _:=hb1;have HB1:=qH B1;have q3:w1.cell? ⟨w.heap.size,3,none⟩=some (.slice so sr.length sc):=by rw[Lib.cell_of_heap hb1];rfl
 clear b1 hb1 B1
 by_cases hz1:zb=0
 ·subst hz1
  go_wp2_with fail
  refine(HIs.out _ HB1.out).mono ?_;rintro e w2 ⟨rfl,b2⟩;have hb2:=R.zcs HK1.out b2;have HK2:Hid _:=hb2;have HB2:=qH <| HB1.out.trans (b2.mono HB1.out.size);have q4:w2.cell? ⟨w.heap.size,4,none⟩=some (.slice ao af.length ac):=by rw[Lib.cell_of_heap hb2];rfl
  clear b2 hb2 HK1 q3
  by_cases hz2:zs=0
  ·subst hz2
   go_wp2_with fail
   refine(HIa.out _ HB2.out).mono ?_;rintro e w3 ⟨rfl,b3⟩;have hb3:=R.zcs HK2.out b3;have HB3:=qH <| HB2.out.trans (b3.mono HB2.out.size);have q5:w3.cell? ⟨w.heap.size,5,none⟩=some (.int .i64 cu):=by rw[Lib.cell_of_heap hb3];rfl
   have q3:w3.cell? ⟨w.heap.size,3,none⟩=some (.slice so sr.length sc):=by rw[Lib.cell_of_heap hb3];rfl
   clear b3 hb3 HK2 q4
   by_cases hz3:za=0
   ·subst hz3
    by_cases hc1:cu< -1
    ·go_wp2;go_ret
     exact⟨by rw[<- HE.out];simp[hc1],HB3.out⟩
    ·by_cases hc2:(sr.length:Int)<cu
     ·go_wp2;go_ret
      exact⟨by rw[<- HE.out];simp[hc2],HB3.out⟩
     ·cases m with
      | false =>
       go_wp2;go_ret
       exact⟨by (rw[<- HE.out,if_neg (by simp),if_neg (by simp),if_neg (by simp),if_neg (by omega),if_neg (by simp)];all_goals rfl),HB3.out⟩
      | true =>
       by_cases hn:sr.length=0
       ·have hn':((sr.length:Nat):Int)=0:=by omega
        go_wp2;go_ret
        refine⟨?_,HB3.out⟩;rw[<- HE.out,if_neg (by simp),if_neg (by simp),if_neg (by simp),if_neg (by omega),if_pos ⟨by trivial,hn⟩]
        all_goals rfl
       ·have hn':¬((sr.length:Nat):Int)=0:=by omega
        go_wp2;go_ret
        refine⟨?_,HB3.out⟩;rw[<- HE.out,if_neg (by simp),if_neg (by simp),if_neg (by simp),if_neg (by omega),if_neg (by omega)]
        all_goals rfl
   ·go_wp2;go_ret
    exact⟨by rw[<- HE.out];simp[hz3],HB3.out⟩
  ·go_wp2;go_ret
   exact⟨by rw[<- HE.out];simp[hz2],HB2.out⟩
 ·go_wp2;go_ret
  exact⟨by rw[<- HE.out];simp[hz1],HB1.out⟩
theorem zfa {w:World}{v:Value}{s:R.Side}(R0:R.SdIs w v s):∀w1 m,Below w.heap.size w w1->Calls prog 224 #[v,.bool m] w1 fun e w'=>e= .returned (.int .i64 (R.sideE s m))/\Below w1.heap.size w1 w':=fun w1 m hb=>zg0 w1 v s m (R0.below hb)
theorem zfu {w:World}{v:Value}{s:R.Side}(R0:R.SdIs w v s)(hl:s.source.length<=20):∀w1,Below w.heap.size w w1->Calls prog 245 #[v] w1 fun e w'=>e= .returned (.bool (R.gives s))/\Below w1.heap.size w1 w':=fun w1 hb=>zru w1 v s (R0.below hb) hl
theorem zes {w:World}{v:Value}{s:R.Side}(R0:R.SdIs w v s):∀w1,Below w.heap.size w w1->Calls prog 246 #[v] w1 fun e w'=>e= .returned (.bool (R.around s))/\Below w1.heap.size w1 w':=fun w1 hb=>zf5 w1 v s (R0.below hb)
theorem zux (w:World)(v:Value)(p:R.Part)(R0:R.PtIs w v p)(hl:p.left.source.length<=20)(hr:p.right.source.length<=20)(hd:p.dir=1∨p.dir=2∨p.dir=3) :
  Calls prog 225 #[v] w fun e w'=>e= .returned (.bool (R.fits p))/\Below w.heap.size w w':=by
 obtain⟨so,sc,lbo,lbc,lso,lsc,lao,lac,rbo,rbc,rso,rsc,rao,rac,rfl,_,_,hL,hR,_,_⟩:=R0.open;clear R0;have HA:=qH <| fun o=>(qR w).alloc qN o
 have HgL:=qH <| zfu hL hl;have HgR:=qH <| zfu hR hr;have HaL:=qH <| zes hL;have HaR:=qH <| zes hR;clear hL hR;obtain⟨pk,pn,ps,pd,pl,pr⟩:=p;simp only at HgL HgR HaL HaR hd ⊢;clear hl hr;obtain⟨o,HO⟩:∃o,Hid (R.fits ⟨pk,pn,ps,pd,pl,pr⟩=o):=⟨_,rfl⟩;rw[HO.out];obtain⟨gl,HGL⟩:∃z,Hid (R.gives pl=z):=⟨_,rfl⟩;obtain⟨gr,HGR⟩:∃z,Hid (R.gives pr=z):=⟨_,rfl⟩;obtain⟨al,HAL⟩:∃z,Hid (R.around pl=z):=⟨_,rfl⟩;obtain⟨ar,HAR⟩:∃z,Hid (R.around pr=z):=⟨_,rfl⟩
 have HF:Hid ((if pd=1 then gr&& !ar&&decide (pl.cursor<0) else if pd=2 then gl&& !al&&decide (pr.cursor<0) else gl&&gr)=o):=by
  show _=_;rw[<- HO.out,<- HGL.out,<- HGR.out,<- HAL.out,<- HAR.out];rfl
 rw[HGL.out] at HgL;rw[HGR.out] at HgR;rw[HAL.out] at HaL;rw[HAR.out] at HaR;clear HO HGL HGR HAL HAR;obtain⟨lst,lfi,lbe,lsr,laf,lcu⟩:=pl;obtain⟨rst,rfi,rbe,rsr,raf,rcu⟩:=pr;simp only at HgL HgR HaL HaR HF ⊢;rcases hd with rfl | rfl | rfl
 ·go_enter func225,ntmps225
  go_wp2_with fail
  refine(HgR.out _ (HA.out _)).mono ?_;rintro e w1 ⟨rfl,b1⟩;obtain⟨hb1,B1,hl1⟩:=R.zb0 b1;have q10:w1.cell? ⟨w.heap.size,10,none⟩=some (.bool rst):=by rw[Lib.cell_of_heap hb1];rfl
  have q11:w1.cell? ⟨w.heap.size,11,none⟩=some (.bool rfi):=by rw[Lib.cell_of_heap hb1];rfl
  have q12:w1.cell? ⟨w.heap.size,12,none⟩=some (.slice rbo rbe.length rbc):=by rw[Lib.cell_of_heap hb1];rfl
  have q13:w1.cell? ⟨w.heap.size,13,none⟩=some (.slice rso rsr.length rsc):=by rw[Lib.cell_of_heap hb1];rfl
  have q14:w1.cell? ⟨w.heap.size,14,none⟩=some (.slice rao raf.length rac):=by rw[Lib.cell_of_heap hb1];rfl
  have q15:w1.cell? ⟨w.heap.size,15,none⟩=some (.int .i64 rcu):=by rw[Lib.cell_of_heap hb1];rfl
  have q9:w1.cell? ⟨w.heap.size,9,none⟩=some (.int .i64 lcu):=by rw[Lib.cell_of_heap hb1];rfl
  have HK1:Hid _:=hb1;have HB1:=qH B1;clear b1 hb1 B1;cases gr with
  | false =>
   go_wp2;go_ret
   exact⟨L.zak (by rw[<- HF.out];simp),HB1.out⟩
  | true =>
   go_wp2_with fail
   refine(HaR.out _ HB1.out).mono ?_;rintro e w2 ⟨rfl,b2⟩;have hb2:=R.zcs HK1.out b2;have q9':w2.cell? ⟨w.heap.size,9,none⟩=some (.int .i64 lcu):=by rw[Lib.cell_of_heap hb2];rfl
   have HB2:=qH <| HB1.out.trans (b2.mono HB1.out.size);clear b2 hb2;cases ar with
   | true =>
    go_wp2;go_ret
    exact⟨L.zak (by rw[<- HF.out];simp),HB2.out⟩
   | false =>
    go_wp2;go_ret
    exact⟨L.zak (by rw[<- HF.out];simp),HB2.out⟩
 ·go_enter func225,ntmps225
  go_wp2_with fail
  refine(HgL.out _ (HA.out _)).mono ?_;rintro e w1 ⟨rfl,b1⟩;obtain⟨hb1,B1,hl1⟩:=R.zb0 b1;have q4:w1.cell? ⟨w.heap.size,4,none⟩=some (.bool lst):=by rw[Lib.cell_of_heap hb1];rfl
  have q5:w1.cell? ⟨w.heap.size,5,none⟩=some (.bool lfi):=by rw[Lib.cell_of_heap hb1];rfl
  have q6:w1.cell? ⟨w.heap.size,6,none⟩=some (.slice lbo lbe.length lbc):=by rw[Lib.cell_of_heap hb1];rfl
  have q7:w1.cell? ⟨w.heap.size,7,none⟩=some (.slice lso lsr.length lsc):=by rw[Lib.cell_of_heap hb1];rfl
  have q8:w1.cell? ⟨w.heap.size,8,none⟩=some (.slice lao laf.length lac):=by rw[Lib.cell_of_heap hb1];rfl
  have q9:w1.cell? ⟨w.heap.size,9,none⟩=some (.int .i64 lcu):=by rw[Lib.cell_of_heap hb1];rfl
  have q15:w1.cell? ⟨w.heap.size,15,none⟩=some (.int .i64 rcu):=by rw[Lib.cell_of_heap hb1];rfl
  have HK1:Hid _:=hb1;have HB1:=qH B1;clear b1 hb1 B1;cases gl with
  | false =>
   go_wp2;go_ret
   exact⟨L.zak (by rw[<- HF.out];simp),HB1.out⟩
  | true =>
   go_wp2_with fail
   refine(HaL.out _ HB1.out).mono ?_;rintro e w2 ⟨rfl,b2⟩;have hb2:=R.zcs HK1.out b2;have q15':w2.cell? ⟨w.heap.size,15,none⟩=some (.int .i64 rcu):=by rw[Lib.cell_of_heap hb2];rfl
   have HB2:=qH <| HB1.out.trans (b2.mono HB1.out.size);clear b2 hb2;cases al with
   | true =>
    go_wp2;go_ret
    exact⟨L.zak (by rw[<- HF.out];simp),HB2.out⟩
   | false =>
    go_wp2;go_ret
    exact⟨L.zak (by rw[<- HF.out];simp),HB2.out⟩
 ·go_enter func225,ntmps225
  go_wp2_with fail
  refine(HgL.out _ (HA.out _)).mono ?_;rintro e w1 ⟨rfl,b1⟩;obtain⟨hb1,B1,hl1⟩:=R.zb0 b1;have q10:w1.cell? ⟨w.heap.size,10,none⟩=some (.bool rst):=by rw[Lib.cell_of_heap hb1];rfl
  have q11:w1.cell? ⟨w.heap.size,11,none⟩=some (.bool rfi):=by rw[Lib.cell_of_heap hb1];rfl
  have q12:w1.cell? ⟨w.heap.size,12,none⟩=some (.slice rbo rbe.length rbc):=by rw[Lib.cell_of_heap hb1];rfl
  have q13:w1.cell? ⟨w.heap.size,13,none⟩=some (.slice rso rsr.length rsc):=by rw[Lib.cell_of_heap hb1];rfl
  have q14:w1.cell? ⟨w.heap.size,14,none⟩=some (.slice rao raf.length rac):=by rw[Lib.cell_of_heap hb1];rfl
  have q15:w1.cell? ⟨w.heap.size,15,none⟩=some (.int .i64 rcu):=by rw[Lib.cell_of_heap hb1];rfl
  have HB1:=qH B1;clear b1 hb1 B1;cases gl with
  | false =>
   go_wp2;go_ret
   exact⟨L.zak (by rw[<- HF.out];simp),HB1.out⟩
  | true =>
   go_wp2_with fail
   refine(HgR.out _ HB1.out).mono ?_;rintro e w2 ⟨rfl,b2⟩;have HB2:=qH <| HB1.out.trans (b2.mono HB1.out.size);clear b2;go_wp2;go_ret;exact⟨L.zak (by rw[<- HF.out];simp),HB2.out⟩
end
section
open Go.RowKit
theorem zvh {s:R.Side}{m:Bool}(h:R.sideE s m=0):s.source.length<=20:=(R.zbw.1 (R.zct h).2.1).1
theorem zg1 (w:World)(v:Value)(p:R.Part)(R0:R.PtIs w v p) :
  Calls prog 198 #[v] w fun e w'=>e= .returned (.int .i64 (R.ruleE p))/\Below w.heap.size w w':=by
 have HP:=qH <| fun w1 hb h1 h2 h3=>zux w1 v p (R0.below hb) h1 h2 h3
 obtain⟨so,sc,lbo,lbc,lso,lsc,lao,lac,rbo,rbc,rso,rsc,rao,rac,rfl,_,_,hL,hR,_,_⟩:=R0.open;clear R0;have HA:=qH <| fun o=>(qR w).alloc qN o
 have HL:=qH <| zfa hL;have HR:=qH <| zfa hR;clear hL hR;obtain⟨o,HO⟩:∃o,Hid (R.ruleE p=o):=⟨_,rfl⟩;rw[HO.out]
 by_cases hd:p.dir=1∨p.dir=2∨p.dir=3
 ·obtain⟨zl,HZl⟩:∃z,Hid (R.sideE p.left (decide (p.dir≠2))=z):=⟨_,rfl⟩;obtain⟨zr,HZr⟩:∃z,Hid (R.sideE p.right (decide (p.dir≠1))=z):=⟨_,rfl⟩;obtain⟨ft,HF⟩:∃z,Hid (R.fits p=z):=⟨_,rfl⟩
  have HE:Hid ((if zl≠0 then zl else if zr≠0 then zr else if ft=true then 0 else 8)=o):=by
   show _=_;rw[<- HO.out,<- HZl.out,<- HZr.out,<- HF.out];unfold R.ruleE;exact(if_neg (by omega)).symm
  have HLd:=qH <| fun w1 hb=>by
   have:=HL.out w1 (decide (p.dir≠2)) hb;rw[HZl.out] at this;exact this
  have HRd:=qH <| fun w1 hb=>by
   have:=HR.out w1 (decide (p.dir≠1)) hb;rw[HZr.out] at this;exact this
  have HFd:Hid (zl=0->zr=0->∀w1,Below w.heap.size w w1->Calls prog 225 #[.agg #[.int .i64 p.kind,.string p.name,.slice so p.set.length sc,.int .i64 p.dir,.bool p.left.start,.bool p.left.fin,.slice lbo p.left.before.length lbc,.slice lso p.left.source.length lsc,.slice lao p.left.after.length lac,.int .i64 p.left.cursor,.bool p.right.start,.bool p.right.fin,.slice rbo p.right.before.length rbc,.slice rso p.right.source.length rsc,.slice rao p.right.after.length rac,.int .i64 p.right.cursor]] w1 fun e w'=>e= .returned (.bool ft)/\Below w1.heap.size w1 w'):=fun h1 h2 w1 hb=>by
   rw[<- HF.out];exact HP.out w1 hb (zvh (by rw[<- h1];exact HZl.out)) (zvh (by rw[<- h2];exact HZr.out)) hd
  clear HP HL HR HO HZl HZr HF;obtain⟨pk,pn,ps,pd,⟨lst,lfi,lbe,lsr,laf,lcu⟩,⟨rst,rfi,rbe,rsr,raf,rcu⟩⟩:=p;simp only at hd HLd HRd HFd ⊢;have hdd:(pd==1)=decide (pd=1)/\(pd==2)=decide (pd=2):=⟨rfl,rfl⟩;rcases hd with rfl | rfl | rfl
  all_goals
   go_enter func198,ntmps198
   go_wp2_with fail
   refine(HLd.out _ (HA.out _)).mono ?_;rintro e w1 ⟨rfl,b1⟩;obtain⟨hb1,B1,hl1⟩:=R.zb0 b1;have q3:=R.zah (i:=3) hb1 rfl;have q10:w1.cell? ⟨w.heap.size,10,none⟩=some (.bool rst):=by rw[Lib.cell_of_heap hb1];rfl
   have q11:w1.cell? ⟨w.heap.size,11,none⟩=some (.bool rfi):=by rw[Lib.cell_of_heap hb1];rfl
   have q12:w1.cell? ⟨w.heap.size,12,none⟩=some (.slice rbo rbe.length rbc):=by rw[Lib.cell_of_heap hb1];rfl
   have q13:w1.cell? ⟨w.heap.size,13,none⟩=some (.slice rso rsr.length rsc):=by rw[Lib.cell_of_heap hb1];rfl
   have q14:w1.cell? ⟨w.heap.size,14,none⟩=some (.slice rao raf.length rac):=by rw[Lib.cell_of_heap hb1];rfl
   have q15:w1.cell? ⟨w.heap.size,15,none⟩=some (.int .i64 rcu):=by rw[Lib.cell_of_heap hb1];rfl
   have HK1:Hid _:=hb1;have HB1:=qH B1;clear b1 hb1 B1
   by_cases hz1:zl=0
   ·subst hz1
    go_wp2_with fail
    refine(HRd.out _ HB1.out).mono ?_;rintro e w2 ⟨rfl,b2⟩;have hb2:=R.zcs HK1.out b2;have HB2:=qH <| HB1.out.trans (b2.mono HB1.out.size);clear q3 q10 q11 q12 q13 q14 q15 HK1 b2;have p0:=R.zah (i:=0) hb2 rfl;have p1:=R.zah (i:=1) hb2 rfl;have p2:=R.zah (i:=2) hb2 rfl;have p3:=R.zah (i:=3) hb2 rfl;have p4:=R.zah (i:=4) hb2 rfl;have p5:=R.zah (i:=5) hb2 rfl;have p6:=R.zah (i:=6) hb2 rfl;have p7:=R.zah (i:=7) hb2 rfl;have p8:=R.zah (i:=8) hb2 rfl;have p9:=R.zah (i:=9) hb2 rfl;have p10:=R.zah (i:=10) hb2 rfl;have p11:=R.zah (i:=11) hb2 rfl;have p12:=R.zah (i:=12) hb2 rfl;have p13:=R.zah (i:=13) hb2 rfl;have p14:=R.zah (i:=14) hb2 rfl;have p15:=R.zah (i:=15) hb2 rfl;clear hb2
    by_cases hz2:zr=0
    ·subst hz2
     go_wp2_with fail
     refine(HFd.out (by trivial) (by trivial) _ HB2.out).mono ?_;rintro e w3 ⟨rfl,b3⟩;have HB3:=qH <| HB2.out.trans (b3.mono HB2.out.size);clear b3;cases ft with
     | true =>
      go_wp2;go_ret
      exact⟨by rw[<- HE.out];rfl,HB3.out⟩
     | false =>
      go_wp2;go_ret
      exact⟨by rw[<- HE.out];rfl,HB3.out⟩
    ·go_wp2;go_ret
     exact⟨by rw[<- HE.out];simp[hz2],HB2.out⟩
   ·go_wp2;go_ret
    exact⟨by rw[<- HE.out];simp[hz1],HB1.out⟩
 ·have HE:Hid ((1:Int)=o):=by
   show _=_;rw[<- HO.out];unfold R.ruleE;rw[if_pos (by omega)]
  clear HP HL HR HO;obtain⟨pk,pn,ps,pd,⟨lst,lfi,lbe,lsr,laf,lcu⟩,⟨rst,rfi,rbe,rsr,raf,rcu⟩⟩:=p;simp only at hd ⊢;have h1:(pd != 1)=true:=by simp;omega
  have h2:(pd != 2)=true:=by simp;omega
  have h3:(pd != 3)=true:=by simp;omega
  go_enter func198,ntmps198
  go_wp2;go_ret
  exact⟨by rw[<- HE.out];rfl,HA.out _⟩
theorem zdo (w:World)(v:Value)(p:R.Part)(R0:R.PtIs w v p) :
  Calls prog 161 #[v] w fun e w'=>e= .returned (.int .i64 (R.partE p))/\Below w.heap.size w w':=by
 have HP:=qH <| fun w1 hb=>zg1 w1 v p (R0.below hb)
 obtain⟨so,sc,lbo,lbc,lso,lsc,lao,lac,rbo,rbc,rso,rsc,rao,rac,rfl,hS,hf,_,_,_,_⟩:=R0.open;clear R0;have HA:=qH <| fun o=>(qR w).alloc qN o
 have HW:=qH <| fun w1 hb=>zb4 w1 _ p.set (hS.below hb qN) hf
 clear hS hf;obtain⟨o,HO⟩:∃o,Hid (R.partE p=o):=⟨_,rfl⟩;rw[HO.out];obtain⟨pk,pn,ps,pd,⟨lst,lfi,lbe,lsr,laf,lcu⟩,⟨rst,rfi,rbe,rsr,raf,rcu⟩⟩:=p;simp only at HP HW ⊢;have hsz:∀(o:Obj),(w.alloc o).heap.size=w.heap.size+1:=fun o=>by simp
 have HSz:=qH hsz;clear hsz
 by_cases h1:pk=1
 ·subst h1;cases hn:R.named pn with
  | true =>
   have HN:=qH hn;clear hn
   go_enter func161,ntmps161
   go_wp2_with fail
   refine(zd0 pn _).mono ?_;rintro e w1 ⟨rfl,b1⟩;obtain⟨hb1,B1,hl1⟩:=R.zb0 b1;have q2:w1.cell? ⟨w.heap.size,2,none⟩=some (.slice so ps.length sc):=by rw[Lib.cell_of_heap hb1];rfl
   have HB1:=qH B1;clear b1 hb1 B1;rw[HN.out]
   go_wp2_with fail
   refine(HW.out _ HB1.out).mono ?_;rintro e w2 ⟨rfl,b2⟩;have HB2:=qH <| HB1.out.trans (b2.mono HB1.out.size);clear b2;go_wp2;go_ret;exact⟨by rw[<- HO.out];simp[R.partE,HN.out],HB2.out⟩
  | false =>
   have HN:=qH hn;clear hn
   go_enter func161,ntmps161
   go_wp2_with fail
   refine(zd0 pn _).mono ?_;rintro e w1 ⟨rfl,b1⟩;obtain⟨hb1,B1,hl1⟩:=R.zb0 b1;have HB1:=qH B1;clear b1 hb1 B1;rw[HN.out];go_wp2;go_ret;exact⟨by rw[<- HO.out];simp[R.partE,HN.out],HB1.out⟩
 ·by_cases h3:pk=3
  ·subst h3
   go_enter func161,ntmps161
   go_wp2_with fail
   refine(HW.out _ (HA.out _)).mono ?_;rintro e w2 ⟨rfl,b2⟩;have HB2:=qH <| (HA.out _).trans (b2.mono (by rw[HSz.out];omega));clear b2;go_wp2;go_ret;exact⟨by rw[<- HO.out];simp[R.partE],HB2.out⟩
  ·by_cases h4:pk=4
   ·subst h4;cases hn:R.passes pn with
    | true =>
     have HN:=qH hn;clear hn
     go_enter func161,ntmps161
     go_wp2_with (go_at_call 197;refine(zeg pn _).mono ?_;rintro e w1 ⟨rfl,rfl⟩;rw[HN.out])
     go_ret;exact⟨by rw[<- HO.out];simp[R.partE,HN.out],HA.out _⟩
    | false =>
     have HN:=qH hn;clear hn
     go_enter func161,ntmps161
     go_wp2_with (go_at_call 197;refine(zeg pn _).mono ?_;rintro e w1 ⟨rfl,rfl⟩;rw[HN.out])
     go_ret;exact⟨by rw[<- HO.out];simp[R.partE,HN.out],HA.out _⟩
   ·by_cases h2:pk=2
    ·subst h2
     go_enter func161,ntmps161
     go_wp2_with fail
     refine(HP.out _ (HA.out _)).mono ?_;rintro e w2 ⟨rfl,b2⟩;have HB2:=qH <| (HA.out _).trans (b2.mono (by rw[HSz.out];omega));clear b2;go_wp2;go_ret;exact⟨by rw[<- HO.out];simp[R.partE],HB2.out⟩
    ·go_enter func161,ntmps161
     go_wp2;go_ret
     exact⟨by rw[<- HO.out];simp[R.partE,h1,h2,h3,h4],HA.out _⟩
theorem zjm (w:World)(v:Value)(l:List R.Part)(R0:R.Pts w v l) :
  Calls prog 111 #[v] w fun e w'=>e= .returned (.agg #[.int .i64 (R.wrong l).1,.int .i64 (R.wrong l).2])/\Below w.heap.size w w':=by
 have HR:=qH R0;obtain⟨ao,cap,rfl⟩:=R0.len;clear R0;have HA:=qH <| fun o=>(qR w).alloc qN o
 unfold R.wrong
 by_cases hbig:200<l.length
 ·rw[if_pos hbig]
  go_enter func111,ntmps111
  go_wp2;refine bodyPost_ret (v:= .agg #[.int .i64 5,.int .i64 0]) (by simp[results,results111,go_sem]) rfl ?_
  exact⟨rfl,HA.out _⟩
 ·rw[if_neg hbig];obtain⟨⟨o1,o2⟩,HO⟩:∃o,Hid (R.firstW 0 l=o):=⟨_,rfl⟩;rw[HO.out]
  go_enter func111,ntmps111
  go_wp2
  go_loopw [12] (fun i wr=>∃k:Nat,k<=l.length/\i= .int .i64 k/\Hid (R.firstW k (l.drop k)=(o1,o2))/\Hid (Below w.heap.size w wr)/\Hid (wr.heap[w.heap.size]?=some (.cells #[.int .i64 0,.int .i64 0] 38))) (fun i _=>l.length - (intOf i).toNat)
  case atStart=>exact⟨0,Nat.zero_le _,rfl,HO,HA.out _,heap_alloc_new w _⟩
  case round =>
   obtain⟨k,hk,rfl,HE,HB,HX⟩:=hrel;have hX:=HX.out
   by_cases hlt:k<l.length
   ·obtain⟨p,hp⟩:∃x,l[k]?=some x:=⟨l[k],by simp[hlt]⟩;obtain⟨ao',cap',e',hcs⟩:=HR.out.below HB.out;cases e';obtain⟨b,off,rfl,hcell⟩:=hcs (by intro h;subst h;simp at hlt);obtain⟨so,sc,lbo,lbc,lso,lsc,lao,lac,rbo,rbc,rso,rsc,rao,rac,c0,c1,c2,c3,c4,c5,c6,c7,c8,c9,c10,c11,c12,c13,c14,c15,hP⟩:=hcell k p hp;have HE2:=qH <| R.zkw hp;have hsz:=HB.out.size;have HW:=qH <| fun o=>zdo _ _ p (hP.keeps (R.Keeps.alloc wr o))
    obtain⟨z,HZ⟩:∃z,Hid (R.partE p=z):=⟨_,rfl⟩;rw[HZ.out] at HW HE2;clear hp hcell hcs hP hX;obtain⟨pk,pn,ps,pd,⟨lst,lfi,lbe,lsr,laf,lcu⟩,⟨rst,rfi,rbe,rsr,raf,rcu⟩⟩:=p;simp only at c0 c1 c2 c3 c4 c5 c6 c7 c8 c9 c10 c11 c12 c13 c14 c15 HW
    go_wp2_with fail
    refine(HW.out _).mono ?_;rintro e w1 ⟨rfl,b1⟩;obtain⟨_,B1,hl1⟩:=R.zb0 b1
    have hX1:w1.heap[w.heap.size]?=some (.cells #[.int .i64 0,.int .i64 0] 38):=by
     rw[B1.block _ (qA.1 HX.out).1];exact HX.out
    have HB1:=qH <| HB.out.trans (B1.mono hsz);have HX1:Hid _:=hX1;obtain⟨x0,x1,f0,f1⟩:=R.box2 hX1;clear b1 B1 hX1
    by_cases hz:z=0
    ·subst hz;go_wp2
     go_roundw
     case rel=>exact⟨k+1,by omega,by go_num,by show _=_;rw[<- HE.out,HE2.out];simp,HB1,HX1⟩
     case measure=>simp[intOf];omega
    ·go_wp2;refine bodyPost_ret (v:= .agg #[.int .i64 z,.int .i64 k]) (by simp[results,results111,go_sem, *]) rfl ?_
     have h:=HE2.out;rw[HE.out,if_neg hz] at h;cases h;exact⟨rfl,(HB1.out.setCell (p:=⟨w.heap.size,0,none⟩) qN _).setCell (p:=⟨w.heap.size,1,none⟩) qN _⟩
   ·obtain⟨x0,x1,f0,f1⟩:=R.box2 hX;have h:=HE.out;rw[List.drop_eq_nil_of_le (by omega)] at h;cases h;go_wp2;refine bodyPost_ret (v:= .agg #[.int .i64 0,.int .i64 0]) (by simp[results,results111,go_sem, *]) rfl ?_;exact⟨rfl,(HB.out.setCell (p:=⟨w.heap.size,0,none⟩) qN _).setCell (p:=⟨w.heap.size,1,none⟩) qN _⟩
end
section
open Go.RowKit
theorem znk {n:ByteArray}(h:R.passes n=true):n.size<=20:=by
 unfold R.passes at h;have h:=of_decide_eq_true h;have e:n.toList.length=n.size:=by rw[ByteArray.toList_eq];simp
 rcases h with h | h | h | h <;> rw[h] at e <;> simp at e <;> omega
theorem zsz (hK:T.ClassOk)(w:World)(cb tb cap p:Nat)(ao:Option Addr)(l:List Int)(hne:l≠ [])(C:T.Cur w cb tb cap ao l p) :
  Calls prog 192 #[.pointer (some ⟨cb,0,none⟩)] w (T.Ends w cb tb cap ao l (R.wholeAt l p) (R.isPart w.heap.size)):=by
 obtain⟨he1,he2⟩:=C.elder;have HE2:=qH he2;have HK:=qH hK;have HC:=qH C;clear C he2 hK;have n1:¬w.heap.size=cb:=by omega
 have HT1:Hid (l≠ []->w.heap.size≠tb):=fun h=>by have:=HE2.out h;omega
 obtain⟨o,HO⟩:∃o,Hid (R.wholeAt l p=o):=⟨_,rfl⟩;rw[HO.out]
 go_enter func192,ntmps192
 go_wp2_with fail
 have bA:=(qR w).alloc qN (.cells #[.int .i64 0,.string ⟨#[]⟩,.slice none 0 0,.int .i64 0,.bool false,.bool false,.slice none 0 0,.slice none 0 0,.slice none 0 0,.int .i64 0,.bool false,.bool false,.slice none 0 0,.slice none 0 0,.slice none 0 0,.int .i64 0] 196);have x2:(w.alloc (.cells #[.int .i64 0,.string ⟨#[]⟩,.slice none 0 0,.int .i64 0,.bool false,.bool false,.slice none 0 0,.slice none 0 0,.slice none 0 0,.int .i64 0,.bool false,.bool false,.slice none 0 0,.slice none 0 0,.slice none 0 0,.int .i64 0] 196)).heap[w.heap.size]?=some (.cells #[.int .i64 0,.string ⟨#[]⟩,.slice none 0 0,.int .i64 0,.bool false,.bool false,.slice none 0 0,.slice none 0 0,.slice none 0 0,.int .i64 0,.bool false,.bool false,.slice none 0 0,.slice none 0 0,.slice none 0 0,.int .i64 0] 196):=heap_alloc_new w _;have CW:=HC.out.below bA;have GW:w.grownBy _ (some cb):=S.zad bA;have hFW:w.heap.size+1<=(w.alloc (.cells #[.int .i64 0,.string ⟨#[]⟩,.slice none 0 0,.int .i64 0,.bool false,.bool false,.slice none 0 0,.slice none 0 0,.slice none 0 0,.int .i64 0,.bool false,.bool false,.slice none 0 0,.slice none 0 0,.slice none 0 0,.int .i64 0] 196)).heap.size:=by simp
 refine(zbq _ cb tb cap p ao l 91 CW).mono ?_;generalize w.alloc (.cells #[.int .i64 0,.string ⟨#[]⟩,.slice none 0 0,.int .i64 0,.bool false,.bool false,.slice none 0 0,.slice none 0 0,.slice none 0 0,.int .i64 0,.bool false,.bool false,.slice none 0 0,.slice none 0 0,.slice none 0 0,.int .i64 0] 196)=W0 at bA x2 CW GW hFW;clear bA;rintro e w1 ⟨rfl,b1⟩;have x21:=R.zae x2 b1;have C1:=CW.below b1;have c1:=C1.cell1;have G1:=S.zaa GW (S.zad (r:=some cb) b1);have hF1:w.heap.size+1<=w1.heap.size:=by have:=b1.size;omega
 clear x2 CW GW b1 hFW;have hpl:=C1.le;have hln:=C1.len
 by_cases h91:T.see l p=91
 ·clear c1;have HX1:Hid _:=x21;have HC1:Hid _:=C1;have HG1:Hid _:=G1;clear x21 C1 G1
  go_wp2_with fail
  refine(zlf HK.out _ cb tb cap p ao l HC1.out).mono ?_;intro e w2 h;cases hc:T.setN 20 l p with
  | bad er q =>
   rw[hc] at h;obtain⟨rfl,g2⟩:=h;unfold T.thrown;go_wp2;refine⟨rfl,?_⟩;rw[<- HO.out];unfold R.wholeAt;rw[if_pos h91,hc];exact⟨rfl,S.zaa HG1.out g2⟩
  | ok s q =>
   rw[hc] at h;obtain⟨v2,rfl,⟨⟨hr2,hn2,_⟩,hf2⟩,C2,g2⟩:=h;obtain⟨so,sc,hv2⟩:=hr2.len;subst hv2;have HS2:=qH <| R.zdw hr2 (hf2.mono hF1);have HF2:=qH <| S.Fit.zdd hn2 (Int.le_refl _);have X2:=R.zaf HX1.out g2 n1;have G2:=S.zaa HG1.out g2;have HH:Hid _:=hc;clear hc hr2 hn2 hf2 g2;have k0:=R.zab (i:=0) X2 rfl;have fk0:=R.zac (i:=0) X2;have k1:=R.zab (i:=1) X2 rfl;have fk1:=R.zac (i:=1) X2;have k2:=R.zab (i:=2) X2 rfl;have fk2:=R.zac (i:=2) X2;have k3:=R.zab (i:=3) X2 rfl;have fk3:=R.zac (i:=3) X2;have k4:=R.zab (i:=4) X2 rfl;have fk4:=R.zac (i:=4) X2;have k5:=R.zab (i:=5) X2 rfl;have fk5:=R.zac (i:=5) X2;have k6:=R.zab (i:=6) X2 rfl;have fk6:=R.zac (i:=6) X2;have k7:=R.zab (i:=7) X2 rfl;have fk7:=R.zac (i:=7) X2;have k8:=R.zab (i:=8) X2 rfl;have fk8:=R.zac (i:=8) X2;have k9:=R.zab (i:=9) X2 rfl;have fk9:=R.zac (i:=9) X2;have k10:=R.zab (i:=10) X2 rfl;have fk10:=R.zac (i:=10) X2;have k11:=R.zab (i:=11) X2 rfl;have fk11:=R.zac (i:=11) X2;have k12:=R.zab (i:=12) X2 rfl;have fk12:=R.zac (i:=12) X2;have k13:=R.zab (i:=13) X2 rfl;have fk13:=R.zac (i:=13) X2;have k14:=R.zab (i:=14) X2 rfl;have fk14:=R.zac (i:=14) X2;have k15:=R.zab (i:=15) X2 rfl;have fk15:=R.zac (i:=15) X2;have HXe:Hid _:=X2;have HCe:Hid _:=C2;have HGe:Hid _:=G2;clear X2 C2 G2;go_wp2;obtain⟨hbx,hgr⟩:=R.put16 HXe.out (.int .i64 3) (.string ⟨#[]⟩) (.slice so s.length sc) (.int .i64 0) (.bool false) (.bool false) (.slice none 0 0) (.slice none 0 0) (.slice none 0 0) (.int .i64 0) (.bool false) (.bool false) (.slice none 0 0) (.slice none 0 0) (.slice none 0 0) (.int .i64 0);refine bodyPost_ret (R.za1 rfl _ _ w.heap.size #[.int .i64 3,.string ⟨#[]⟩,.slice so s.length sc,.int .i64 0,.bool false,.bool false,.slice none 0 0,.slice none 0 0,.slice none 0 0,.int .i64 0,.bool false,.bool false,.slice none 0 0,.slice none 0 0,.slice none 0 0,.int .i64 0] hbx underlying196 (by kernel_rfl) rfl) rfl ?_;rw[<- HO.out];unfold R.wholeAt;rw[if_pos h91,HH.out];exact⟨_,rfl,⟨⟨so,sc,none,0,none,0,none,0,none,0,none,0,none,0,rfl⟩,((HS2.out.cur hgr (by omega)).down (F':=w.heap.size) (by omega)).imp fun w' h=>⟨so,sc,_,_,_,_,_,_,_,_,_,_,_,_,rfl,h,HF2.out,R.zb9 w',R.zb9 w',Nat.zero_le _,by simp[R.I64]⟩⟩,HCe.out.apart hgr n1 HT1.out,R.zal HGe.out hgr qN⟩
 ·have HX1:Hid _:=x21;have HC1:Hid _:=C1;have HG1:Hid _:=G1;clear x21 C1 G1
  go_wp2_with fail
  refine(zlh _ cb tb cap p ao l hne HC1.out).mono ?_;rintro e w2 ⟨rfl,C2,g2⟩;obtain⟨n,HN⟩:∃n,Hid (R.wordAt l p=n):=⟨_,rfl⟩;rw[HN.out];have HX2:Hid _:=R.zaf HX1.out g2 n1;have HG2:Hid _:=S.zaa HG1.out g2;have HC2:Hid _:=C2;clear C2 g2 c1
  go_wp2_with fail
  refine(zeg n _).mono ?_;rintro e w3 ⟨rfl,rfl⟩;have X3:=HX2.out;have C3:=HC2.out;have G3:=HG2.out
  by_cases hps:R.passes n=true
  ·have hnm:=znk hps;have HNm:=qH hnm;clear hnm;have k0:=R.zab (i:=0) X3 rfl;have fk0:=R.zac (i:=0) X3;have k1:=R.zab (i:=1) X3 rfl;have fk1:=R.zac (i:=1) X3;have k2:=R.zab (i:=2) X3 rfl;have fk2:=R.zac (i:=2) X3;have k3:=R.zab (i:=3) X3 rfl;have fk3:=R.zac (i:=3) X3;have k4:=R.zab (i:=4) X3 rfl;have fk4:=R.zac (i:=4) X3;have k5:=R.zab (i:=5) X3 rfl;have fk5:=R.zac (i:=5) X3;have k6:=R.zab (i:=6) X3 rfl;have fk6:=R.zac (i:=6) X3;have k7:=R.zab (i:=7) X3 rfl;have fk7:=R.zac (i:=7) X3;have k8:=R.zab (i:=8) X3 rfl;have fk8:=R.zac (i:=8) X3;have k9:=R.zab (i:=9) X3 rfl;have fk9:=R.zac (i:=9) X3;have k10:=R.zab (i:=10) X3 rfl;have fk10:=R.zac (i:=10) X3;have k11:=R.zab (i:=11) X3 rfl;have fk11:=R.zac (i:=11) X3;have k12:=R.zab (i:=12) X3 rfl;have fk12:=R.zac (i:=12) X3;have k13:=R.zab (i:=13) X3 rfl;have fk13:=R.zac (i:=13) X3;have k14:=R.zab (i:=14) X3 rfl;have fk14:=R.zac (i:=14) X3;have k15:=R.zab (i:=15) X3 rfl;have fk15:=R.zac (i:=15) X3;have HXe:Hid _:=X3;have HCe:Hid _:=C3;have HGe:Hid _:=G3;clear X3 C3 G3;go_wp2;obtain⟨hbx,hgr⟩:=R.put16 HXe.out (.int .i64 4) (.string n) (.slice none 0 0) (.int .i64 0) (.bool false) (.bool false) (.slice none 0 0) (.slice none 0 0) (.slice none 0 0) (.int .i64 0) (.bool false) (.bool false) (.slice none 0 0) (.slice none 0 0) (.slice none 0 0) (.int .i64 0);refine bodyPost_ret (R.za1 rfl _ _ w.heap.size #[.int .i64 4,.string n,.slice none 0 0,.int .i64 0,.bool false,.bool false,.slice none 0 0,.slice none 0 0,.slice none 0 0,.int .i64 0,.bool false,.bool false,.slice none 0 0,.slice none 0 0,.slice none 0 0,.int .i64 0] hbx underlying196 (by kernel_rfl) rfl) rfl ?_;rw[<- HO.out];unfold R.wholeAt;rw[if_neg h91,HN.out,if_pos hps];exact⟨_,rfl,⟨⟨none,0,none,0,none,0,none,0,none,0,none,0,none,0,rfl⟩,fun w' _=>⟨none,0,_,_,_,_,_,_,_,_,_,_,_,_,rfl,S.Rd.nil w',(fun x hx=>(by cases hx)),R.zb9 w',R.zb9 w',by have:=HNm.out;simp only;omega,by simp[R.I64]⟩⟩,HCe.out.apart hgr n1 HT1.out,R.zal HGe.out hgr qN⟩
  ·have HG3:Hid _:=G3;clear X3 C3 G3
   go_wp2_with (go_at_call 58;refine(zas _ 7 p).mono ?_;unfold T.thrown;rintro e w4 ⟨rfl,rfl⟩)
   refine⟨rfl,?_⟩;rw[<- HO.out];unfold R.wholeAt;rw[if_neg h91,HN.out,if_neg hps];exact⟨rfl,HG3.out⟩
theorem zwl (hK:T.ClassOk)(w:World)(cb tb cap p:Nat)(ao:Option Addr)(l:List Int)(C:T.Cur w cb tb cap ao l p) :
  Calls prog 159 #[.pointer (some ⟨cb,0,none⟩)] w (T.Ends w cb tb cap ao l (R.part l p) (R.isPart w.heap.size)):=by
 obtain⟨he1,he2⟩:=C.elder;have HE2:=qH he2;have HK:=qH hK;have HC:=qH C;clear C he2 hK;have n1:¬w.heap.size=cb:=by omega
 have HT1:Hid (l≠ []->w.heap.size≠tb):=fun h=>by have:=HE2.out h;omega
 obtain⟨o,HO⟩:∃o,Hid (R.part l p=o):=⟨_,rfl⟩;rw[HO.out]
 go_enter func159,ntmps159
 go_wp2_with fail
 have bA:=(qR w).alloc qN (.cells #[.int .i64 0,.string ⟨#[]⟩,.slice none 0 0,.int .i64 0,.bool false,.bool false,.slice none 0 0,.slice none 0 0,.slice none 0 0,.int .i64 0,.bool false,.bool false,.slice none 0 0,.slice none 0 0,.slice none 0 0,.int .i64 0] 196);have x2:(w.alloc (.cells #[.int .i64 0,.string ⟨#[]⟩,.slice none 0 0,.int .i64 0,.bool false,.bool false,.slice none 0 0,.slice none 0 0,.slice none 0 0,.int .i64 0,.bool false,.bool false,.slice none 0 0,.slice none 0 0,.slice none 0 0,.int .i64 0] 196)).heap[w.heap.size]?=some (.cells #[.int .i64 0,.string ⟨#[]⟩,.slice none 0 0,.int .i64 0,.bool false,.bool false,.slice none 0 0,.slice none 0 0,.slice none 0 0,.int .i64 0,.bool false,.bool false,.slice none 0 0,.slice none 0 0,.slice none 0 0,.int .i64 0] 196):=heap_alloc_new w _;have CW:=HC.out.below bA;have GW:w.grownBy _ (some cb):=S.zad bA;have hFW:w.heap.size+1<=(w.alloc (.cells #[.int .i64 0,.string ⟨#[]⟩,.slice none 0 0,.int .i64 0,.bool false,.bool false,.slice none 0 0,.slice none 0 0,.slice none 0 0,.int .i64 0,.bool false,.bool false,.slice none 0 0,.slice none 0 0,.slice none 0 0,.int .i64 0] 196)).heap.size:=by simp
 refine(zan _ cb tb cap p ao l 58 (by decide) CW).mono ?_;generalize w.alloc (.cells #[.int .i64 0,.string ⟨#[]⟩,.slice none 0 0,.int .i64 0,.bool false,.bool false,.slice none 0 0,.slice none 0 0,.slice none 0 0,.int .i64 0,.bool false,.bool false,.slice none 0 0,.slice none 0 0,.slice none 0 0,.int .i64 0] 196)=W0 at bA x2 CW GW hFW;clear bA;rintro e w1 ⟨rfl,C1,g1⟩;have HX1:Hid _:=R.zaf x2 g1 n1;have HG1:=qH <| S.zaa GW g1;have hF1:w.heap.size+1<=w1.heap.size:=by have:=g1.size;omega
 clear x2 GW g1 CW
 by_cases h58:T.see l p=58
 ·rw[if_pos h58] at C1;have HC1:=qH C1;have hne:l≠ []:=by intro h;subst h;cases h58
  clear C1
  by_cases h582:T.see l (p+1)=58
  ·go_wp2_with fail
   refine(zay _ cb tb cap (p+1) ao l 58 (by decide) HC1.out h582).mono ?_;rintro e w2 ⟨rfl,C2,g2⟩;have HX2:Hid _:=R.zaf HX1.out g2 n1;have HG2:=qH <| S.zaa HG1.out g2;have HC2:Hid (T.Cur w2 cb tb cap ao l (p+2)):=C2;have hF2:w.heap.size+1<=w2.heap.size:=by have:=g2.size;omega
   clear C2 g2
   go_wp2_with fail
   refine(zax _ cb tb cap (p+2) ao l HC2.out).mono ?_;rintro e w3 ⟨rfl,C3,g3⟩;have HX3:Hid _:=R.zaf HX2.out g3 n1;have HG3:=qH <| S.zaa HG2.out g3;have HC3:=qH C3;have hF3:w.heap.size+1<=w3.heap.size:=by have:=g3.size;omega
   clear C3 g3
   go_wp2_with fail
   refine(zsz HK.out _ cb tb cap (R.gap l (p+2)) ao l hne HC3.out).mono ?_;intro e w4 h;have hoe:R.wholeAt l (R.gap l (p+2))=o:=by rw[<- HO.out];unfold R.part;rw[if_pos h58,if_neg (by simp[h582])]
   rw[hoe] at h;cases o with
   | bad er q =>
    obtain⟨rfl,g4⟩:=h;unfold T.thrown;go_wp2;exact⟨rfl,rfl,S.zaa HG3.out g4⟩
   | ok x q =>
    obtain⟨v4,rfl,⟨⟨so,sc,lbo,lbc,lso,lsc,lao,lac,rbo,rbc,rso,rsc,rao,rac,hv4⟩,s4⟩,C4,g4⟩:=h;subst hv4;have X4:=R.zaf HX3.out g4 n1;have G4:=S.zaa HG3.out g4;have S4:=s4.down hF3;clear s4 g4 hoe;have k0:=R.zab (i:=0) X4 rfl;have fk0:=R.zac (i:=0) X4;have k1:=R.zab (i:=1) X4 rfl;have fk1:=R.zac (i:=1) X4;have k2:=R.zab (i:=2) X4 rfl;have fk2:=R.zac (i:=2) X4;have k3:=R.zab (i:=3) X4 rfl;have fk3:=R.zac (i:=3) X4;have k4:=R.zab (i:=4) X4 rfl;have fk4:=R.zac (i:=4) X4;have k5:=R.zab (i:=5) X4 rfl;have fk5:=R.zac (i:=5) X4;have k6:=R.zab (i:=6) X4 rfl;have fk6:=R.zac (i:=6) X4;have k7:=R.zab (i:=7) X4 rfl;have fk7:=R.zac (i:=7) X4;have k8:=R.zab (i:=8) X4 rfl;have fk8:=R.zac (i:=8) X4;have k9:=R.zab (i:=9) X4 rfl;have fk9:=R.zac (i:=9) X4;have k10:=R.zab (i:=10) X4 rfl;have fk10:=R.zac (i:=10) X4;have k11:=R.zab (i:=11) X4 rfl;have fk11:=R.zac (i:=11) X4;have k12:=R.zab (i:=12) X4 rfl;have fk12:=R.zac (i:=12) X4;have k13:=R.zab (i:=13) X4 rfl;have fk13:=R.zac (i:=13) X4;have k14:=R.zab (i:=14) X4 rfl;have fk14:=R.zac (i:=14) X4;have k15:=R.zab (i:=15) X4 rfl;have fk15:=R.zac (i:=15) X4;have HXe:Hid _:=X4;have HCe:Hid _:=C4;have HGe:Hid _:=G4;have HSe:=qH S4;clear X4 C4 G4 S4;go_wp2;obtain⟨hbx,hgr⟩:=R.put16 HXe.out (.int .i64 x.kind) (.string x.name) (.slice so x.set.length sc) (.int .i64 x.dir) (.bool x.left.start) (.bool x.left.fin) (.slice lbo x.left.before.length lbc) (.slice lso x.left.source.length lsc) (.slice lao x.left.after.length lac) (.int .i64 x.left.cursor) (.bool x.right.start) (.bool x.right.fin) (.slice rbo x.right.before.length rbc) (.slice rso x.right.source.length rsc) (.slice rao x.right.after.length rac) (.int .i64 x.right.cursor);refine bodyPost_ret (R.za1 rfl _ _ w.heap.size #[.int .i64 x.kind,.string x.name,.slice so x.set.length sc,.int .i64 x.dir,.bool x.left.start,.bool x.left.fin,.slice lbo x.left.before.length lbc,.slice lso x.left.source.length lsc,.slice lao x.left.after.length lac,.int .i64 x.left.cursor,.bool x.right.start,.bool x.right.fin,.slice rbo x.right.before.length rbc,.slice rso x.right.source.length rsc,.slice rao x.right.after.length rac,.int .i64 x.right.cursor] hbx underlying196 (by kernel_rfl) rfl) rfl ?_
    skip
    exact⟨_,rfl,⟨⟨so,sc,lbo,lbc,lso,lsc,lao,lac,rbo,rbc,rso,rsc,rao,rac,rfl⟩,(HSe.out.cur hgr (by omega)).down (F':=w.heap.size) (by omega)⟩,HCe.out.apart hgr n1 HT1.out,R.zal HGe.out hgr qN⟩
  ·go_wp2_with fail
   refine(zbv _ cb tb cap (p+1) ao l 58 (by decide) HC1.out h582).mono ?_;unfold T.thrown;rintro e w2 ⟨rfl,g2⟩;go_wp2;refine⟨rfl,?_⟩;rw[<- HO.out];unfold R.part;rw[if_pos h58,if_pos h582];exact⟨rfl,S.zaa HG1.out g2⟩
 ·rw[if_neg h58] at C1;have HC1:=qH C1;clear C1
  go_wp2_with fail
  refine(zjk _ cb tb cap p ao l HC1.out).mono ?_;intro e w2 h
  have hcase:(∃er q,R.assignedAt l p= .bad er q/\R.part l p= .bad er q)∨(∃n q,R.assignedAt l p= .ok (some n) q/\R.named n=true/\R.part l p=(match T.setN 20 l (R.gap l q) with | .bad e r=> .bad e r | .ok s r=> .ok ⟨1,n,s,0,R.noSide,R.noSide⟩ r))∨(R.assignedAt l p= .ok none p/\R.part l p=R.rule l p):=by
   by_cases hv:R.varNext l p=true
   ·cases hc:R.varAt l p with
    | bad er q =>
     refine .inl ⟨er,q,?_,?_⟩
     ·unfold R.assignedAt;rw[if_pos hv,hc]
     ·unfold R.part;rw[if_neg h58,if_pos hv,hc]
    | ok n q =>
     by_cases h61:T.see l (R.gap l q)=61
     ·refine .inr (.inl ⟨n,R.gap l q+1,?_,(zg5 hc).1,?_⟩)
      ·unfold R.assignedAt;rw[if_pos hv,hc];simp only;rw[if_pos h61]
      ·unfold R.part;rw[if_neg h58,if_pos hv,hc];simp only;rw[if_pos h61];cases T.setN 20 l (R.gap l (R.gap l q+1)) <;> rfl
     ·refine .inr (.inr ⟨?_,?_⟩)
      ·unfold R.assignedAt;rw[if_pos hv,hc];simp only;rw[if_neg h61]
      ·unfold R.part;rw[if_neg h58,if_pos hv,hc];simp only;rw[if_neg h61]
   ·refine .inr (.inr ⟨?_,?_⟩)
    ·unfold R.assignedAt;rw[if_neg hv]
    ·unfold R.part;rw[if_neg h58,if_neg hv]
  rcases hcase with ⟨er,q,ha,hp⟩|⟨n,q,ha,hnm,hp⟩|⟨ha,hp⟩
  ·rw[ha] at h;obtain⟨rfl,g2⟩:=h;unfold T.thrown;go_wp2;refine⟨rfl,?_⟩;rw[<- HO.out,hp];exact⟨rfl,S.zaa HG1.out g2⟩
  ·rw[ha] at h;obtain⟨v2,rfl,hv2,C2,g2⟩:=h;unfold R.isName at hv2;simp only at hv2;subst hv2;have HX2:Hid _:=R.zaf HX1.out g2 n1;have HG2:=qH <| S.zaa HG1.out g2;have HC2:=qH C2;have hF2:w.heap.size+1<=w2.heap.size:=by have:=g2.size;omega
   have HP:Hid _:=hp;have hnl:=ziv hnm;have HNm:=qH hnl;clear C2 g2 ha hp hnl hnm
   go_wp2_with fail
   refine(zax _ cb tb cap q ao l HC2.out).mono ?_;rintro e w3 ⟨rfl,C3,g3⟩;have HX3:Hid _:=R.zaf HX2.out g3 n1;have HG3:=qH <| S.zaa HG2.out g3;have HC3:=qH C3;have hF3:w.heap.size+1<=w3.heap.size:=by have:=g3.size;omega
   clear C3 g3
   go_wp2_with fail
   refine(zlf HK.out _ cb tb cap (R.gap l q) ao l HC3.out).mono ?_;intro e w4 h;cases hc:T.setN 20 l (R.gap l q) with
   | bad er r =>
    rw[hc] at h;obtain⟨rfl,g4⟩:=h;unfold T.thrown;go_wp2;refine⟨rfl,?_⟩;rw[<- HO.out,HP.out,hc];exact⟨rfl,S.zaa HG3.out g4⟩
   | ok s r =>
    rw[hc] at h;obtain⟨v4,rfl,⟨⟨hr4,hn4,_⟩,hf4⟩,C4,g4⟩:=h;obtain⟨so,sc,hv4⟩:=hr4.len;subst hv4;have HS4:=qH <| R.zdw hr4 (hf4.mono hF3);have HF4:=qH <| S.Fit.zdd hn4 (Int.le_refl _);have X4:=R.zaf HX3.out g4 n1;have G4:=S.zaa HG3.out g4;have HH:Hid _:=hc;clear hc hr4 hn4 hf4 g4;have k0:=R.zab (i:=0) X4 rfl;have fk0:=R.zac (i:=0) X4;have k1:=R.zab (i:=1) X4 rfl;have fk1:=R.zac (i:=1) X4;have k2:=R.zab (i:=2) X4 rfl;have fk2:=R.zac (i:=2) X4;have k3:=R.zab (i:=3) X4 rfl;have fk3:=R.zac (i:=3) X4;have k4:=R.zab (i:=4) X4 rfl;have fk4:=R.zac (i:=4) X4;have k5:=R.zab (i:=5) X4 rfl;have fk5:=R.zac (i:=5) X4;have k6:=R.zab (i:=6) X4 rfl;have fk6:=R.zac (i:=6) X4;have k7:=R.zab (i:=7) X4 rfl;have fk7:=R.zac (i:=7) X4;have k8:=R.zab (i:=8) X4 rfl;have fk8:=R.zac (i:=8) X4;have k9:=R.zab (i:=9) X4 rfl;have fk9:=R.zac (i:=9) X4;have k10:=R.zab (i:=10) X4 rfl;have fk10:=R.zac (i:=10) X4;have k11:=R.zab (i:=11) X4 rfl;have fk11:=R.zac (i:=11) X4;have k12:=R.zab (i:=12) X4 rfl;have fk12:=R.zac (i:=12) X4;have k13:=R.zab (i:=13) X4 rfl;have fk13:=R.zac (i:=13) X4;have k14:=R.zab (i:=14) X4 rfl;have fk14:=R.zac (i:=14) X4;have k15:=R.zab (i:=15) X4 rfl;have fk15:=R.zac (i:=15) X4;have HXe:Hid _:=X4;have HCe:Hid _:=C4;have HGe:Hid _:=G4;clear X4 C4 G4;go_wp2;obtain⟨hbx,hgr⟩:=R.put16 HXe.out (.int .i64 1) (.string n) (.slice so s.length sc) (.int .i64 0) (.bool false) (.bool false) (.slice none 0 0) (.slice none 0 0) (.slice none 0 0) (.int .i64 0) (.bool false) (.bool false) (.slice none 0 0) (.slice none 0 0) (.slice none 0 0) (.int .i64 0);refine bodyPost_ret (R.za1 rfl _ _ w.heap.size #[.int .i64 1,.string n,.slice so s.length sc,.int .i64 0,.bool false,.bool false,.slice none 0 0,.slice none 0 0,.slice none 0 0,.int .i64 0,.bool false,.bool false,.slice none 0 0,.slice none 0 0,.slice none 0 0,.int .i64 0] hbx underlying196 (by kernel_rfl) rfl) rfl ?_;rw[<- HO.out,HP.out,HH.out];exact⟨_,rfl,⟨⟨so,sc,none,0,none,0,none,0,none,0,none,0,none,0,rfl⟩,((HS4.out.cur hgr (by omega)).down (F':=w.heap.size) (by omega)).imp fun w' h=>⟨so,sc,_,_,_,_,_,_,_,_,_,_,_,_,rfl,h,HF4.out,R.zb9 w',R.zb9 w',by have:=HNm.out;simp only;omega,by simp[R.I64]⟩⟩,HCe.out.apart hgr n1 HT1.out,R.zal HGe.out hgr qN⟩
  ·rw[ha] at h;obtain⟨v2,rfl,hv2,C2,g2⟩:=h;unfold R.isName at hv2;simp only at hv2;subst hv2;have HX2:Hid _:=R.zaf HX1.out g2 n1;have HG2:=qH <| S.zaa HG1.out g2;have HC2:=qH C2;have hF2:w.heap.size+1<=w2.heap.size:=by have:=g2.size;omega
   have HP:Hid _:=hp;clear C2 g2 ha hp
   go_wp2_with fail
   refine(zna HK.out _ cb tb cap p ao l HC2.out).mono ?_;intro e w4 h;have hoe:R.rule l p=o:=by rw[<- HO.out,HP.out]
   rw[hoe] at h;cases o with
   | bad er q =>
    obtain⟨rfl,g4⟩:=h;unfold T.thrown;go_wp2;exact⟨rfl,rfl,S.zaa HG2.out g4⟩
   | ok x q =>
    obtain⟨v4,rfl,⟨⟨so,sc,lbo,lbc,lso,lsc,lao,lac,rbo,rbc,rso,rsc,rao,rac,hv4⟩,s4⟩,C4,g4⟩:=h;subst hv4;have X4:=R.zaf HX2.out g4 n1;have G4:=S.zaa HG2.out g4;have S4:=s4.down hF2;clear s4 g4 hoe;have k0:=R.zab (i:=0) X4 rfl;have fk0:=R.zac (i:=0) X4;have k1:=R.zab (i:=1) X4 rfl;have fk1:=R.zac (i:=1) X4;have k2:=R.zab (i:=2) X4 rfl;have fk2:=R.zac (i:=2) X4;have k3:=R.zab (i:=3) X4 rfl;have fk3:=R.zac (i:=3) X4;have k4:=R.zab (i:=4) X4 rfl;have fk4:=R.zac (i:=4) X4;have k5:=R.zab (i:=5) X4 rfl;have fk5:=R.zac (i:=5) X4;have k6:=R.zab (i:=6) X4 rfl;have fk6:=R.zac (i:=6) X4;have k7:=R.zab (i:=7) X4 rfl;have fk7:=R.zac (i:=7) X4;have k8:=R.zab (i:=8) X4 rfl;have fk8:=R.zac (i:=8) X4;have k9:=R.zab (i:=9) X4 rfl;have fk9:=R.zac (i:=9) X4;have k10:=R.zab (i:=10) X4 rfl;have fk10:=R.zac (i:=10) X4;have k11:=R.zab (i:=11) X4 rfl;have fk11:=R.zac (i:=11) X4;have k12:=R.zab (i:=12) X4 rfl;have fk12:=R.zac (i:=12) X4;have k13:=R.zab (i:=13) X4 rfl;have fk13:=R.zac (i:=13) X4;have k14:=R.zab (i:=14) X4 rfl;have fk14:=R.zac (i:=14) X4;have k15:=R.zab (i:=15) X4 rfl;have fk15:=R.zac (i:=15) X4;have HXe:Hid _:=X4;have HCe:Hid _:=C4;have HGe:Hid _:=G4;have HSe:=qH S4;clear X4 C4 G4 S4;go_wp2;obtain⟨hbx,hgr⟩:=R.put16 HXe.out (.int .i64 x.kind) (.string x.name) (.slice so x.set.length sc) (.int .i64 x.dir) (.bool x.left.start) (.bool x.left.fin) (.slice lbo x.left.before.length lbc) (.slice lso x.left.source.length lsc) (.slice lao x.left.after.length lac) (.int .i64 x.left.cursor) (.bool x.right.start) (.bool x.right.fin) (.slice rbo x.right.before.length rbc) (.slice rso x.right.source.length rsc) (.slice rao x.right.after.length rac) (.int .i64 x.right.cursor);refine bodyPost_ret (R.za1 rfl _ _ w.heap.size #[.int .i64 x.kind,.string x.name,.slice so x.set.length sc,.int .i64 x.dir,.bool x.left.start,.bool x.left.fin,.slice lbo x.left.before.length lbc,.slice lso x.left.source.length lsc,.slice lao x.left.after.length lac,.int .i64 x.left.cursor,.bool x.right.start,.bool x.right.fin,.slice rbo x.right.before.length rbc,.slice rso x.right.source.length rsc,.slice rao x.right.after.length rac,.int .i64 x.right.cursor] hbx underlying196 (by kernel_rfl) rfl) rfl ?_
    skip
    exact⟨_,rfl,⟨⟨so,sc,lbo,lbc,lso,lsc,lao,lac,rbo,rbc,rso,rsc,rao,rac,rfl⟩,(HSe.out.cur hgr (by omega)).down (F':=w.heap.size) (by omega)⟩,HCe.out.apart hgr n1 HT1.out,R.zal HGe.out hgr qN⟩
theorem zuz (hK:T.ClassOk)(w:World)(cb tb cap p:Nat)(ao:Option Addr)(l:List Int)(C:T.Cur w cb tb cap ao l p) :
  Calls prog 110 #[.pointer (some ⟨cb,0,none⟩)] w (T.Ends w cb tb cap ao l (R.ended l p) (R.isPart w.heap.size)):=by
 have c0:=C.cell1;have hlen:=C.len;have hple:=C.le;obtain⟨he1,he2⟩:=C.elder;have HE2:=qH he2;have HK:=qH hK;have HC:=qH C;clear C he2 hK;have n1:¬w.heap.size=cb:=by omega
 have HT1:Hid (l≠ []->w.heap.size≠tb):=fun h=>by have:=HE2.out h;omega
 obtain⟨o,HO⟩:∃o,Hid (R.ended l p=o):=⟨_,rfl⟩;rw[HO.out]
 go_enter func110,ntmps110
 go_wp2_with fail
 have bA:=(qR w).alloc qN (.cells #[.int .i64 0,.string ⟨#[]⟩,.slice none 0 0,.int .i64 0,.bool false,.bool false,.slice none 0 0,.slice none 0 0,.slice none 0 0,.int .i64 0,.bool false,.bool false,.slice none 0 0,.slice none 0 0,.slice none 0 0,.int .i64 0] 196);have x2:(w.alloc (.cells #[.int .i64 0,.string ⟨#[]⟩,.slice none 0 0,.int .i64 0,.bool false,.bool false,.slice none 0 0,.slice none 0 0,.slice none 0 0,.int .i64 0,.bool false,.bool false,.slice none 0 0,.slice none 0 0,.slice none 0 0,.int .i64 0] 196)).heap[w.heap.size]?=some (.cells #[.int .i64 0,.string ⟨#[]⟩,.slice none 0 0,.int .i64 0,.bool false,.bool false,.slice none 0 0,.slice none 0 0,.slice none 0 0,.int .i64 0,.bool false,.bool false,.slice none 0 0,.slice none 0 0,.slice none 0 0,.int .i64 0] 196):=heap_alloc_new w _;have CW:=HC.out.below bA;have GW:w.grownBy _ (some cb):=S.zad bA;have hFW:w.heap.size+1<=(w.alloc (.cells #[.int .i64 0,.string ⟨#[]⟩,.slice none 0 0,.int .i64 0,.bool false,.bool false,.slice none 0 0,.slice none 0 0,.slice none 0 0,.int .i64 0,.bool false,.bool false,.slice none 0 0,.slice none 0 0,.slice none 0 0,.int .i64 0] 196)).heap.size:=by simp
 refine(zwl HK.out _ cb tb cap p ao l CW).mono ?_;generalize w.alloc (.cells #[.int .i64 0,.string ⟨#[]⟩,.slice none 0 0,.int .i64 0,.bool false,.bool false,.slice none 0 0,.slice none 0 0,.slice none 0 0,.int .i64 0,.bool false,.bool false,.slice none 0 0,.slice none 0 0,.slice none 0 0,.int .i64 0] 196)=W0 at bA x2 CW GW hFW;clear bA c0;intro e w1 h;cases hc:R.part l p with
 | bad er q =>
  rw[hc] at h;obtain⟨rfl,g1⟩:=h;unfold T.thrown;go_wp2;refine⟨rfl,?_⟩;rw[<- HO.out];unfold R.ended;rw[hc];exact⟨rfl,S.zaa GW g1⟩
 | ok x q =>
  rw[hc] at h;obtain⟨v1,rfl,⟨⟨so,sc,lbo,lbc,lso,lsc,lao,lac,rbo,rbc,rso,rsc,rao,rac,hv1⟩,s1⟩,C1,g1⟩:=h;subst hv1;have HH:Hid _:=hc;have S1:=s1.down hFW;have X1:=R.zaf x2 g1 n1;have bB:=(qR w1).alloc qN (.cells #[.int .i64 x.kind,.string x.name,.slice so x.set.length sc,.int .i64 x.dir,.bool x.left.start,.bool x.left.fin,.slice lbo x.left.before.length lbc,.slice lso x.left.source.length lsc,.slice lao x.left.after.length lac,.int .i64 x.left.cursor,.bool x.right.start,.bool x.right.fin,.slice rbo x.right.before.length rbc,.slice rso x.right.source.length rsc,.slice rao x.right.after.length rac,.int .i64 x.right.cursor] 196);have Y2:(w1.alloc (.cells #[.int .i64 x.kind,.string x.name,.slice so x.set.length sc,.int .i64 x.dir,.bool x.left.start,.bool x.left.fin,.slice lbo x.left.before.length lbc,.slice lso x.left.source.length lsc,.slice lao x.left.after.length lac,.int .i64 x.left.cursor,.bool x.right.start,.bool x.right.fin,.slice rbo x.right.before.length rbc,.slice rso x.right.source.length rsc,.slice rao x.right.after.length rac,.int .i64 x.right.cursor] 196)).heap[w1.heap.size]?=some (.cells #[.int .i64 x.kind,.string x.name,.slice so x.set.length sc,.int .i64 x.dir,.bool x.left.start,.bool x.left.fin,.slice lbo x.left.before.length lbc,.slice lso x.left.source.length lsc,.slice lao x.left.after.length lac,.int .i64 x.left.cursor,.bool x.right.start,.bool x.right.fin,.slice rbo x.right.before.length rbc,.slice rso x.right.source.length rsc,.slice rao x.right.after.length rac,.int .i64 x.right.cursor] 196):=heap_alloc_new w1 _;have HX2:Hid _:=R.zae X1 bB;have HC2:=qH <| C1.below bB;have HG2:=qH <| S.zaa (S.zaa GW g1) (S.zad bB);have HS2:=qH <| S1.below bB;have HY2:Hid _:=Y2;have n2:¬w1.heap.size=cb:=by have:=C1.lt;omega
  clear s1 S1 X1 Y2 bB C1 g1 x2 GW CW hc
  go_wp2_with fail
  refine(zax _ cb tb cap q ao l HC2.out).mono ?_;rintro e w3 ⟨rfl,C3,g3⟩;obtain⟨r,HR⟩:∃r,Hid (R.gap l q=r):=⟨_,rfl⟩;rw[HR.out] at C3;have HX3:Hid _:=R.zaf HX2.out g3 n1;have HY3:Hid _:=R.zaf HY2.out g3 n2;have HC3:=qH C3;have HG3:=qH <| S.zaa HG2.out g3;have HS3:=qH <| HS2.out.cur g3 (by omega);clear C3 g3 HX2 HY2 HC2 HG2 HS2
  by_cases h59:T.see l r=59
  ·go_wp2_with fail
   refine(zay _ cb tb cap r ao l 59 (by decide) HC3.out h59).mono ?_;rintro e w4 ⟨rfl,C4,g4⟩;have y4:=R.zaf HY3.out g4 n2;have HX4:Hid _:=R.zaf HX3.out g4 n1;have HY4:Hid _:=y4;have HC4:=qH C4;have HG4:=qH <| S.zaa HG3.out g4;have HS4:=qH <| HS3.out.cur g4 (by omega);have d0:=R.zab (i:=0) y4 rfl;have d1:=R.zab (i:=1) y4 rfl;have d2:=R.zab (i:=2) y4 rfl;have d3:=R.zab (i:=3) y4 rfl;have d4:=R.zab (i:=4) y4 rfl;have d5:=R.zab (i:=5) y4 rfl;have d6:=R.zab (i:=6) y4 rfl;have d7:=R.zab (i:=7) y4 rfl;have d8:=R.zab (i:=8) y4 rfl;have d9:=R.zab (i:=9) y4 rfl;have d10:=R.zab (i:=10) y4 rfl;have d11:=R.zab (i:=11) y4 rfl;have d12:=R.zab (i:=12) y4 rfl;have d13:=R.zab (i:=13) y4 rfl;have d14:=R.zab (i:=14) y4 rfl;have d15:=R.zab (i:=15) y4 rfl;clear C4 g4 y4 HX3 HY3 HC3 HG3 HS3
   go_wp2_with fail
   refine(zdo _ _ x HS4.out.here).mono ?_;rintro e w5 ⟨rfl,b5⟩;have X5:=R.zae HX4.out b5;have y5:=R.zae HY4.out b5;have C5:=HC4.out.below b5;have G5:=S.zaa HG4.out (S.zad (r:=some cb) b5);have S5:=HS4.out.below b5;clear b5 HX4 HY4 HC4 HG4 HS4 d0 d1 d2 d3 d4 d5 d6 d7 d8 d9 d10 d11 d12 d13 d14 d15;obtain⟨er,HEr⟩:∃er,Hid (R.partE x=er):=⟨_,rfl⟩;rw[HEr.out]
   by_cases he:er=0
   ·subst he;have d0:=R.zab (i:=0) y5 rfl;have d1:=R.zab (i:=1) y5 rfl;have d2:=R.zab (i:=2) y5 rfl;have d3:=R.zab (i:=3) y5 rfl;have d4:=R.zab (i:=4) y5 rfl;have d5:=R.zab (i:=5) y5 rfl;have d6:=R.zab (i:=6) y5 rfl;have d7:=R.zab (i:=7) y5 rfl;have d8:=R.zab (i:=8) y5 rfl;have d9:=R.zab (i:=9) y5 rfl;have d10:=R.zab (i:=10) y5 rfl;have d11:=R.zab (i:=11) y5 rfl;have d12:=R.zab (i:=12) y5 rfl;have d13:=R.zab (i:=13) y5 rfl;have d14:=R.zab (i:=14) y5 rfl;have d15:=R.zab (i:=15) y5 rfl;clear y5;have k0:=R.zab (i:=0) X5 rfl;have fk0:=R.zac (i:=0) X5;have k1:=R.zab (i:=1) X5 rfl;have fk1:=R.zac (i:=1) X5;have k2:=R.zab (i:=2) X5 rfl;have fk2:=R.zac (i:=2) X5;have k3:=R.zab (i:=3) X5 rfl;have fk3:=R.zac (i:=3) X5;have k4:=R.zab (i:=4) X5 rfl;have fk4:=R.zac (i:=4) X5;have k5:=R.zab (i:=5) X5 rfl;have fk5:=R.zac (i:=5) X5;have k6:=R.zab (i:=6) X5 rfl;have fk6:=R.zac (i:=6) X5;have k7:=R.zab (i:=7) X5 rfl;have fk7:=R.zac (i:=7) X5;have k8:=R.zab (i:=8) X5 rfl;have fk8:=R.zac (i:=8) X5;have k9:=R.zab (i:=9) X5 rfl;have fk9:=R.zac (i:=9) X5;have k10:=R.zab (i:=10) X5 rfl;have fk10:=R.zac (i:=10) X5;have k11:=R.zab (i:=11) X5 rfl;have fk11:=R.zac (i:=11) X5;have k12:=R.zab (i:=12) X5 rfl;have fk12:=R.zac (i:=12) X5;have k13:=R.zab (i:=13) X5 rfl;have fk13:=R.zac (i:=13) X5;have k14:=R.zab (i:=14) X5 rfl;have fk14:=R.zac (i:=14) X5;have k15:=R.zab (i:=15) X5 rfl;have fk15:=R.zac (i:=15) X5;have HXe:Hid _:=X5;have HCe:Hid _:=C5;have HGe:Hid _:=G5;have HSe:=qH S5;clear X5 C5 G5 S5;go_wp2;obtain⟨hbx,hgr⟩:=R.put16 HXe.out (.int .i64 x.kind) (.string x.name) (.slice so x.set.length sc) (.int .i64 x.dir) (.bool x.left.start) (.bool x.left.fin) (.slice lbo x.left.before.length lbc) (.slice lso x.left.source.length lsc) (.slice lao x.left.after.length lac) (.int .i64 x.left.cursor) (.bool x.right.start) (.bool x.right.fin) (.slice rbo x.right.before.length rbc) (.slice rso x.right.source.length rsc) (.slice rao x.right.after.length rac) (.int .i64 x.right.cursor);refine bodyPost_ret (R.za1 rfl _ _ w.heap.size #[.int .i64 x.kind,.string x.name,.slice so x.set.length sc,.int .i64 x.dir,.bool x.left.start,.bool x.left.fin,.slice lbo x.left.before.length lbc,.slice lso x.left.source.length lsc,.slice lao x.left.after.length lac,.int .i64 x.left.cursor,.bool x.right.start,.bool x.right.fin,.slice rbo x.right.before.length rbc,.slice rso x.right.source.length rsc,.slice rao x.right.after.length rac,.int .i64 x.right.cursor] hbx underlying196 (by kernel_rfl) rfl) rfl ?_;rw[<- HO.out];unfold R.ended;rw[HH.out];simp only;rw[HR.out,if_neg (by simp[h59]),HEr.out,if_neg (by simp)];exact⟨_,rfl,⟨⟨so,sc,lbo,lbc,lso,lsc,lao,lac,rbo,rbc,rso,rsc,rao,rac,rfl⟩,(HSe.out.cur hgr (by omega)).down (F':=w.heap.size) (by omega)⟩,HCe.out.apart hgr n1 HT1.out,R.zal HGe.out hgr qN⟩
   ·have he':(er==0)=false:=by simp[he]
    have HG5:Hid _:=G5;clear X5 y5 C5 G5 S5
    go_wp2_with (go_at_call 58;refine(zas _ er p).mono ?_;unfold T.thrown;rintro e w6 ⟨rfl,rfl⟩)
    refine⟨rfl,?_⟩;rw[<- HO.out];unfold R.ended;rw[HH.out];simp only;rw[HR.out,if_neg (by simp[h59]),HEr.out,if_pos he];exact⟨rfl,HG5.out⟩
  ·go_wp2_with fail
   refine(zbv _ cb tb cap r ao l 59 (by decide) HC3.out h59).mono ?_;unfold T.thrown;rintro e w4 ⟨rfl,g4⟩;go_wp2;refine⟨rfl,?_⟩;rw[<- HO.out];unfold R.ended;rw[HH.out];simp only;rw[HR.out,if_pos h59];exact⟨rfl,S.zaa HG3.out g4⟩
end
section
open Go.RowKit
def R.PtEl (x:R.Part) (c:List Value) (w:World):Prop:=R.PtIs w (.agg c.toArray) x
def R.RowP (F:Nat) (w:World) (v:Value) (xs:List R.Part):Prop:=R.Row 196 16 R.PtEl F w v xs
theorem R.elemP:R.Elem 72 196 16:=⟨underlying72,⟨.agg #[.int .i64 0,.string ⟨#[]⟩,.slice none 0 0,.int .i64 0,.bool false,.bool false,.slice none 0 0,.slice none 0 0,.slice none 0 0,.int .i64 0,.bool false,.bool false,.slice none 0 0,.slice none 0 0,.slice none 0 0,.int .i64 0],232,by kernel_rfl,by decide,rfl⟩,by decide⟩
theorem R.RowP.pts {F:Nat}{w:World}{v:Value}{xs:List R.Part}(h:R.RowP F w v xs):R.Stays F none w fun w'=>R.Pts w' v xs:=fun w' hk=>by
 obtain⟨ao,cap,hv⟩:=R.Row.slice h;refine⟨ao,cap,hv,fun hz=> ?_⟩;cases xs with
 | nil=>exact absurd rfl hz
 | cons x0 xs =>
  obtain⟨g,c,hob,⟨cap',hv'⟩,_,_⟩:=R.Row.at h (j:=0) (x:=x0) rfl;refine⟨g,0,by rw[hv] at hv';cases hv';rfl,fun j x hj=> ?_⟩;obtain⟨g2,c2,hob2,_,_,hst⟩:=R.Row.at h hj;have hg:g2=g:=by rw[hob] at hob2;exact(Option.some.inj hob2).symm
  subst hg;obtain⟨hcells,hpt⟩:=hst w' hk;have hpt':R.PtIs w' (.agg c2.toArray) x:=hpt;obtain⟨so,sc,lbo,lbc,lso,lsc,lao,lac,rbo,rbc,rso,rsc,rao,rac,he,_⟩:=hpt'.open
  have hc2:c2= [.int .i64 x.kind,.string x.name,.slice so x.set.length sc,.int .i64 x.dir,.bool x.left.start,.bool x.left.fin,.slice lbo x.left.before.length lbc,.slice lso x.left.source.length lsc,.slice lao x.left.after.length lac,.int .i64 x.left.cursor,.bool x.right.start,.bool x.right.fin,.slice rbo x.right.before.length rbc,.slice rso x.right.source.length rsc,.slice rao x.right.after.length rac,.int .i64 x.right.cursor]:=by
   have:=congrArg (fun v=>match v with | .agg a=>a.toList | _=> []) he;simpa using this
  subst hc2;exact⟨so,sc,lbo,lbc,lso,lsc,lao,lac,rbo,rbc,rso,rsc,rao,rac,hcells 0 _ rfl,hcells 1 _ rfl,hcells 2 _ rfl,hcells 3 _ rfl,hcells 4 _ rfl,hcells 5 _ rfl,hcells 6 _ rfl,hcells 7 _ rfl,hcells 8 _ rfl,hcells 9 _ rfl,hcells 10 _ rfl,hcells 11 _ rfl,hcells 12 _ rfl,hcells 13 _ rfl,hcells 14 _ rfl,hcells 15 _ rfl,hpt'⟩
def R.lenV:Value->Nat
 | .slice _ n _=>n
 | _=>0
theorem ztw (hK:T.ClassOk)(w:World)(cb tb cap:Nat)(ao:Option Addr)(l:List Int)(C:T.Cur w cb tb cap ao l 0) :
  Calls prog 59 #[.pointer (some ⟨cb,0,none⟩)] w (T.Ends w cb tb cap ao l (R.parts l) fun xs v w'=>R.RowP w.heap.size w' v xs/\xs.length<=200):=by
 obtain⟨he1,he2⟩:=C.elder;have HE2:=qH he2;have HK:=qH hK;have HC:=qH C;clear C he2 hK;obtain⟨o,HO⟩:∃o,Hid (R.parts l=o):=⟨_,rfl⟩;rw[HO.out]
 go_enter func59,ntmps59
 go_wp2_with fail
 refine(zax _ cb tb cap 0 ao l HC.out).mono ?_;rintro e w1 ⟨rfl,C1,g1⟩;have HC1:=qH C1;have HG1:=qH g1;clear C1 g1;go_wp2
 go_loopw [3] (fun sv wr=>∃(q:Nat) (xs:List R.Part) (vo:Option Addr) (vc:Nat),sv= .slice vo xs.length vc/\xs.length<=200/\Hid (R.partsN (202 - xs.length) l xs q=o)/\Hid (R.RowP w.heap.size wr (.slice vo xs.length vc) xs)/\Hid (T.Cur wr cb tb cap ao l q)/\Hid (w.grownBy wr (some cb))) (fun sv _=>202 - R.lenV sv)
 case atStart=>exact⟨R.gap l 0,[],none,0,rfl,by simp,HO,R.Row.nil _ _,HC1,HG1⟩
 case round =>
  obtain⟨q,xs,vo,vc,rfl,hxl,HN,HR,HCq,HG⟩:=hrel;have cq:=HCq.out.cell1;have hql:=HCq.out.le;have hlen:=HCq.out.len;obtain⟨f,hf⟩:∃f,202 - xs.length=f+1:=⟨201 - xs.length,by omega⟩;have HN2:Hid (R.partsN (f+1) l xs q=o):=by show _=_;rw[<- hf];exact HN.out
  clear HN
  go_wp2_with fail
  refine(zd5 _ cb tb cap q ao l HCq.out).mono ?_;rintro e w2 ⟨rfl,b2⟩;have C2:=HCq.out.below b2;have c2:=C2.cell1;have HC2:=qH C2;have HG2:=qH <| S.zaa HG.out (S.zad b2);have HR2:Hid (R.RowP w.heap.size w2 (.slice vo xs.length vc) xs):=R.Row.below HR.out b2;clear C2 b2 cq
  by_cases hd:T.see l q= -1
  ·clear c2;go_wp2;go_ret;rw[<- HN2.out,R.partsN,if_pos hd];exact⟨_,rfl,⟨HR2.out,hxl⟩,HC2.out,HG2.out⟩
  ·by_cases h200:xs.length=200
   ·have h200':(xs.length:Int)=200:=by omega
    go_wp2
    go_region_dies
    all_goals refine(zas _ 5 q).mono ?_
    all_goals unfold T.thrown
    all_goals rintro e w3 ⟨rfl,rfl⟩
    all_goals refine⟨rfl,?_⟩
    all_goals rw[<- HN2.out,R.partsN,if_neg hd,if_pos h200]
    all_goals exact⟨rfl,S.zaa HG2.out (zbz _ 1 _)⟩
   ·have h200':¬(xs.length:Int)=200:=by omega
    have h200b:((xs.length:Int)==200)=false:=by simp;omega
    clear c2
    go_wp2_with fail
    refine(zuz HK.out _ cb tb cap q ao l HC2.out).mono ?_;intro e w3 h;cases hc:R.ended l q with
    | bad er r =>
     rw[hc] at h;obtain⟨rfl,g3⟩:=h;unfold T.thrown;go_wp2;refine⟨rfl,?_⟩;rw[<- HN2.out,R.partsN,if_neg hd,if_neg h200,hc];exact⟨rfl,S.zaa HG2.out g3⟩
    | ok x r =>
     rw[hc] at h;obtain⟨v3,rfl,⟨⟨so,sc,lbo,lbc,lso,lsc,lao,lac,rbo,rbc,rso,rsc,rao,rac,hv3⟩,s3⟩,C3,g3⟩:=h;subst hv3;have HHc:Hid _:=hc;have HG3:=qH <| S.zaa HG2.out g3;have hs3:=g3.size;have hs2:=HG2.out.size;have HLt:Hid _:=R.Row.lt HR2.out;have R3:=R.Row.cur HR2.out g3 he1;have bA:=(qR w3).alloc qN (.cells #[.int .i64 x.kind,.string x.name,.slice so x.set.length sc,.int .i64 x.dir,.bool x.left.start,.bool x.left.fin,.slice lbo x.left.before.length lbc,.slice lso x.left.source.length lsc,.slice lao x.left.after.length lac,.int .i64 x.left.cursor,.bool x.right.start,.bool x.right.fin,.slice rbo x.right.before.length rbc,.slice rso x.right.source.length rsc,.slice rao x.right.after.length rac,.int .i64 x.right.cursor] 196);have HR4:Hid (R.RowP w.heap.size _ (.slice vo xs.length vc) xs):=R.Row.below R3 bA
     have HO4:Hid (R.RowP w2.heap.size (w3.alloc (.cells #[.int .i64 x.kind,.string x.name,.slice so x.set.length sc,.int .i64 x.dir,.bool x.left.start,.bool x.left.fin,.slice lbo x.left.before.length lbc,.slice lso x.left.source.length lsc,.slice lao x.left.after.length lac,.int .i64 x.left.cursor,.bool x.right.start,.bool x.right.fin,.slice rbo x.right.before.length rbc,.slice rso x.right.source.length rsc,.slice rao x.right.after.length rac,.int .i64 x.right.cursor] 196)) (.slice (some ⟨w3.heap.size,0,none⟩) 1 1) [x]) :=
      R.Row.one [.int .i64 x.kind,.string x.name,.slice so x.set.length sc,.int .i64 x.dir,.bool x.left.start,.bool x.left.fin,.slice lbo x.left.before.length lbc,.slice lso x.left.source.length lsc,.slice lao x.left.after.length lac,.int .i64 x.left.cursor,.bool x.right.start,.bool x.right.fin,.slice rbo x.right.before.length rbc,.slice rso x.right.source.length rsc,.slice rao x.right.after.length rac,.int .i64 x.right.cursor] rfl (fun u hu=>by
       simp only[List.mem_cons,List.not_mem_nil,or_false] at hu
       rcases hu with rfl | rfl | rfl | rfl | rfl | rfl | rfl | rfl | rfl | rfl | rfl | rfl | rfl | rfl | rfl | rfl <;> rfl) s3 hs3
     have HC4:Hid (T.Cur _ cb tb cap ao l r):=C3.below bA;have HG4:Hid (w.grownBy _ (some cb)):=S.zaa HG3.out (S.zad bA);have hF4:w.heap.size<=(w3.alloc (.cells #[.int .i64 x.kind,.string x.name,.slice so x.set.length sc,.int .i64 x.dir,.bool x.left.start,.bool x.left.fin,.slice lbo x.left.before.length lbc,.slice lso x.left.source.length lsc,.slice lao x.left.after.length lac,.int .i64 x.left.cursor,.bool x.right.start,.bool x.right.fin,.slice rbo x.right.before.length rbc,.slice rso x.right.source.length rsc,.slice rao x.right.after.length rac,.int .i64 x.right.cursor] 196)).heap.size:=by simp;omega
     obtain⟨zs,HZs⟩:∃zs,Hid (xs++ [x]=zs):=⟨_,rfl⟩;have HZl:Hid (zs.length=xs.length+1):=by show _=_;rw[<- HZs.out];simp
     clear hc s3 C3 g3 R3 bA
     go_wp2_with (at_builtin;refine R.zcw R.elemP rfl _ _ rfl _ _ xs [x] rfl rfl HR4.out HO4.out hs2 (fun g hg=>(HLt.out g hg).2) (by simp;omega) hF4 ?_;intro v5 w5 R5 g5 n5;rw[HZs.out] at R5;obtain⟨vo5,vc5,hv5⟩:=R.Row.slice R5;subst hv5;have HR5:Hid (R.RowP w.heap.size w5 (.slice vo5 zs.length vc5) zs):=R5;have HC5:Hid (T.Cur w5 cb tb cap ao l r):=HC4.out.row g5 (fun g hg=>(HLt.out g hg).1) he1 HE2.out;have HG5:Hid (w.grownBy w5 (some cb)):=R.zd3 HG4.out g5 (fun g hg=>(HLt.out g hg).1);clear R5 g5 n5)
     refine(zax _ cb tb cap r ao l HC5.out).mono ?_;rintro e w6 ⟨rfl,C6,g6⟩;have HC6:=qH C6;have HG6:=qH <| S.zaa HG5.out g6;have HR6:Hid (R.RowP w.heap.size w6 (.slice vo5 zs.length vc5) zs):=R.Row.cur HR5.out g6 he1;clear C6 g6;go_wp2
     go_roundw
     case rel=>exact⟨R.gap l r,zs,vo5,vc5,rfl,by have:=HZl.out;omega,by show _=_;rw[show 202 - zs.length=f by have:=HZl.out;omega,<- HN2.out,R.partsN,if_neg hd,if_neg h200,HHc.out];simp only;rw[HZs.out],HR6,HC6,HG6⟩
     case measure=>have:=HZl.out;simp[R.lenV];omega
