import Derived.Test.YtcadaallpiekiaaGreatDoorRRd5
import Derived.BigRegion
import Derived.Deep.Cut
set_option maxHeartbeats 0
set_option maxRecDepth 20000
set_option linter.unusedSimpArgs false
set_option linter.unusedVariables false
namespace Go.Proofs.YtcadaallpiekiaaGreatDoor
open Go.Proofs.Tryz
section
open Go.RowKit
def R.isSide (F:Nat) (s:R.Side) (v:Value) (w:World):Prop:=(∃bo bc so sc ao ac,v=.agg #[.bool s.start,.bool s.fin,.slice bo s.before.length bc,.slice so s.source.length sc,.slice ao s.after.length ac,.int .i64 s.cursor])/\R.Stays F none w fun w'=>R.SdIs w' v s
theorem R.ztw (l:List Int)(p0 p b:Nat)(st:Bool)(hp:R.gap l p0=p)(hst:decide (T.see l p=94)=st)(hb:(if T.see l p=94 then p+1 else p)=b):R.side l p0 =
  match R.items l b with
  | .bad e q=> .bad e q
  | .ok (xs,c) q =>
   if st=true∨T.see l q=123 then
    if 0<=c then .bad 8 b
    else if T.see l q≠123 then .bad 2 q
    else
     match R.items l (q+1) with
     | .bad e r=> .bad e r
     | .ok (ys,d) r=>R.sideTail l ⟨st,false,xs,ys,[],d⟩ r
   else R.sideTail l ⟨st,false,[],xs,[],c⟩ q:=by
 unfold R.side;simp only;rw[hp,hst]
 have:(if st=true then p+1 else p)=b:=by
  rw[<- hb,<- hst]
  by_cases h:T.see l p=94 <;> simp[h]
 rw[this];cases R.items l b with
 | bad e q=>rfl
 | ok xc q =>
  obtain⟨xs,c⟩:=xc;simp only;cases R.items l (q+1) with
  | bad e r=>rfl
  | ok yd r=>rfl
theorem zls (hK:T.ClassOk)(w:World)(cb tb cap p:Nat)(ao:Option Addr)(l:List Int)(C:T.Cur w cb tb cap ao l p) :
  Calls prog 134 #[.pointer (some ⟨cb,0,none⟩)] w (T.Ends w cb tb cap ao l (R.side l p) (R.isSide w.heap.size)):=by
 have hlen:=C.len;have hple:=C.le;obtain⟨he1,he2⟩:=C.elder;have HE2:=qH he2;have HK:=qH hK;have HC:=qH C;clear C he2 hK;obtain⟨o,HO⟩:∃o,Hid (R.side l p=o):=⟨_,rfl⟩;rw[HO.out];have n1:¬w.heap.size=cb:=by omega
 have n2:¬w.heap.size+1=cb:=by omega
 have HT1:Hid (l≠ []->w.heap.size≠tb):=fun h=>by have:=HE2.out h;omega
 have HT2:Hid (l≠ []->w.heap.size+1≠tb):=fun h=>by have:=HE2.out h;omega
 go_enter func134,ntmps134
 go_wp2_with fail
 have bA:=(qR w).alloc qN (.cells #[.bool false,.bool false,.slice none 0 0,.slice none 0 0,.slice none 0 0,.int .i64 0] 102);have x2:(w.alloc (.cells #[.bool false,.bool false,.slice none 0 0,.slice none 0 0,.slice none 0 0,.int .i64 0] 102)).heap[w.heap.size]?=some (.cells #[.bool false,.bool false,.slice none 0 0,.slice none 0 0,.slice none 0 0,.int .i64 0] 102):=heap_alloc_new w _;have hsz:(w.alloc (.cells #[.bool false,.bool false,.slice none 0 0,.slice none 0 0,.slice none 0 0,.int .i64 0] 102)).heap.size=w.heap.size+1:=by simp
 have x3:=heap_alloc_new (w.alloc (.cells #[.bool false,.bool false,.slice none 0 0,.slice none 0 0,.slice none 0 0,.int .i64 0] 102)) (.cells #[.bool false,.bool false,.slice none 0 0,.slice none 0 0,.slice none 0 0,.int .i64 0] 102);have bB:=(qR (w.alloc (.cells #[.bool false,.bool false,.slice none 0 0,.slice none 0 0,.slice none 0 0,.int .i64 0] 102))).alloc qN (.cells #[.bool false,.bool false,.slice none 0 0,.slice none 0 0,.slice none 0 0,.int .i64 0] 102);have x2':=R.zae x2 bB;have bW:=bA.trans (bB.mono (by rw[hsz];omega));rw[hsz] at x3;have CW:=HC.out.below bW;have GW:w.grownBy _ (some cb):=S.zaf bW;refine(zaz _ cb tb cap p ao l CW).mono ?_;generalize (w.alloc (.cells #[.bool false,.bool false,.slice none 0 0,.slice none 0 0,.slice none 0 0,.int .i64 0] 102)).alloc (.cells #[.bool false,.bool false,.slice none 0 0,.slice none 0 0,.slice none 0 0,.int .i64 0] 102)=W0 at x3 bB x2' bW CW GW;clear bA bB bW CW x2 hsz;rintro e w1 ⟨rfl,C1,g1⟩;have HX2:=qH<|R.zah x2' g1 n1;have HX3:=qH<|R.zah x3 g1 n2;have HG1:=qH<|S.zaa GW g1;obtain⟨P0,HP0⟩:∃P0,Hid (R.gap l p=P0):=⟨_,rfl⟩;rw[HP0.out] at C1;have HC1:=qH C1;clear x2' x3 GW C1 g1
 go_wp2_with fail
 refine(zaq _ cb tb cap P0 ao l 94 (by decide) HC1.out).mono ?_;rintro e w2 ⟨rfl,C2,g2⟩;obtain⟨st,HSt⟩:∃st,Hid (decide (T.see l P0=94)=st):=⟨_,rfl⟩;obtain⟨b,HB0⟩:∃b,Hid ((if T.see l P0=94 then P0+1 else P0)=b):=⟨_,rfl⟩;rw[HSt.out];rw[HB0.out] at C2;have x22:=R.zah HX2.out g2 n1;have x23:=R.zah HX3.out g2 n2;have a0:=R.zab (i:=0) x23 rfl;have z0:=R.zac (i:=0) x23;have gS:w2.grownBy (w2.setCell ⟨w.heap.size+1,0,none⟩ (.bool st)) (some (w.heap.size+1)):=R.zak _ _ _ _;have X33:(w2.setCell ⟨w.heap.size+1,0,none⟩ (.bool st)).heap[w.heap.size+1]?=some (.cells #[.bool st,.bool false,.slice none 0 0,.slice none 0 0,.slice none 0 0,.int .i64 0] 102):=heap_setCell_same w2 (w.heap.size+1) 0 _ 102 _ x23;have X32:=R.zah x22 gS (by omega);have C3:=C2.apart gS n2 HT2.out;have G3:=R.zam (S.zaa HG1.out g2) gS (by omega);have HBox:Hid _:=And.intro X33 (And.intro X32 (And.intro C3 G3))
 have hF3:w.heap.size+2<=(w2.setCell ⟨w.heap.size+1,0,none⟩ (.bool st)).heap.size:=by
  have:=(qA.1 X33).1;omega
 clear x22 x23 gS X33 X32 C3 G3 C2 g2;have HEq:Hid _:=R.ztw l p P0 b st HP0.out HSt.out HB0.out
 go_wp2_with fail
 refine(zce HK.out _ cb tb cap b ao l HBox.out.2.2.1).mono ?_;obtain⟨X33,X32,C3,G3⟩:=HBox.out;generalize w2.setCell ⟨w.heap.size+1,0,none⟩ (.bool st)=w3 at X33 X32 C3 G3 hF3;clear HBox a0 z0;intro e w4 h;cases hc:R.items l b with
 | bad er q =>
  rw[hc] at h;obtain⟨rfl,g4⟩:=h;unfold T.thrown;go_wp2;refine⟨rfl,?_⟩;rw[<- HO.out,HEq.out,hc];exact⟨rfl,S.zaa G3 g4⟩
 | ok xc q =>
  rw[hc] at h;obtain⟨v4,rfl,⟨vo,vc,hv4,st4,hxl,hcl,hch⟩,C4,g4⟩:=h;obtain⟨xs,c⟩:=xc;simp only at hv4 st4 hxl hcl hch;subst hv4;have HEq2:=HEq.out;rw[hc,HO.out] at HEq2;simp only at HEq2;have HEq3:Hid _:=HEq2;have x43:=R.zah X33 g4 n2;have x42:=R.zah X32 g4 n1;have hF4:w.heap.size+2<=w4.heap.size:=by have:=g4.size;omega
  have bC:=(qR w4).alloc qN (.cells #[.int .i64 b,.slice vo xs.length vc,.int .i64 c] 201);have y4:(w4.alloc (.cells #[.int .i64 b,.slice vo xs.length vc,.int .i64 c] 201)).heap[w4.heap.size]?=some (.cells #[.int .i64 b,.slice vo xs.length vc,.int .i64 c] 201):=heap_alloc_new w4 _;have x53:=R.zae x43 bC;have x52:=R.zae x42 bC;have C5:=C4.below bC;have G5:=S.zaa (S.zaa G3 g4) (S.zaf (r:=some cb) bC);have st5:R.Stays (w.heap.size+2) (some w4.heap.size) (w4.alloc (.cells #[.int .i64 b,.slice vo xs.length vc,.int .i64 c] 201)) (fun w'=>R.Its w' (.slice vo xs.length vc) xs):=(st4.down hF3).fresh _;have hs5:(w4.alloc (.cells #[.int .i64 b,.slice vo xs.length vc,.int .i64 c] 201)).heap.size=w4.heap.size+1:=by simp
  have n3:¬w4.heap.size=cb:=by have:=C4.lt;omega
  have HTg:Hid (l≠ []->w4.heap.size≠tb):=fun h=>by have:=C4.zou h;omega
  have n4:¬w4.heap.size=w.heap.size+1:=by omega
  have n5:¬w4.heap.size=w.heap.size:=by omega
  have a0:=R.zab (i:=0) x53 rfl;have HSt5:Hid (R.Stays (w.heap.size+2) (some w4.heap.size) _ fun w'=>R.Its w' (.slice vo xs.length vc) xs):=st5;have HX:Hid _:=And.intro x53 (And.intro x52 (And.intro y4 (And.intro C5 G5)));clear hc HEq X33 X32 C3 G3 C4 g4 x43 x42 st4 bC HEq2;obtain⟨x53,x52,y4,C5,G5⟩:=HX.out;have HXb:Hid _:=x53;have HX2b:Hid _:=x52;have HYb:Hid _:=y4;have HCb:Hid _:=C5;have HGb:Hid _:=G5;have HSb:Hid (R.Stays (w.heap.size+2) (some w4.heap.size) _ fun w'=>R.Its w' (.slice vo xs.length vc) xs):=HSt5.out;clear x52 C5 G5 HX HSt5
  have hbl:b<=16000:=by
   have h1:=HC1.out.le;have h2:=HB0.out;split at h2
   ·rename_i h94
    have:=HC1.out.inside (by rw[h94];decide);omega
   ·omega
  have k0:=R.zab (i:=0) y4 rfl;have k1:=R.zab (i:=1) y4 rfl;have k2:=R.zab (i:=2) y4 rfl;clear x53 y4;cases st with
  | true =>
   try clear y4
   try clear x52
   try clear C5
   try clear G5
   try clear st5
   try clear hs5
   try clear x53
   try clear HX2
   try clear HX3
   try clear HG1
   try clear HP0
   try clear HC1
   try clear HSt
   try clear HB0
   by_cases hc0:0<=c
   ·go_wp2_with fail
    refine(zdq _ cb b vo xs.length vc c hc0).mono ?_;unfold T.thrown;rintro e w6 ⟨rfl,b6⟩;go_wp2;refine⟨rfl,?_⟩;rw[HEq3.out,if_pos (by simp),if_pos (by omega)];exact⟨rfl,S.zaa HGb.out (S.zaf b6)⟩
   ·go_wp2_with fail
    refine(zdp _ cb b b vo xs.length vc c (by omega) (by omega) rfl).mono ?_;rintro e w6 ⟨rfl,b6⟩;have x6:=R.zae HXb.out b6;have d2:=R.zab (i:=2) x6 rfl;have e2:=R.zac (i:=2) x6;have gB:w6.grownBy (w6.setCell ⟨w.heap.size+1,2,none⟩ (.slice vo xs.length vc)) (some (w.heap.size+1)):=R.zak _ _ _ _;have X7:(w6.setCell ⟨w.heap.size+1,2,none⟩ (.slice vo xs.length vc)).heap[w.heap.size+1]?=some (.cells #[.bool true,.bool false,.slice vo xs.length vc,.slice none 0 0,.slice none 0 0,.int .i64 0] 102):=heap_setCell_same w6 (w.heap.size+1) 2 _ 102 _ x6;have HB7:Hid _:=And.intro X7 (And.intro (R.zah (R.zae HX2b.out b6) gB (by omega)) (And.intro (R.zah (R.zae HYb.out b6) gB n4) (And.intro ((HCb.out.below b6).apart gB n2 HT2.out) (And.intro (R.zam (S.zaa HGb.out (S.zaf (r:=some cb) b6)) gB (by omega)) ((HSb.out.below b6).cur gB (by omega))))));clear x6 gB X7 b6
    by_cases h123:T.see l q=123
    ·go_wp2_with fail
     refine(za0 _ cb tb cap q ao l 123 (by decide) HB7.out.2.2.2.1 h123).mono ?_;obtain⟨X7,X72,Y7,C7,G7,S7⟩:=HB7.out;generalize w6.setCell ⟨w.heap.size+1,2,none⟩ (.slice vo xs.length vc)=w7 at X7 X72 Y7 C7 G7 S7;clear HB7 d2 e2;rintro e w8 ⟨rfl,C8,g8⟩;have HX8:Hid _:=R.zah X7 g8 n2;have HX82:Hid _:=R.zah X72 g8 n1;have HY8:Hid _:=R.zah Y7 g8 n3;have HC8:=qH C8;have HG8:=qH<|S.zaa G7 g8;have HS8:=qH<|S7.cur g8 (by omega);have hY8:=(qA.1 HY8.out).1;clear X7 X72 Y7 C7 G7 S7 C8 g8
     go_wp2_with fail
     refine(zce HK.out _ cb tb cap (q+1) ao l HC8.out).mono ?_;intro e w9 h;cases hcj:R.items l (q+1) with
     | bad er r =>
      rw[hcj] at h;obtain⟨rfl,g9⟩:=h;unfold T.thrown;go_wp2;refine⟨rfl,?_⟩;rw[HEq3.out,if_pos (by simp),if_neg (by omega),if_neg (by simp[h123]),hcj];exact⟨rfl,S.zaa HG8.out g9⟩
     | ok yd r =>
      rw[hcj] at h;obtain⟨v9,rfl,⟨so,sc,hv9,st9,hyl,hd1,hd2⟩,C9,g9⟩:=h;obtain⟨ys,d⟩:=yd;simp only at hv9 st9 hyl hd1 hd2;subst hv9;have HEnd:Hid (o=R.sideTail l ⟨true,false,xs,ys,[],d⟩ r):=by show _=_;rw[HEq3.out,if_pos (by simp),if_neg (by omega),if_neg (by simp[h123]),hcj]
      have y9:=R.zah HY8.out g9 n3;have k0:=R.zab (i:=0) y9 rfl;have k1:=R.zab (i:=1) y9 rfl;have k2:=R.zab (i:=2) y9 rfl;have l0:=R.zac (i:=0) y9;have l1:=R.zac (i:=1) y9;have l2:=R.zac (i:=2) y9;obtain⟨YA,gY⟩:=R.put3 y9 (.int .i64 ((q:Int)+1)) (.slice so ys.length sc) (.int .i64 d);have HB9:Hid _:=And.intro YA (And.intro (R.zah (R.zah HX8.out g9 n2) gY (Ne.symm n4)) (And.intro (R.zah (R.zah HX82.out g9 n1) gY (Ne.symm n5)) (And.intro (C9.apart gY n3 HTg.out) (And.intro (R.zam (S.zaa HG8.out g9) gY (by omega)) (And.intro ((HS8.out.cur g9 (by omega)).atX gY) ((st9.high (F':=w.heap.size+2) (by omega) hY8).atX gY))))));clear y9 YA gY st9 C9 g9 hcj HX8 HX82 HY8 HS8;go_wp2;obtain⟨YA,X9,X92,C9,G9,S9,SS9⟩:=HB9.out;generalize (((w9.setCell ⟨w4.heap.size,0,none⟩ (.int .i64 ((q:Int)+1))).setCell ⟨w4.heap.size,1,none⟩ (.slice so ys.length sc)).setCell ⟨w4.heap.size,2,none⟩ (.int .i64 d))=wt at YA X9 X92 C9 G9 S9 SS9 ⊢;have HYt:Hid _:=YA;have HX3t:Hid _:=X9;have HX2t:Hid _:=X92;have HCt:Hid _:=C9;have HGt:Hid _:=G9;have HSB:=qH S9;have HSS:=qH SS9;clear YA X9 X92 C9 G9 S9 SS9 HB9 k0 k1 k2 l0 l1 l2
      try clear y4
      try clear x52
      try clear C5
      try clear G5
      try clear st5
      try clear hs5
      try clear x53
      try clear HX2b
      try clear HYb
      try clear HCb
      try clear HGb
      try clear HSb
      try clear HXb
      try clear k0
      try clear k1
      try clear k2
      try clear a0
      try clear HSt
      try clear HB0
      try clear HX2
      try clear HX3
      try clear HG1
      try clear HP0
      try clear HC1
      try clear hF3
      try clear HEq3
      try clear HG8
      try clear HC8
      try clear hY8
      try clear h123
      try clear h123a
      try clear hc0
      try clear hbl
      try clear HTg
      try clear n3
      try clear n4
      try clear n5
      try clear HO
      try clear HC
      try clear HB9
      try clear HB7
      have b3:=R.zab (i:=3) HX3t.out rfl;have b5:=R.zab (i:=5) HX3t.out rfl;have f3:=R.zac (i:=3) HX3t.out;have f5:=R.zac (i:=5) HX3t.out;have k1:=R.zab (i:=1) HYt.out rfl;have k2:=R.zab (i:=2) HYt.out rfl
      go_region
      have gA:wt.grownBy ((wt.setCell ⟨w.heap.size+1,3,none⟩ (.slice so ys.length sc)).setCell ⟨w.heap.size+1,5,none⟩ (.int .i64 d)).drew (some (w.heap.size+1)):=S.zaa (S.zaa (R.zak _ _ _ _) (R.zak _ _ _ _)) ⟨rfl,rfl,rfl,qN,fun _ _ _=>rfl⟩;have X9:((wt.setCell ⟨w.heap.size+1,3,none⟩ (.slice so ys.length sc)).setCell ⟨w.heap.size+1,5,none⟩ (.int .i64 d)).drew.heap[w.heap.size+1]?=some (.cells #[.bool true,.bool false,.slice vo xs.length vc,.slice so ys.length sc,.slice none 0 0,.int .i64 d] 102):=heap_setCell_same _ (w.heap.size+1) 5 _ 102 _ (heap_setCell_same wt (w.heap.size+1) 3 _ 102 _ HX3t.out);have X92:=R.zah HX2t.out gA (by omega);have C9:=HCt.out.apart gA n2 HT2.out;have G9:=R.zam HGt.out gA (by omega);have SB9:=HSB.out.cur gA (by omega);have SS9:=HSS.out.cur gA (by omega);generalize ((wt.setCell ⟨w.heap.size+1,3,none⟩ (.slice so ys.length sc)).setCell ⟨w.heap.size+1,5,none⟩ (.int .i64 d)).drew=w9 at gA X9 X92 C9 G9 SB9 SS9 ⊢;clear gA b3 b5 f3 f5 k1 k2
      go_wp2_with fail
      refine(zaq _ cb tb cap r ao l 125 (by decide) C9).mono ?_;rintro e w10 ⟨rfl,C10,g10⟩;have x10:=R.zah X9 g10 n2;have x102:=R.zah X92 g10 n1;have HG10:=qH<|S.zaa G9 g10;have HSB10:=qH<|SB9.cur g10 (by omega);have HSS10:=qH<|SS9.cur g10 (by omega);have HX10:=qH x10;have HX102:=qH x102;clear X9 X92 C9 G9 SB9 SS9 g10
      by_cases h125:T.see l r=125
      ·rw[if_pos h125] at C10;have HC10:=qH C10;clear C10 x10 x102
       go_wp2_with fail
       refine(zce HK.out _ cb tb cap (r+1) ao l HC10.out).mono ?_;intro e w11 h;cases hci:R.items l (r+1) with
       | bad er rz =>
        rw[hci] at h;obtain⟨rfl,g11⟩:=h;unfold T.thrown;go_wp2;refine⟨rfl,?_⟩;rw[HEnd.out];unfold R.sideTail;rw[if_pos h125,hci];exact⟨rfl,S.zaa HG10.out g11⟩
       | ok zc rz =>
        rw[hci] at h;obtain⟨v11,rfl,⟨ao2,ac,hv11,st11,hzl,hzc1,hzc2⟩,C11,g11⟩:=h;obtain⟨zs,zc⟩:=zc;simp only at hv11 st11 hzl hzc1 hzc2;subst hv11;have HHi:Hid _:=hci;have HC11:=qH C11;have HG11:=qH<|S.zaa HG10.out g11;have HS11:=qH st11;have HSB11:=qH<|HSB10.out.cur g11 (by omega);have HSS11:=qH<|HSS10.out.cur g11 (by omega);have x11:=R.zah HX10.out g11 n2;have x112:=R.zah HX102.out g11 n1;have HX11:=qH x11;have HX112:=qH x112;have hF10:w.heap.size+2<=w10.heap.size:=by have:=(qA.1 HX10.out).1;omega
        clear C11 g11 st11 hci x11 x112;have hq1:=HC10.out.le
        by_cases hz0:0<=zc
        ·go_wp2_with fail
         refine(zdq _ cb (r+1) ao2 zs.length ac zc hz0).mono ?_;unfold T.thrown;rintro e w12 ⟨rfl,b12⟩;go_wp2;refine⟨rfl,?_⟩;rw[HEnd.out];unfold R.sideTail;rw[if_pos h125,HHi.out];simp only;rw[if_pos (by omega)];exact⟨rfl,S.zaa HG11.out (S.zaf b12)⟩
        ·go_wp2_with fail
         refine(zdp _ cb (r+1) (r+1) ao2 zs.length ac zc (by omega) (by omega) rfl).mono ?_;rintro e w12 ⟨rfl,b12⟩;have x12:=R.zae HX11.out b12;have x122:=R.zae HX112.out b12;have d4:=R.zab (i:=4) x12 rfl;have e4:=R.zac (i:=4) x12;have gB:w12.grownBy (w12.setCell ⟨w.heap.size+1,4,none⟩ (.slice ao2 zs.length ac)) (some (w.heap.size+1)):=R.zak _ _ _ _;have X13:(w12.setCell ⟨w.heap.size+1,4,none⟩ (.slice ao2 zs.length ac)).heap[w.heap.size+1]?=some (.cells #[.bool true,.bool false,.slice vo xs.length vc,.slice so ys.length sc,.slice ao2 zs.length ac,.int .i64 d] 102):=heap_setCell_same w12 (w.heap.size+1) 4 _ 102 _ x12;have HB13:Hid _:=And.intro X13 (And.intro (R.zah x122 gB (by omega)) (And.intro ((HC11.out.below b12).apart gB n2 HT2.out) (And.intro (R.zam (S.zaa HG11.out (S.zaf (r:=some cb) b12)) gB (by omega)) (And.intro ((HSB11.out.below b12).cur gB (by omega)) (And.intro ((HSS11.out.below b12).cur gB (by omega)) ((HS11.out.below b12).cur gB (by omega)))))));clear x12 x122 gB X13 b12
         go_wp2_with fail
         refine(zaq _ cb tb cap rz ao l 36 (by decide) HB13.out.2.2.1).mono ?_;obtain⟨X13,X132,C13,G13,SB13,SS13,SA13⟩:=HB13.out;generalize w12.setCell ⟨w.heap.size+1,4,none⟩ (.slice ao2 zs.length ac)=w13 at X13 X132 C13 G13 SB13 SS13 SA13;clear HB13 d4 e4;rintro e w14 ⟨rfl,C14,g14⟩;obtain⟨fi,HFi⟩:∃fi,Hid (decide (T.see l rz=36)=fi):=⟨_,rfl⟩;obtain⟨r2,HR2⟩:∃r2,Hid ((if T.see l rz=36 then rz+1 else rz)=r2):=⟨_,rfl⟩;rw[HFi.out];rw[HR2.out] at C14;have x14:=R.zah X13 g14 n2;have x142:=R.zah X132 g14 n1;have G14:=S.zaa G13 g14;have HS14:Hid _:=And.intro (SB13.cur g14 (by omega)) (And.intro (SS13.cur g14 (by omega)) (SA13.cur g14 (by omega)));have gC:w14.grownBy (w14.setCell ⟨w.heap.size+1,1,none⟩ (.bool fi)) (some (w.heap.size+1)):=R.zak _ _ _ _;have X15:(w14.setCell ⟨w.heap.size+1,1,none⟩ (.bool fi)).heap[w.heap.size+1]?=some (.cells #[.bool true,.bool fi,.slice vo xs.length vc,.slice so ys.length sc,.slice ao2 zs.length ac,.int .i64 d] 102):=heap_setCell_same w14 (w.heap.size+1) 1 _ 102 _ x14;have X152:=R.zah x142 gC (by omega);have d1:=R.zab (i:=1) x14 rfl;have e1:=R.zac (i:=1) x14;have HX15:Hid _:=And.intro X15 (And.intro X152 (And.intro (C14.apart gC n2 HT2.out) (R.zam G14 gC (by omega))));have HS15:Hid _:=And.intro (HS14.out.1.cur gC (by omega)) (And.intro (HS14.out.2.1.cur gC (by omega)) (HS14.out.2.2.cur gC (by omega)));clear X13 X132 C13 G13 SB13 SS13 SA13 C14 g14 x14 x142 G14 gC X15 X152 HS14
         go_upto_region 13 with fail
         obtain⟨X15,X152,C15,G15⟩:=HX15.out;obtain⟨SB15,SS15,SA15⟩:=HS15.out;generalize w14.setCell ⟨w.heap.size+1,1,none⟩ (.bool fi)=w15 at X15 X152 C15 G15 SB15 SS15 SA15 ⊢;clear HX15 HS15 d1 e1;have d0:=R.zab (i:=0) X15 rfl;have d1:=R.zab (i:=1) X15 rfl;have d2:=R.zab (i:=2) X15 rfl;have d3:=R.zab (i:=3) X15 rfl;have d4:=R.zab (i:=4) X15 rfl;have d5:=R.zab (i:=5) X15 rfl;have q0:=R.zab (i:=0) X152 rfl;have y0:=R.zac (i:=0) X152;have q1:=R.zab (i:=1) X152 rfl;have y1:=R.zac (i:=1) X152;have q2:=R.zab (i:=2) X152 rfl;have y2:=R.zac (i:=2) X152;have q3:=R.zab (i:=3) X152 rfl;have y3:=R.zac (i:=3) X152;have q4:=R.zab (i:=4) X152 rfl;have y4:=R.zac (i:=4) X152;have q5:=R.zab (i:=5) X152 rfl;have y5:=R.zac (i:=5) X152;have HZ15:Hid _:=And.intro X152 (And.intro C15 G15);have HS15:Hid _:=And.intro SB15 (And.intro SS15 SA15);clear X15 X152 C15 G15 SB15 SS15 SA15;go_wp2;obtain⟨X152,C15,G15⟩:=HZ15.out;obtain⟨SB15,SS15,SA15⟩:=HS15.out;obtain⟨hbx,hgr⟩:=R.put6 X152 (.bool true) (.bool fi) (.slice vo xs.length vc) (.slice so ys.length sc) (.slice ao2 zs.length ac) (.int .i64 d);refine bodyPost_ret (R.za2 rfl _ _ w.heap.size #[.bool true,.bool fi,.slice vo xs.length vc,.slice so ys.length sc,.slice ao2 zs.length ac,.int .i64 d] hbx underlying102 (by kernel_rfl) rfl) rfl ?_
         have hend:o=.ok ⟨true,fi,xs,ys,zs,d⟩ r2:=by
          rw[HEnd.out];unfold R.sideTail;rw[if_pos h125,HHi.out];simp only;rw[if_neg (by omega),<- HFi.out,<- HR2.out]
          by_cases h36:T.see l rz=36
          ·simp[h36]
          ·simp[h36]
         rw[hend];refine⟨_,rfl,⟨⟨_,_,_,_,_,_,rfl⟩,?_⟩,C15.apart hgr n1 HT1.out,R.zam G15 hgr qN⟩;have t1:=((SB15.cur hgr (by omega)).free (F':=w.heap.size) (by omega)).and (((SS15.cur hgr (by omega)).free (F':=w.heap.size) (by omega)).and ((SA15.cur hgr (by omega)).down (F':=w.heap.size) (by omega)));exact t1.imp fun w' h=>⟨_,_,_,_,_,_,rfl,h.1,h.2.1,h.2.2,by simp only[R.I64];omega⟩
      ·rw[if_neg h125] at C10;have HC10:=qH C10;have d0:=R.zab (i:=0) x10 rfl;have d1:=R.zab (i:=1) x10 rfl;have d2:=R.zab (i:=2) x10 rfl;have d3:=R.zab (i:=3) x10 rfl;have d4:=R.zab (i:=4) x10 rfl;have d5:=R.zab (i:=5) x10 rfl;have q0:=R.zab (i:=0) x102 rfl;have y0:=R.zac (i:=0) x102;have q1:=R.zab (i:=1) x102 rfl;have y1:=R.zac (i:=1) x102;have q2:=R.zab (i:=2) x102 rfl;have y2:=R.zac (i:=2) x102;have q3:=R.zab (i:=3) x102 rfl;have y3:=R.zac (i:=3) x102;have q4:=R.zab (i:=4) x102 rfl;have y4:=R.zac (i:=4) x102;have q5:=R.zab (i:=5) x102 rfl;have y5:=R.zac (i:=5) x102;clear C10 x10 x102;go_wp2;obtain⟨hbx,hgr⟩:=R.put6 HX102.out (.bool true) (.bool false) (.slice vo xs.length vc) (.slice so ys.length sc) (.slice none 0 0) (.int .i64 d);refine bodyPost_ret (R.za2 rfl _ _ w.heap.size #[.bool true,.bool false,.slice vo xs.length vc,.slice so ys.length sc,.slice none 0 0,.int .i64 d] hbx underlying102 (by kernel_rfl) rfl) rfl ?_;have hend:o=.ok ⟨true,false,xs,ys,[],d⟩ r:=by rw[HEnd.out];unfold R.sideTail;rw[if_neg h125]
       rw[hend];refine⟨_,rfl,⟨⟨_,_,_,_,none,0,rfl⟩,?_⟩,HC10.out.apart hgr n1 HT1.out,R.zam HG10.out hgr qN⟩;have t1:=((HSB10.out.cur hgr (by omega)).free (F':=w.heap.size) (by omega)).and ((HSS10.out.cur hgr (by omega)).free (F':=w.heap.size) (by omega));exact t1.imp fun w' h=>⟨_,_,_,_,none,0,rfl,h.1,h.2,R.Its.nil w',by simp only[R.I64];omega⟩
    ·go_wp2_with fail
     refine(zb0 _ cb tb cap q ao l 123 (by decide) HB7.out.2.2.2.1 h123).mono ?_;unfold T.thrown;rintro e w8 ⟨rfl,g8⟩;go_wp2;refine⟨rfl,?_⟩;rw[HEq3.out,if_pos (by simp),if_neg (by omega),if_pos h123];exact⟨rfl,S.zaa HB7.out.2.2.2.2.1 g8⟩
  | false =>
   go_wp2_with fail
   refine(zbq _ cb tb cap q ao l 123 HCb.out).mono ?_;rintro e w5 ⟨rfl,b5⟩;have x5:=R.zae HXb.out b5;have x52:=R.zae HX2b.out b5;have y5:=R.zae HYb.out b5;have C5:=HCb.out.below b5;have G5:=S.zaa HGb.out (S.zaf (r:=some cb) b5);have S5:=HSb.out.below b5;clear HXb HX2b HYb HCb HGb HSb b5 k0 k1 k2 a0;have HXb:Hid _:=x5;have HX2b:Hid _:=x52;have HYb:Hid _:=y5;have HCb:Hid _:=C5;have HGb:Hid _:=G5;have HSb:=qH S5;have k0:=R.zab (i:=0) y5 rfl;have k1:=R.zab (i:=1) y5 rfl;have k2:=R.zab (i:=2) y5 rfl;clear x5 x52 y5 C5 G5 S5
   by_cases h123a:T.see l q=123
   ·skip
    try clear y4
    try clear x52
    try clear C5
    try clear G5
    try clear st5
    try clear hs5
    try clear x53
    try clear HX2
    try clear HX3
    try clear HG1
    try clear HP0
    try clear HC1
    try clear HSt
    try clear HB0
    by_cases hc0:0<=c
    ·go_wp2_with fail
     refine(zdq _ cb b vo xs.length vc c hc0).mono ?_;unfold T.thrown;rintro e w6 ⟨rfl,b6⟩;go_wp2;refine⟨rfl,?_⟩;rw[HEq3.out,if_pos (by simp[h123a]),if_pos (by omega)];exact⟨rfl,S.zaa HGb.out (S.zaf b6)⟩
    ·go_wp2_with fail
     refine(zdp _ cb b b vo xs.length vc c (by omega) (by omega) rfl).mono ?_;rintro e w6 ⟨rfl,b6⟩;have x6:=R.zae HXb.out b6;have d2:=R.zab (i:=2) x6 rfl;have e2:=R.zac (i:=2) x6;have gB:w6.grownBy (w6.setCell ⟨w.heap.size+1,2,none⟩ (.slice vo xs.length vc)) (some (w.heap.size+1)):=R.zak _ _ _ _;have X7:(w6.setCell ⟨w.heap.size+1,2,none⟩ (.slice vo xs.length vc)).heap[w.heap.size+1]?=some (.cells #[.bool false,.bool false,.slice vo xs.length vc,.slice none 0 0,.slice none 0 0,.int .i64 0] 102):=heap_setCell_same w6 (w.heap.size+1) 2 _ 102 _ x6;have HB7:Hid _:=And.intro X7 (And.intro (R.zah (R.zae HX2b.out b6) gB (by omega)) (And.intro (R.zah (R.zae HYb.out b6) gB n4) (And.intro ((HCb.out.below b6).apart gB n2 HT2.out) (And.intro (R.zam (S.zaa HGb.out (S.zaf (r:=some cb) b6)) gB (by omega)) ((HSb.out.below b6).cur gB (by omega))))));clear x6 gB X7 b6;rcases (Or.inl h123a:T.see l q=123∨False) with h123|h123
     ·go_wp2_with fail
      refine(za0 _ cb tb cap q ao l 123 (by decide) HB7.out.2.2.2.1 h123).mono ?_;obtain⟨X7,X72,Y7,C7,G7,S7⟩:=HB7.out;generalize w6.setCell ⟨w.heap.size+1,2,none⟩ (.slice vo xs.length vc)=w7 at X7 X72 Y7 C7 G7 S7;clear HB7 d2 e2;rintro e w8 ⟨rfl,C8,g8⟩;have HX8:Hid _:=R.zah X7 g8 n2;have HX82:Hid _:=R.zah X72 g8 n1;have HY8:Hid _:=R.zah Y7 g8 n3;have HC8:=qH C8;have HG8:=qH<|S.zaa G7 g8;have HS8:=qH<|S7.cur g8 (by omega);have hY8:=(qA.1 HY8.out).1;clear X7 X72 Y7 C7 G7 S7 C8 g8
      go_wp2_with fail
      refine(zce HK.out _ cb tb cap (q+1) ao l HC8.out).mono ?_;intro e w9 h;cases hcj:R.items l (q+1) with
      | bad er r =>
       rw[hcj] at h;obtain⟨rfl,g9⟩:=h;unfold T.thrown;go_wp2;refine⟨rfl,?_⟩;rw[HEq3.out,if_pos (by simp[h123a]),if_neg (by omega),if_neg (by simp[h123]),hcj];exact⟨rfl,S.zaa HG8.out g9⟩
      | ok yd r =>
       rw[hcj] at h;obtain⟨v9,rfl,⟨so,sc,hv9,st9,hyl,hd1,hd2⟩,C9,g9⟩:=h;obtain⟨ys,d⟩:=yd;simp only at hv9 st9 hyl hd1 hd2;subst hv9;have HEnd:Hid (o=R.sideTail l ⟨false,false,xs,ys,[],d⟩ r):=by show _=_;rw[HEq3.out,if_pos (by simp[h123a]),if_neg (by omega),if_neg (by simp[h123]),hcj]
       have y9:=R.zah HY8.out g9 n3;have k0:=R.zab (i:=0) y9 rfl;have k1:=R.zab (i:=1) y9 rfl;have k2:=R.zab (i:=2) y9 rfl;have l0:=R.zac (i:=0) y9;have l1:=R.zac (i:=1) y9;have l2:=R.zac (i:=2) y9;obtain⟨YA,gY⟩:=R.put3 y9 (.int .i64 ((q:Int)+1)) (.slice so ys.length sc) (.int .i64 d);have HB9:Hid _:=And.intro YA (And.intro (R.zah (R.zah HX8.out g9 n2) gY (Ne.symm n4)) (And.intro (R.zah (R.zah HX82.out g9 n1) gY (Ne.symm n5)) (And.intro (C9.apart gY n3 HTg.out) (And.intro (R.zam (S.zaa HG8.out g9) gY (by omega)) (And.intro ((HS8.out.cur g9 (by omega)).atX gY) ((st9.high (F':=w.heap.size+2) (by omega) hY8).atX gY))))));clear y9 YA gY st9 C9 g9 hcj HX8 HX82 HY8 HS8;go_wp2;obtain⟨YA,X9,X92,C9,G9,S9,SS9⟩:=HB9.out;generalize (((w9.setCell ⟨w4.heap.size,0,none⟩ (.int .i64 ((q:Int)+1))).setCell ⟨w4.heap.size,1,none⟩ (.slice so ys.length sc)).setCell ⟨w4.heap.size,2,none⟩ (.int .i64 d))=wt at YA X9 X92 C9 G9 S9 SS9 ⊢;have HYt:Hid _:=YA;have HX3t:Hid _:=X9;have HX2t:Hid _:=X92;have HCt:Hid _:=C9;have HGt:Hid _:=G9;have HSB:=qH S9;have HSS:=qH SS9;clear YA X9 X92 C9 G9 S9 SS9 HB9 k0 k1 k2 l0 l1 l2
       try clear y4
       try clear x52
       try clear C5
       try clear G5
       try clear st5
       try clear hs5
       try clear x53
       try clear HX2b
       try clear HYb
       try clear HCb
       try clear HGb
       try clear HSb
       try clear HXb
       try clear k0
       try clear k1
       try clear k2
       try clear a0
       try clear HSt
       try clear HB0
       try clear HX2
       try clear HX3
       try clear HG1
       try clear HP0
       try clear HC1
       try clear hF3
       try clear HEq3
       try clear HG8
       try clear HC8
       try clear hY8
       try clear h123
       try clear h123a
       try clear hc0
       try clear hbl
       try clear HTg
       try clear n3
       try clear n4
       try clear n5
       try clear HO
       try clear HC
       try clear HB9
       try clear HB7
       have b3:=R.zab (i:=3) HX3t.out rfl;have b5:=R.zab (i:=5) HX3t.out rfl;have f3:=R.zac (i:=3) HX3t.out;have f5:=R.zac (i:=5) HX3t.out;have k1:=R.zab (i:=1) HYt.out rfl;have k2:=R.zab (i:=2) HYt.out rfl
       go_region
       have gA:wt.grownBy ((wt.setCell ⟨w.heap.size+1,3,none⟩ (.slice so ys.length sc)).setCell ⟨w.heap.size+1,5,none⟩ (.int .i64 d)).drew (some (w.heap.size+1)):=S.zaa (S.zaa (R.zak _ _ _ _) (R.zak _ _ _ _)) ⟨rfl,rfl,rfl,qN,fun _ _ _=>rfl⟩;have X9:((wt.setCell ⟨w.heap.size+1,3,none⟩ (.slice so ys.length sc)).setCell ⟨w.heap.size+1,5,none⟩ (.int .i64 d)).drew.heap[w.heap.size+1]?=some (.cells #[.bool false,.bool false,.slice vo xs.length vc,.slice so ys.length sc,.slice none 0 0,.int .i64 d] 102):=heap_setCell_same _ (w.heap.size+1) 5 _ 102 _ (heap_setCell_same wt (w.heap.size+1) 3 _ 102 _ HX3t.out);have X92:=R.zah HX2t.out gA (by omega);have C9:=HCt.out.apart gA n2 HT2.out;have G9:=R.zam HGt.out gA (by omega);have SB9:=HSB.out.cur gA (by omega);have SS9:=HSS.out.cur gA (by omega);generalize ((wt.setCell ⟨w.heap.size+1,3,none⟩ (.slice so ys.length sc)).setCell ⟨w.heap.size+1,5,none⟩ (.int .i64 d)).drew=w9 at gA X9 X92 C9 G9 SB9 SS9 ⊢;clear gA b3 b5 f3 f5 k1 k2
       go_wp2_with fail
       refine(zaq _ cb tb cap r ao l 125 (by decide) C9).mono ?_;rintro e w10 ⟨rfl,C10,g10⟩;have x10:=R.zah X9 g10 n2;have x102:=R.zah X92 g10 n1;have HG10:=qH<|S.zaa G9 g10;have HSB10:=qH<|SB9.cur g10 (by omega);have HSS10:=qH<|SS9.cur g10 (by omega);have HX10:=qH x10;have HX102:=qH x102;clear X9 X92 C9 G9 SB9 SS9 g10
       by_cases h125:T.see l r=125
       ·rw[if_pos h125] at C10;have HC10:=qH C10;clear C10 x10 x102
        go_wp2_with fail
        refine(zce HK.out _ cb tb cap (r+1) ao l HC10.out).mono ?_;intro e w11 h;cases hci:R.items l (r+1) with
        | bad er rz =>
         rw[hci] at h;obtain⟨rfl,g11⟩:=h;unfold T.thrown;go_wp2;refine⟨rfl,?_⟩;rw[HEnd.out];unfold R.sideTail;rw[if_pos h125,hci];exact⟨rfl,S.zaa HG10.out g11⟩
        | ok zc rz =>
         rw[hci] at h;obtain⟨v11,rfl,⟨ao2,ac,hv11,st11,hzl,hzc1,hzc2⟩,C11,g11⟩:=h;obtain⟨zs,zc⟩:=zc;simp only at hv11 st11 hzl hzc1 hzc2;subst hv11;have HHi:Hid _:=hci;have HC11:=qH C11;have HG11:=qH<|S.zaa HG10.out g11;have HS11:=qH st11;have HSB11:=qH<|HSB10.out.cur g11 (by omega);have HSS11:=qH<|HSS10.out.cur g11 (by omega);have x11:=R.zah HX10.out g11 n2;have x112:=R.zah HX102.out g11 n1;have HX11:=qH x11;have HX112:=qH x112;have hF10:w.heap.size+2<=w10.heap.size:=by have:=(qA.1 HX10.out).1;omega
         clear C11 g11 st11 hci x11 x112;have hq1:=HC10.out.le
         by_cases hz0:0<=zc
         ·go_wp2_with fail
          refine(zdq _ cb (r+1) ao2 zs.length ac zc hz0).mono ?_;unfold T.thrown;rintro e w12 ⟨rfl,b12⟩;go_wp2;refine⟨rfl,?_⟩;rw[HEnd.out];unfold R.sideTail;rw[if_pos h125,HHi.out];simp only;rw[if_pos (by omega)];exact⟨rfl,S.zaa HG11.out (S.zaf b12)⟩
         ·go_wp2_with fail
          refine(zdp _ cb (r+1) (r+1) ao2 zs.length ac zc (by omega) (by omega) rfl).mono ?_;rintro e w12 ⟨rfl,b12⟩;have x12:=R.zae HX11.out b12;have x122:=R.zae HX112.out b12;have d4:=R.zab (i:=4) x12 rfl;have e4:=R.zac (i:=4) x12;have gB:w12.grownBy (w12.setCell ⟨w.heap.size+1,4,none⟩ (.slice ao2 zs.length ac)) (some (w.heap.size+1)):=R.zak _ _ _ _;have X13:(w12.setCell ⟨w.heap.size+1,4,none⟩ (.slice ao2 zs.length ac)).heap[w.heap.size+1]?=some (.cells #[.bool false,.bool false,.slice vo xs.length vc,.slice so ys.length sc,.slice ao2 zs.length ac,.int .i64 d] 102):=heap_setCell_same w12 (w.heap.size+1) 4 _ 102 _ x12;have HB13:Hid _:=And.intro X13 (And.intro (R.zah x122 gB (by omega)) (And.intro ((HC11.out.below b12).apart gB n2 HT2.out) (And.intro (R.zam (S.zaa HG11.out (S.zaf (r:=some cb) b12)) gB (by omega)) (And.intro ((HSB11.out.below b12).cur gB (by omega)) (And.intro ((HSS11.out.below b12).cur gB (by omega)) ((HS11.out.below b12).cur gB (by omega)))))));clear x12 x122 gB X13 b12
          go_wp2_with fail
          refine(zaq _ cb tb cap rz ao l 36 (by decide) HB13.out.2.2.1).mono ?_;obtain⟨X13,X132,C13,G13,SB13,SS13,SA13⟩:=HB13.out;generalize w12.setCell ⟨w.heap.size+1,4,none⟩ (.slice ao2 zs.length ac)=w13 at X13 X132 C13 G13 SB13 SS13 SA13;clear HB13 d4 e4;rintro e w14 ⟨rfl,C14,g14⟩;obtain⟨fi,HFi⟩:∃fi,Hid (decide (T.see l rz=36)=fi):=⟨_,rfl⟩;obtain⟨r2,HR2⟩:∃r2,Hid ((if T.see l rz=36 then rz+1 else rz)=r2):=⟨_,rfl⟩;rw[HFi.out];rw[HR2.out] at C14;have x14:=R.zah X13 g14 n2;have x142:=R.zah X132 g14 n1;have G14:=S.zaa G13 g14;have HS14:Hid _:=And.intro (SB13.cur g14 (by omega)) (And.intro (SS13.cur g14 (by omega)) (SA13.cur g14 (by omega)));have gC:w14.grownBy (w14.setCell ⟨w.heap.size+1,1,none⟩ (.bool fi)) (some (w.heap.size+1)):=R.zak _ _ _ _;have X15:(w14.setCell ⟨w.heap.size+1,1,none⟩ (.bool fi)).heap[w.heap.size+1]?=some (.cells #[.bool false,.bool fi,.slice vo xs.length vc,.slice so ys.length sc,.slice ao2 zs.length ac,.int .i64 d] 102):=heap_setCell_same w14 (w.heap.size+1) 1 _ 102 _ x14;have X152:=R.zah x142 gC (by omega);have d1:=R.zab (i:=1) x14 rfl;have e1:=R.zac (i:=1) x14;have HX15:Hid _:=And.intro X15 (And.intro X152 (And.intro (C14.apart gC n2 HT2.out) (R.zam G14 gC (by omega))));have HS15:Hid _:=And.intro (HS14.out.1.cur gC (by omega)) (And.intro (HS14.out.2.1.cur gC (by omega)) (HS14.out.2.2.cur gC (by omega)));clear X13 X132 C13 G13 SB13 SS13 SA13 C14 g14 x14 x142 G14 gC X15 X152 HS14
          go_upto_region 13 with fail
          obtain⟨X15,X152,C15,G15⟩:=HX15.out;obtain⟨SB15,SS15,SA15⟩:=HS15.out;generalize w14.setCell ⟨w.heap.size+1,1,none⟩ (.bool fi)=w15 at X15 X152 C15 G15 SB15 SS15 SA15 ⊢;clear HX15 HS15 d1 e1;have d0:=R.zab (i:=0) X15 rfl;have d1:=R.zab (i:=1) X15 rfl;have d2:=R.zab (i:=2) X15 rfl;have d3:=R.zab (i:=3) X15 rfl;have d4:=R.zab (i:=4) X15 rfl;have d5:=R.zab (i:=5) X15 rfl;have q0:=R.zab (i:=0) X152 rfl;have y0:=R.zac (i:=0) X152;have q1:=R.zab (i:=1) X152 rfl;have y1:=R.zac (i:=1) X152;have q2:=R.zab (i:=2) X152 rfl;have y2:=R.zac (i:=2) X152;have q3:=R.zab (i:=3) X152 rfl;have y3:=R.zac (i:=3) X152;have q4:=R.zab (i:=4) X152 rfl;have y4:=R.zac (i:=4) X152;have q5:=R.zab (i:=5) X152 rfl;have y5:=R.zac (i:=5) X152;have HZ15:Hid _:=And.intro X152 (And.intro C15 G15);have HS15:Hid _:=And.intro SB15 (And.intro SS15 SA15);clear X15 X152 C15 G15 SB15 SS15 SA15;go_wp2;obtain⟨X152,C15,G15⟩:=HZ15.out;obtain⟨SB15,SS15,SA15⟩:=HS15.out;obtain⟨hbx,hgr⟩:=R.put6 X152 (.bool false) (.bool fi) (.slice vo xs.length vc) (.slice so ys.length sc) (.slice ao2 zs.length ac) (.int .i64 d);refine bodyPost_ret (R.za2 rfl _ _ w.heap.size #[.bool false,.bool fi,.slice vo xs.length vc,.slice so ys.length sc,.slice ao2 zs.length ac,.int .i64 d] hbx underlying102 (by kernel_rfl) rfl) rfl ?_
          have hend:o=.ok ⟨false,fi,xs,ys,zs,d⟩ r2:=by
           rw[HEnd.out];unfold R.sideTail;rw[if_pos h125,HHi.out];simp only;rw[if_neg (by omega),<- HFi.out,<- HR2.out]
           by_cases h36:T.see l rz=36
           ·simp[h36]
           ·simp[h36]
          rw[hend];refine⟨_,rfl,⟨⟨_,_,_,_,_,_,rfl⟩,?_⟩,C15.apart hgr n1 HT1.out,R.zam G15 hgr qN⟩;have t1:=((SB15.cur hgr (by omega)).free (F':=w.heap.size) (by omega)).and (((SS15.cur hgr (by omega)).free (F':=w.heap.size) (by omega)).and ((SA15.cur hgr (by omega)).down (F':=w.heap.size) (by omega)));exact t1.imp fun w' h=>⟨_,_,_,_,_,_,rfl,h.1,h.2.1,h.2.2,by simp only[R.I64];omega⟩
       ·rw[if_neg h125] at C10;have HC10:=qH C10;have d0:=R.zab (i:=0) x10 rfl;have d1:=R.zab (i:=1) x10 rfl;have d2:=R.zab (i:=2) x10 rfl;have d3:=R.zab (i:=3) x10 rfl;have d4:=R.zab (i:=4) x10 rfl;have d5:=R.zab (i:=5) x10 rfl;have q0:=R.zab (i:=0) x102 rfl;have y0:=R.zac (i:=0) x102;have q1:=R.zab (i:=1) x102 rfl;have y1:=R.zac (i:=1) x102;have q2:=R.zab (i:=2) x102 rfl;have y2:=R.zac (i:=2) x102;have q3:=R.zab (i:=3) x102 rfl;have y3:=R.zac (i:=3) x102;have q4:=R.zab (i:=4) x102 rfl;have y4:=R.zac (i:=4) x102;have q5:=R.zab (i:=5) x102 rfl;have y5:=R.zac (i:=5) x102;clear C10 x10 x102;go_wp2;obtain⟨hbx,hgr⟩:=R.put6 HX102.out (.bool false) (.bool false) (.slice vo xs.length vc) (.slice so ys.length sc) (.slice none 0 0) (.int .i64 d);refine bodyPost_ret (R.za2 rfl _ _ w.heap.size #[.bool false,.bool false,.slice vo xs.length vc,.slice so ys.length sc,.slice none 0 0,.int .i64 d] hbx underlying102 (by kernel_rfl) rfl) rfl ?_;have hend:o=.ok ⟨false,false,xs,ys,[],d⟩ r:=by rw[HEnd.out];unfold R.sideTail;rw[if_neg h125]
        rw[hend];refine⟨_,rfl,⟨⟨_,_,_,_,none,0,rfl⟩,?_⟩,HC10.out.apart hgr n1 HT1.out,R.zam HG10.out hgr qN⟩;have t1:=((HSB10.out.cur hgr (by omega)).free (F':=w.heap.size) (by omega)).and ((HSS10.out.cur hgr (by omega)).free (F':=w.heap.size) (by omega));exact t1.imp fun w' h=>⟨_,_,_,_,none,0,rfl,h.1,h.2,R.Its.nil w',by simp only[R.I64];omega⟩
     ·exact h123.elim
   ·have HEnd:Hid (o=R.sideTail l ⟨false,false,[],xs,[],c⟩ q):=by show _=_;rw[HEq3.out,if_neg (by simp[h123a])]
    clear k0 k1 k2;go_wp2;have HX3t:Hid _:=HXb.out;have HX2t:Hid _:=HX2b.out;have HYt:Hid _:=HYb.out;have HCt:Hid _:=HCb.out;have HGt:Hid _:=HGb.out;have HSS:=qH HSb.out;have HSB:Hid (R.Stays (w.heap.size+2) (some w4.heap.size) w5 fun w'=>R.Its w' (.slice none ([]:List R.Item).length 0) []):=fun w' _=>R.Its.nil w'
    try clear y4
    try clear x52
    try clear C5
    try clear G5
    try clear st5
    try clear hs5
    try clear x53
    try clear HX2b
    try clear HYb
    try clear HCb
    try clear HGb
    try clear HSb
    try clear HXb
    try clear k0
    try clear k1
    try clear k2
    try clear a0
    try clear HSt
    try clear HB0
    try clear HX2
    try clear HX3
    try clear HG1
    try clear HP0
    try clear HC1
    try clear hF3
    try clear HEq3
    try clear HG8
    try clear HC8
    try clear hY8
    try clear h123
    try clear h123a
    try clear hc0
    try clear hbl
    try clear HTg
    try clear n3
    try clear n4
    try clear n5
    try clear HO
    try clear HC
    try clear HB9
    try clear HB7
    have b3:=R.zab (i:=3) HX3t.out rfl;have b5:=R.zab (i:=5) HX3t.out rfl;have f3:=R.zac (i:=3) HX3t.out;have f5:=R.zac (i:=5) HX3t.out;have k1:=R.zab (i:=1) HYt.out rfl;have k2:=R.zab (i:=2) HYt.out rfl
    go_region
    have gA:w5.grownBy ((w5.setCell ⟨w.heap.size+1,3,none⟩ (.slice vo xs.length vc)).setCell ⟨w.heap.size+1,5,none⟩ (.int .i64 c)).drew (some (w.heap.size+1)):=S.zaa (S.zaa (R.zak _ _ _ _) (R.zak _ _ _ _)) ⟨rfl,rfl,rfl,qN,fun _ _ _=>rfl⟩;have X9:((w5.setCell ⟨w.heap.size+1,3,none⟩ (.slice vo xs.length vc)).setCell ⟨w.heap.size+1,5,none⟩ (.int .i64 c)).drew.heap[w.heap.size+1]?=some (.cells #[.bool false,.bool false,.slice none ([]:List R.Item).length 0,.slice vo xs.length vc,.slice none 0 0,.int .i64 c] 102):=heap_setCell_same _ (w.heap.size+1) 5 _ 102 _ (heap_setCell_same w5 (w.heap.size+1) 3 _ 102 _ HX3t.out);have X92:=R.zah HX2t.out gA (by omega);have C9:=HCt.out.apart gA n2 HT2.out;have G9:=R.zam HGt.out gA (by omega);have SB9:=HSB.out.cur gA (by omega);have SS9:=HSS.out.cur gA (by omega);generalize ((w5.setCell ⟨w.heap.size+1,3,none⟩ (.slice vo xs.length vc)).setCell ⟨w.heap.size+1,5,none⟩ (.int .i64 c)).drew=w9 at gA X9 X92 C9 G9 SB9 SS9 ⊢;clear gA b3 b5 f3 f5 k1 k2
    go_wp2_with fail
    refine(zaq _ cb tb cap q ao l 125 (by decide) C9).mono ?_;rintro e w10 ⟨rfl,C10,g10⟩;have x10:=R.zah X9 g10 n2;have x102:=R.zah X92 g10 n1;have HG10:=qH<|S.zaa G9 g10;have HSB10:=qH<|SB9.cur g10 (by omega);have HSS10:=qH<|SS9.cur g10 (by omega);have HX10:=qH x10;have HX102:=qH x102;clear X9 X92 C9 G9 SB9 SS9 g10
    by_cases h125:T.see l q=125
    ·rw[if_pos h125] at C10;have HC10:=qH C10;clear C10 x10 x102
     go_wp2_with fail
     refine(zce HK.out _ cb tb cap (q+1) ao l HC10.out).mono ?_;intro e w11 h;cases hci:R.items l (q+1) with
     | bad er rz =>
      rw[hci] at h;obtain⟨rfl,g11⟩:=h;unfold T.thrown;go_wp2;refine⟨rfl,?_⟩;rw[HEnd.out];unfold R.sideTail;rw[if_pos h125,hci];exact⟨rfl,S.zaa HG10.out g11⟩
     | ok zc rz =>
      rw[hci] at h;obtain⟨v11,rfl,⟨ao2,ac,hv11,st11,hzl,hzc1,hzc2⟩,C11,g11⟩:=h;obtain⟨zs,zc⟩:=zc;simp only at hv11 st11 hzl hzc1 hzc2;subst hv11;have HHi:Hid _:=hci;have HC11:=qH C11;have HG11:=qH<|S.zaa HG10.out g11;have HS11:=qH st11;have HSB11:=qH<|HSB10.out.cur g11 (by omega);have HSS11:=qH<|HSS10.out.cur g11 (by omega);have x11:=R.zah HX10.out g11 n2;have x112:=R.zah HX102.out g11 n1;have HX11:=qH x11;have HX112:=qH x112;have hF10:w.heap.size+2<=w10.heap.size:=by have:=(qA.1 HX10.out).1;omega
      clear C11 g11 st11 hci x11 x112;have hq1:=HC10.out.le
      by_cases hz0:0<=zc
      ·go_wp2_with fail
       refine(zdq _ cb (q+1) ao2 zs.length ac zc hz0).mono ?_;unfold T.thrown;rintro e w12 ⟨rfl,b12⟩;go_wp2;refine⟨rfl,?_⟩;rw[HEnd.out];unfold R.sideTail;rw[if_pos h125,HHi.out];simp only;rw[if_pos (by omega)];exact⟨rfl,S.zaa HG11.out (S.zaf b12)⟩
      ·go_wp2_with fail
       refine(zdp _ cb (q+1) (q+1) ao2 zs.length ac zc (by omega) (by omega) rfl).mono ?_;rintro e w12 ⟨rfl,b12⟩;have x12:=R.zae HX11.out b12;have x122:=R.zae HX112.out b12;have d4:=R.zab (i:=4) x12 rfl;have e4:=R.zac (i:=4) x12;have gB:w12.grownBy (w12.setCell ⟨w.heap.size+1,4,none⟩ (.slice ao2 zs.length ac)) (some (w.heap.size+1)):=R.zak _ _ _ _;have X13:(w12.setCell ⟨w.heap.size+1,4,none⟩ (.slice ao2 zs.length ac)).heap[w.heap.size+1]?=some (.cells #[.bool false,.bool false,.slice none ([]:List R.Item).length 0,.slice vo xs.length vc,.slice ao2 zs.length ac,.int .i64 c] 102):=heap_setCell_same w12 (w.heap.size+1) 4 _ 102 _ x12;have HB13:Hid _:=And.intro X13 (And.intro (R.zah x122 gB (by omega)) (And.intro ((HC11.out.below b12).apart gB n2 HT2.out) (And.intro (R.zam (S.zaa HG11.out (S.zaf (r:=some cb) b12)) gB (by omega)) (And.intro ((HSB11.out.below b12).cur gB (by omega)) (And.intro ((HSS11.out.below b12).cur gB (by omega)) ((HS11.out.below b12).cur gB (by omega)))))));clear x12 x122 gB X13 b12
       go_wp2_with fail
       refine(zaq _ cb tb cap rz ao l 36 (by decide) HB13.out.2.2.1).mono ?_;obtain⟨X13,X132,C13,G13,SB13,SS13,SA13⟩:=HB13.out;generalize w12.setCell ⟨w.heap.size+1,4,none⟩ (.slice ao2 zs.length ac)=w13 at X13 X132 C13 G13 SB13 SS13 SA13;clear HB13 d4 e4;rintro e w14 ⟨rfl,C14,g14⟩;obtain⟨fi,HFi⟩:∃fi,Hid (decide (T.see l rz=36)=fi):=⟨_,rfl⟩;obtain⟨r2,HR2⟩:∃r2,Hid ((if T.see l rz=36 then rz+1 else rz)=r2):=⟨_,rfl⟩;rw[HFi.out];rw[HR2.out] at C14;have x14:=R.zah X13 g14 n2;have x142:=R.zah X132 g14 n1;have G14:=S.zaa G13 g14;have HS14:Hid _:=And.intro (SB13.cur g14 (by omega)) (And.intro (SS13.cur g14 (by omega)) (SA13.cur g14 (by omega)));have gC:w14.grownBy (w14.setCell ⟨w.heap.size+1,1,none⟩ (.bool fi)) (some (w.heap.size+1)):=R.zak _ _ _ _;have X15:(w14.setCell ⟨w.heap.size+1,1,none⟩ (.bool fi)).heap[w.heap.size+1]?=some (.cells #[.bool false,.bool fi,.slice none ([]:List R.Item).length 0,.slice vo xs.length vc,.slice ao2 zs.length ac,.int .i64 c] 102):=heap_setCell_same w14 (w.heap.size+1) 1 _ 102 _ x14;have X152:=R.zah x142 gC (by omega);have d1:=R.zab (i:=1) x14 rfl;have e1:=R.zac (i:=1) x14;have HX15:Hid _:=And.intro X15 (And.intro X152 (And.intro (C14.apart gC n2 HT2.out) (R.zam G14 gC (by omega))));have HS15:Hid _:=And.intro (HS14.out.1.cur gC (by omega)) (And.intro (HS14.out.2.1.cur gC (by omega)) (HS14.out.2.2.cur gC (by omega)));clear X13 X132 C13 G13 SB13 SS13 SA13 C14 g14 x14 x142 G14 gC X15 X152 HS14
       go_upto_region 13 with fail
       obtain⟨X15,X152,C15,G15⟩:=HX15.out;obtain⟨SB15,SS15,SA15⟩:=HS15.out;generalize w14.setCell ⟨w.heap.size+1,1,none⟩ (.bool fi)=w15 at X15 X152 C15 G15 SB15 SS15 SA15 ⊢;clear HX15 HS15 d1 e1;have d0:=R.zab (i:=0) X15 rfl;have d1:=R.zab (i:=1) X15 rfl;have d2:=R.zab (i:=2) X15 rfl;have d3:=R.zab (i:=3) X15 rfl;have d4:=R.zab (i:=4) X15 rfl;have d5:=R.zab (i:=5) X15 rfl;have q0:=R.zab (i:=0) X152 rfl;have y0:=R.zac (i:=0) X152;have q1:=R.zab (i:=1) X152 rfl;have y1:=R.zac (i:=1) X152;have q2:=R.zab (i:=2) X152 rfl;have y2:=R.zac (i:=2) X152;have q3:=R.zab (i:=3) X152 rfl;have y3:=R.zac (i:=3) X152;have q4:=R.zab (i:=4) X152 rfl;have y4:=R.zac (i:=4) X152;have q5:=R.zab (i:=5) X152 rfl;have y5:=R.zac (i:=5) X152;have HZ15:Hid _:=And.intro X152 (And.intro C15 G15);have HS15:Hid _:=And.intro SB15 (And.intro SS15 SA15);clear X15 X152 C15 G15 SB15 SS15 SA15;go_wp2;obtain⟨X152,C15,G15⟩:=HZ15.out;obtain⟨SB15,SS15,SA15⟩:=HS15.out;obtain⟨hbx,hgr⟩:=R.put6 X152 (.bool false) (.bool fi) (.slice none ([]:List R.Item).length 0) (.slice vo xs.length vc) (.slice ao2 zs.length ac) (.int .i64 c);refine bodyPost_ret (R.za2 rfl _ _ w.heap.size #[.bool false,.bool fi,.slice none ([]:List R.Item).length 0,.slice vo xs.length vc,.slice ao2 zs.length ac,.int .i64 c] hbx underlying102 (by kernel_rfl) rfl) rfl ?_
       have hend:o=.ok ⟨false,fi,[],xs,zs,c⟩ r2:=by
        rw[HEnd.out];unfold R.sideTail;rw[if_pos h125,HHi.out];simp only;rw[if_neg (by omega),<- HFi.out,<- HR2.out]
        by_cases h36:T.see l rz=36
        ·simp[h36]
        ·simp[h36]
       rw[hend];refine⟨_,rfl,⟨⟨_,_,_,_,_,_,rfl⟩,?_⟩,C15.apart hgr n1 HT1.out,R.zam G15 hgr qN⟩;have t1:=((SB15.cur hgr (by omega)).free (F':=w.heap.size) (by omega)).and (((SS15.cur hgr (by omega)).free (F':=w.heap.size) (by omega)).and ((SA15.cur hgr (by omega)).down (F':=w.heap.size) (by omega)));exact t1.imp fun w' h=>⟨_,_,_,_,_,_,rfl,h.1,h.2.1,h.2.2,by simp only[R.I64];omega⟩
    ·rw[if_neg h125] at C10;have HC10:=qH C10;have d0:=R.zab (i:=0) x10 rfl;have d1:=R.zab (i:=1) x10 rfl;have d2:=R.zab (i:=2) x10 rfl;have d3:=R.zab (i:=3) x10 rfl;have d4:=R.zab (i:=4) x10 rfl;have d5:=R.zab (i:=5) x10 rfl;have q0:=R.zab (i:=0) x102 rfl;have y0:=R.zac (i:=0) x102;have q1:=R.zab (i:=1) x102 rfl;have y1:=R.zac (i:=1) x102;have q2:=R.zab (i:=2) x102 rfl;have y2:=R.zac (i:=2) x102;have q3:=R.zab (i:=3) x102 rfl;have y3:=R.zac (i:=3) x102;have q4:=R.zab (i:=4) x102 rfl;have y4:=R.zac (i:=4) x102;have q5:=R.zab (i:=5) x102 rfl;have y5:=R.zac (i:=5) x102;clear C10 x10 x102;go_wp2;obtain⟨hbx,hgr⟩:=R.put6 HX102.out (.bool false) (.bool false) (.slice none ([]:List R.Item).length 0) (.slice vo xs.length vc) (.slice none 0 0) (.int .i64 c);refine bodyPost_ret (R.za2 rfl _ _ w.heap.size #[.bool false,.bool false,.slice none ([]:List R.Item).length 0,.slice vo xs.length vc,.slice none 0 0,.int .i64 c] hbx underlying102 (by kernel_rfl) rfl) rfl ?_;have hend:o=.ok ⟨false,false,[],xs,[],c⟩ q:=by rw[HEnd.out];unfold R.sideTail;rw[if_neg h125]
     rw[hend];refine⟨_,rfl,⟨⟨_,_,_,_,none,0,rfl⟩,?_⟩,HC10.out.apart hgr n1 HT1.out,R.zam HG10.out hgr qN⟩;have t1:=((HSB10.out.cur hgr (by omega)).free (F':=w.heap.size) (by omega)).and ((HSS10.out.cur hgr (by omega)).free (F':=w.heap.size) (by omega));exact t1.imp fun w' h=>⟨_,_,_,_,none,0,rfl,h.1,h.2,R.Its.nil w',by simp only[R.I64];omega⟩
def R.isPart (F:Nat) (p:R.Part) (v:Value) (w:World):Prop:=(∃so sc lbo lbc lso lsc lao lac rbo rbc rso rsc rao rac,v=.agg #[.int .i64 p.kind,.string p.name,.slice so p.set.length sc,.int .i64 p.dir,.bool p.left.start,.bool p.left.fin,.slice lbo p.left.before.length lbc,.slice lso p.left.source.length lsc,.slice lao p.left.after.length lac,.int .i64 p.left.cursor,.bool p.right.start,.bool p.right.fin,.slice rbo p.right.before.length rbc,.slice rso p.right.source.length rsc,.slice rao p.right.after.length rac,.int .i64 p.right.cursor])/\R.Stays F none w fun w'=>R.PtIs w' v p
def R.isInt (d:Int) (v:Value) (_:World):Prop:=v=.int .i64 d
theorem R.zcd (w:World):R.SdIs w (.agg #[.bool false,.bool false,.slice none 0 0,.slice none 0 0,.slice none 0 0,.int .i64 0]) R.noSide :=
 ⟨none,0,none,0,none,0,rfl,R.Its.nil w,R.Its.nil w,R.Its.nil w,by simp[R.I64,R.noSide]⟩
theorem R.zve {l:List Int}{p q:Nat}{d:Int}(h:R.dirAt l p=.ok d q):d=1∨d=2∨d=3:=by
 unfold R.dirAt at h;simp only at h;split at h
 ·cases h;simp
 ·split at h
  ·cases h
  ·split at h
   ·cases h;simp
   ·cases h;simp
theorem zhy (w:World)(cb tb cap p:Nat)(ao:Option Addr)(l:List Int)(C:T.Cur w cb tb cap ao l p) :
  Calls prog 135 #[.pointer (some ⟨cb,0,none⟩)] w (T.Ends w cb tb cap ao l (R.dirAt l p) R.isInt):=by
 have HC:=qH C;clear C;obtain⟨o,HO⟩:∃o,Hid (R.dirAt l p=o):=⟨_,rfl⟩;rw[HO.out]
 go_enter func135,ntmps135
 go_wp2_with fail
 refine(zaz _ cb tb cap p ao l HC.out).mono ?_;rintro e w1 ⟨rfl,C1,g1⟩;obtain⟨P0,HP0⟩:∃P0,Hid (R.gap l p=P0):=⟨_,rfl⟩;rw[HP0.out] at C1;have HC1:=qH C1;have HG1:=qH g1;clear C1 g1
 go_wp2_with fail
 refine(zaq _ cb tb cap P0 ao l 62 (by decide) HC1.out).mono ?_;rintro e w2 ⟨rfl,C2,g2⟩;have HG2:=qH<|S.zaa HG1.out g2;clear g2
 by_cases h62:T.see l P0=62
 ·rw[if_pos h62] at C2;have HC2:=qH C2;clear C2;go_wp2;go_ret;rw[<- HO.out];unfold R.dirAt;simp only;rw[HP0.out,if_pos h62];exact⟨_,rfl,rfl,HC2.out,HG2.out⟩
 ·rw[if_neg h62] at C2;have HC2:=qH C2;clear C2
  by_cases h60:T.see l P0=60
  ·go_wp2_with fail
   refine(za0 _ cb tb cap P0 ao l 60 (by decide) HC2.out h60).mono ?_;rintro e w3 ⟨rfl,C3,g3⟩;have HC3:=qH C3;have HG3:=qH<|S.zaa HG2.out g3;clear C3 g3
   go_wp2_with fail
   refine(zaq _ cb tb cap (P0+1) ao l 62 (by decide) HC3.out).mono ?_;rintro e w4 ⟨rfl,C4,g4⟩;have HG4:=qH<|S.zaa HG3.out g4;clear g4
   by_cases h622:T.see l (P0+1)=62
   ·rw[if_pos h622] at C4;have HC4:Hid (T.Cur w4 cb tb cap ao l (P0+2)):=C4;clear C4;go_wp2;go_ret;rw[<- HO.out];unfold R.dirAt;simp only;rw[HP0.out,if_neg h62,if_neg (by simp[h60]),if_pos h622];exact⟨_,rfl,rfl,HC4.out,HG4.out⟩
   ·rw[if_neg h622] at C4;have HC4:=qH C4;clear C4;go_wp2;go_ret;rw[<- HO.out];unfold R.dirAt;simp only;rw[HP0.out,if_neg h62,if_neg (by simp[h60]),if_neg h622];exact⟨_,rfl,rfl,HC4.out,HG4.out⟩
  ·go_wp2_with fail
   refine(zb0 _ cb tb cap P0 ao l 60 (by decide) HC2.out h60).mono ?_;unfold T.thrown;rintro e w3 ⟨rfl,g3⟩;go_wp2;refine⟨rfl,?_⟩;rw[<- HO.out];unfold R.dirAt;simp only;rw[HP0.out,if_neg h62,if_pos h60];exact⟨rfl,S.zaa HG2.out g3⟩
theorem zmx (hK:T.ClassOk)(w:World)(cb tb cap p:Nat)(ao:Option Addr)(l:List Int)(C:T.Cur w cb tb cap ao l p) :
  Calls prog 112 #[.pointer (some ⟨cb,0,none⟩)] w (T.Ends w cb tb cap ao l (R.rule l p) (R.isPart w.heap.size)):=by
 obtain⟨he1,he2⟩:=C.elder;have HE2:=qH he2;have HK:=qH hK;have HC:=qH C;clear C he2 hK;obtain⟨o,HO⟩:∃o,Hid (R.rule l p=o):=⟨_,rfl⟩;rw[HO.out];have n1:¬w.heap.size=cb:=by omega
 have n2:¬w.heap.size+1=cb:=by omega
 have HT1:Hid (l≠ []->w.heap.size≠tb):=fun h=>by have:=HE2.out h;omega
 have HT2:Hid (l≠ []->w.heap.size+1≠tb):=fun h=>by have:=HE2.out h;omega
 go_enter func112,ntmps112
 go_wp2_with fail
 have bA:=(qR w).alloc qN (.cells #[.int .i64 0,.string ⟨#[]⟩,.slice none 0 0,.int .i64 0,.bool false,.bool false,.slice none 0 0,.slice none 0 0,.slice none 0 0,.int .i64 0,.bool false,.bool false,.slice none 0 0,.slice none 0 0,.slice none 0 0,.int .i64 0] 104);have x2:(w.alloc (.cells #[.int .i64 0,.string ⟨#[]⟩,.slice none 0 0,.int .i64 0,.bool false,.bool false,.slice none 0 0,.slice none 0 0,.slice none 0 0,.int .i64 0,.bool false,.bool false,.slice none 0 0,.slice none 0 0,.slice none 0 0,.int .i64 0] 104)).heap[w.heap.size]?=some (.cells #[.int .i64 0,.string ⟨#[]⟩,.slice none 0 0,.int .i64 0,.bool false,.bool false,.slice none 0 0,.slice none 0 0,.slice none 0 0,.int .i64 0,.bool false,.bool false,.slice none 0 0,.slice none 0 0,.slice none 0 0,.int .i64 0] 104):=heap_alloc_new w _;have hsz:(w.alloc (.cells #[.int .i64 0,.string ⟨#[]⟩,.slice none 0 0,.int .i64 0,.bool false,.bool false,.slice none 0 0,.slice none 0 0,.slice none 0 0,.int .i64 0,.bool false,.bool false,.slice none 0 0,.slice none 0 0,.slice none 0 0,.int .i64 0] 104)).heap.size=w.heap.size+1:=by simp
 have x3:=heap_alloc_new (w.alloc (.cells #[.int .i64 0,.string ⟨#[]⟩,.slice none 0 0,.int .i64 0,.bool false,.bool false,.slice none 0 0,.slice none 0 0,.slice none 0 0,.int .i64 0,.bool false,.bool false,.slice none 0 0,.slice none 0 0,.slice none 0 0,.int .i64 0] 104)) (.cells #[.int .i64 2,.string ⟨#[]⟩,.slice none 0 0,.int .i64 0,.bool false,.bool false,.slice none 0 0,.slice none 0 0,.slice none 0 0,.int .i64 0,.bool false,.bool false,.slice none 0 0,.slice none 0 0,.slice none 0 0,.int .i64 0] 104);have bB:=(qR (w.alloc (.cells #[.int .i64 0,.string ⟨#[]⟩,.slice none 0 0,.int .i64 0,.bool false,.bool false,.slice none 0 0,.slice none 0 0,.slice none 0 0,.int .i64 0,.bool false,.bool false,.slice none 0 0,.slice none 0 0,.slice none 0 0,.int .i64 0] 104))).alloc qN (.cells #[.int .i64 2,.string ⟨#[]⟩,.slice none 0 0,.int .i64 0,.bool false,.bool false,.slice none 0 0,.slice none 0 0,.slice none 0 0,.int .i64 0,.bool false,.bool false,.slice none 0 0,.slice none 0 0,.slice none 0 0,.int .i64 0] 104);have x2':=R.zae x2 bB;have bW:=bA.trans (bB.mono (by rw[hsz];omega));rw[hsz] at x3;have CW:=HC.out.below bW;have GW:w.grownBy _ (some cb):=S.zaf bW;have hFW:w.heap.size+2<=((w.alloc (.cells #[.int .i64 0,.string ⟨#[]⟩,.slice none 0 0,.int .i64 0,.bool false,.bool false,.slice none 0 0,.slice none 0 0,.slice none 0 0,.int .i64 0,.bool false,.bool false,.slice none 0 0,.slice none 0 0,.slice none 0 0,.int .i64 0] 104)).alloc (.cells #[.int .i64 2,.string ⟨#[]⟩,.slice none 0 0,.int .i64 0,.bool false,.bool false,.slice none 0 0,.slice none 0 0,.slice none 0 0,.int .i64 0,.bool false,.bool false,.slice none 0 0,.slice none 0 0,.slice none 0 0,.int .i64 0] 104)).heap.size:=by simp
 refine(zls HK.out _ cb tb cap p ao l CW).mono ?_;generalize (w.alloc (.cells #[.int .i64 0,.string ⟨#[]⟩,.slice none 0 0,.int .i64 0,.bool false,.bool false,.slice none 0 0,.slice none 0 0,.slice none 0 0,.int .i64 0,.bool false,.bool false,.slice none 0 0,.slice none 0 0,.slice none 0 0,.int .i64 0] 104)).alloc (.cells #[.int .i64 2,.string ⟨#[]⟩,.slice none 0 0,.int .i64 0,.bool false,.bool false,.slice none 0 0,.slice none 0 0,.slice none 0 0,.int .i64 0,.bool false,.bool false,.slice none 0 0,.slice none 0 0,.slice none 0 0,.int .i64 0] 104)=W0 at x3 bB x2' bW CW GW hFW;clear bA bB bW CW x2 hsz;intro e w1 h;cases hc1:R.side l p with
 | bad er q =>
  rw[hc1] at h;obtain⟨rfl,g1⟩:=h;unfold T.thrown;go_wp2;refine⟨rfl,?_⟩;rw[<- HO.out];unfold R.rule;rw[hc1];exact⟨rfl,S.zaa GW g1⟩
 | ok a q =>
  rw[hc1] at h;obtain⟨v1,rfl,⟨⟨lbo,lbc,lso,lsc,lao,lac,hv1⟩,s1⟩,C1,g1⟩:=h;subst hv1;have s1':=s1.down hFW;have y3:=R.zah x3 g1 n2;have y2:=R.zah x2' g1 n1;have c4:=R.zab (i:=4) y3 rfl;have fc4:=R.zac (i:=4) y3;have c5:=R.zab (i:=5) y3 rfl;have fc5:=R.zac (i:=5) y3;have c6:=R.zab (i:=6) y3 rfl;have fc6:=R.zac (i:=6) y3;have c7:=R.zab (i:=7) y3 rfl;have fc7:=R.zac (i:=7) y3;have c8:=R.zab (i:=8) y3 rfl;have fc8:=R.zac (i:=8) y3;have c9:=R.zab (i:=9) y3 rfl;have fc9:=R.zac (i:=9) y3;obtain⟨X2,gX⟩:=R.putMid [.bool a.start,.bool a.fin,.slice lbo a.before.length lbc,.slice lso a.source.length lsc,.slice lao a.after.length lac,.int .i64 a.cursor] w1 4 _ y3 (by simp);have X2':(((((((w1.setCell ⟨w.heap.size+1,4,none⟩ (.bool a.start)).setCell ⟨w.heap.size+1,5,none⟩ (.bool a.fin)).setCell ⟨w.heap.size+1,6,none⟩ (.slice lbo a.before.length lbc)).setCell ⟨w.heap.size+1,7,none⟩ (.slice lso a.source.length lsc)).setCell ⟨w.heap.size+1,8,none⟩ (.slice lao a.after.length lac)).setCell ⟨w.heap.size+1,9,none⟩ (.int .i64 a.cursor))).heap[w.heap.size+1]?=some (.cells #[.int .i64 2,.string ⟨#[]⟩,.slice none 0 0,.int .i64 0,.bool a.start,.bool a.fin,.slice lbo a.before.length lbc,.slice lso a.source.length lsc,.slice lao a.after.length lac,.int .i64 a.cursor,.bool false,.bool false,.slice none 0 0,.slice none 0 0,.slice none 0 0,.int .i64 0] 104):=X2;have gX':w1.grownBy (((((((w1.setCell ⟨w.heap.size+1,4,none⟩ (.bool a.start)).setCell ⟨w.heap.size+1,5,none⟩ (.bool a.fin)).setCell ⟨w.heap.size+1,6,none⟩ (.slice lbo a.before.length lbc)).setCell ⟨w.heap.size+1,7,none⟩ (.slice lso a.source.length lsc)).setCell ⟨w.heap.size+1,8,none⟩ (.slice lao a.after.length lac)).setCell ⟨w.heap.size+1,9,none⟩ (.int .i64 a.cursor))) (some (w.heap.size+1)):=gX;have HB2:Hid _:=And.intro X2' (And.intro (R.zah y2 gX' (by omega)) (And.intro (C1.apart gX' n2 HT2.out) (And.intro (R.zam (S.zaa GW g1) gX' (by omega)) (s1'.cur gX' (by omega)))));have HH1:Hid _:=hc1;clear X2 gX X2' gX' y3 y2 x3 x2' GW C1 g1 s1 s1' hc1
  go_wp2_with fail
  refine(zhy _ cb tb cap q ao l HB2.out.2.2.1).mono ?_;obtain⟨X2,X22,C2,G2,S2⟩:=HB2.out;generalize ((((((w1.setCell ⟨w.heap.size+1,4,none⟩ (.bool a.start)).setCell ⟨w.heap.size+1,5,none⟩ (.bool a.fin)).setCell ⟨w.heap.size+1,6,none⟩ (.slice lbo a.before.length lbc)).setCell ⟨w.heap.size+1,7,none⟩ (.slice lso a.source.length lsc)).setCell ⟨w.heap.size+1,8,none⟩ (.slice lao a.after.length lac)).setCell ⟨w.heap.size+1,9,none⟩ (.int .i64 a.cursor))=w2 at X2 X22 C2 G2 S2;clear HB2 c4 fc4 c5 fc5 c6 fc6 c7 fc7 c8 fc8 c9 fc9;intro e w3 h;cases hc2:R.dirAt l q with
  | bad er r =>
   rw[hc2] at h;obtain⟨rfl,g3⟩:=h;unfold T.thrown;go_wp2;refine⟨rfl,?_⟩;rw[<- HO.out];unfold R.rule;rw[HH1.out];simp only;rw[hc2];exact⟨rfl,S.zaa G2 g3⟩
  | ok d r =>
   rw[hc2] at h;obtain⟨v3,rfl,hv3,C3,g3⟩:=h;unfold R.isInt at hv3;subst hv3;have y3:=R.zah X2 g3 n2;have y2:=R.zah X22 g3 n1;have c3:=R.zab (i:=3) y3 rfl;have fc3:=R.zac (i:=3) y3;have gX:w3.grownBy (w3.setCell ⟨w.heap.size+1,3,none⟩ (.int .i64 d)) (some (w.heap.size+1)):=R.zak _ _ _ _;have X4:(w3.setCell ⟨w.heap.size+1,3,none⟩ (.int .i64 d)).heap[w.heap.size+1]?=some (.cells #[.int .i64 2,.string ⟨#[]⟩,.slice none 0 0,.int .i64 d,.bool a.start,.bool a.fin,.slice lbo a.before.length lbc,.slice lso a.source.length lsc,.slice lao a.after.length lac,.int .i64 a.cursor,.bool false,.bool false,.slice none 0 0,.slice none 0 0,.slice none 0 0,.int .i64 0] 104):=heap_setCell_same w3 (w.heap.size+1) 3 _ 104 _ y3;have HB4:Hid _:=And.intro X4 (And.intro (R.zah y2 gX (by omega)) (And.intro (C3.apart gX n2 HT2.out) (And.intro (R.zam (S.zaa G2 g3) gX (by omega)) ((S2.cur g3 (by omega)).cur gX (by omega)))));have HH2:Hid _:=hc2;clear X4 gX y3 y2 X2 X22 C2 G2 S2 C3 g3 hc2
   go_wp2_with fail
   refine(zls HK.out _ cb tb cap r ao l HB4.out.2.2.1).mono ?_;obtain⟨X4,X42,C4,G4,S4⟩:=HB4.out;generalize w3.setCell ⟨w.heap.size+1,3,none⟩ (.int .i64 d)=w4 at X4 X42 C4 G4 S4;clear HB4 c3 fc3;intro e w5 h;cases hc3:R.side l r with
   | bad er t =>
    rw[hc3] at h;obtain⟨rfl,g5⟩:=h;unfold T.thrown;go_wp2;refine⟨rfl,?_⟩;rw[<- HO.out];unfold R.rule;rw[HH1.out];simp only;rw[HH2.out];simp only;rw[hc3];exact⟨rfl,S.zaa G4 g5⟩
   | ok b t =>
    rw[hc3] at h;obtain⟨v5,rfl,⟨⟨rbo,rbc,rso,rsc,rao,rac,hv5⟩,s5⟩,C5,g5⟩:=h;subst hv5;have y3:=R.zah X4 g5 n2;have y2:=R.zah X42 g5 n1;have hF4:w.heap.size+2<=w4.heap.size:=by have:=(qA.1 X4).1;omega
    have s5':=s5.down hF4;have c10:=R.zab (i:=10) y3 rfl;have fc10:=R.zac (i:=10) y3;have c11:=R.zab (i:=11) y3 rfl;have fc11:=R.zac (i:=11) y3;have c12:=R.zab (i:=12) y3 rfl;have fc12:=R.zac (i:=12) y3;have c13:=R.zab (i:=13) y3 rfl;have fc13:=R.zac (i:=13) y3;have c14:=R.zab (i:=14) y3 rfl;have fc14:=R.zac (i:=14) y3;have c15:=R.zab (i:=15) y3 rfl;have fc15:=R.zac (i:=15) y3;obtain⟨X6,gX⟩:=R.putMid [.bool b.start,.bool b.fin,.slice rbo b.before.length rbc,.slice rso b.source.length rsc,.slice rao b.after.length rac,.int .i64 b.cursor] w5 10 _ y3 (by simp);have X6':((((((w5.setCell ⟨w.heap.size+1,10,none⟩ (.bool b.start)).setCell ⟨w.heap.size+1,11,none⟩ (.bool b.fin)).setCell ⟨w.heap.size+1,12,none⟩ (.slice rbo b.before.length rbc)).setCell ⟨w.heap.size+1,13,none⟩ (.slice rso b.source.length rsc)).setCell ⟨w.heap.size+1,14,none⟩ (.slice rao b.after.length rac)).setCell ⟨w.heap.size+1,15,none⟩ (.int .i64 b.cursor)).heap[w.heap.size+1]?=some (.cells #[.int .i64 2,.string ⟨#[]⟩,.slice none 0 0,.int .i64 d,.bool a.start,.bool a.fin,.slice lbo a.before.length lbc,.slice lso a.source.length lsc,.slice lao a.after.length lac,.int .i64 a.cursor,.bool b.start,.bool b.fin,.slice rbo b.before.length rbc,.slice rso b.source.length rsc,.slice rao b.after.length rac,.int .i64 b.cursor] 104):=X6;have gX':w5.grownBy ((((((w5.setCell ⟨w.heap.size+1,10,none⟩ (.bool b.start)).setCell ⟨w.heap.size+1,11,none⟩ (.bool b.fin)).setCell ⟨w.heap.size+1,12,none⟩ (.slice rbo b.before.length rbc)).setCell ⟨w.heap.size+1,13,none⟩ (.slice rso b.source.length rsc)).setCell ⟨w.heap.size+1,14,none⟩ (.slice rao b.after.length rac)).setCell ⟨w.heap.size+1,15,none⟩ (.int .i64 b.cursor)) (some (w.heap.size+1)):=gX;have HB6:Hid _:=And.intro X6' (And.intro (R.zah y2 gX' (by omega)) (And.intro (C5.apart gX' n2 HT2.out) (And.intro (R.zam (S.zaa G4 g5) gX' (by omega)) (And.intro ((S4.cur g5 (by omega)).cur gX' (by omega)) (s5'.cur gX' (by omega))))));have hend:o=.ok ⟨2,⟨#[]⟩,[],d,a,b⟩ t:=by rw[<- HO.out];unfold R.rule;rw[HH1.out];simp only;rw[HH2.out];simp only;rw[hc3]
    have HEnd:Hid _:=hend;have hdb:=R.zve HH2.out;have HDb:Hid _:=hdb;clear X6 gX X6' gX' y3 y2 X4 X42 C4 G4 S4 s5 s5' C5 g5 hc3 hend hdb
    go_upto_region 5 with fail
    obtain⟨X6,X62,C6,G6,S6,S62⟩:=HB6.out;generalize ((((((w5.setCell ⟨w.heap.size+1,10,none⟩ (.bool b.start)).setCell ⟨w.heap.size+1,11,none⟩ (.bool b.fin)).setCell ⟨w.heap.size+1,12,none⟩ (.slice rbo b.before.length rbc)).setCell ⟨w.heap.size+1,13,none⟩ (.slice rso b.source.length rsc)).setCell ⟨w.heap.size+1,14,none⟩ (.slice rao b.after.length rac)).setCell ⟨w.heap.size+1,15,none⟩ (.int .i64 b.cursor))=w6 at X6 X62 C6 G6 S6 S62 ⊢;clear HB6 c10 fc10 c11 fc11 c12 fc12 c13 fc13 c14 fc14 c15 fc15;have c0:=R.zab (i:=0) X6 rfl;have c1:=R.zab (i:=1) X6 rfl;have c2:=R.zab (i:=2) X6 rfl;have c3:=R.zab (i:=3) X6 rfl;have c4:=R.zab (i:=4) X6 rfl;have c5:=R.zab (i:=5) X6 rfl;have c6:=R.zab (i:=6) X6 rfl;have c7:=R.zab (i:=7) X6 rfl;have c8:=R.zab (i:=8) X6 rfl;have c9:=R.zab (i:=9) X6 rfl;have c10:=R.zab (i:=10) X6 rfl;have c11:=R.zab (i:=11) X6 rfl;have c12:=R.zab (i:=12) X6 rfl;have c13:=R.zab (i:=13) X6 rfl;have c14:=R.zab (i:=14) X6 rfl;have c15:=R.zab (i:=15) X6 rfl;have k0:=R.zab (i:=0) X62 rfl;have fk0:=R.zac (i:=0) X62;have k1:=R.zab (i:=1) X62 rfl;have fk1:=R.zac (i:=1) X62;have k2:=R.zab (i:=2) X62 rfl;have fk2:=R.zac (i:=2) X62;have k3:=R.zab (i:=3) X62 rfl;have fk3:=R.zac (i:=3) X62;have k4:=R.zab (i:=4) X62 rfl;have fk4:=R.zac (i:=4) X62;have k5:=R.zab (i:=5) X62 rfl;have fk5:=R.zac (i:=5) X62;have k6:=R.zab (i:=6) X62 rfl;have fk6:=R.zac (i:=6) X62;have k7:=R.zab (i:=7) X62 rfl;have fk7:=R.zac (i:=7) X62;have k8:=R.zab (i:=8) X62 rfl;have fk8:=R.zac (i:=8) X62;have k9:=R.zab (i:=9) X62 rfl;have fk9:=R.zac (i:=9) X62;have k10:=R.zab (i:=10) X62 rfl;have fk10:=R.zac (i:=10) X62;have k11:=R.zab (i:=11) X62 rfl;have fk11:=R.zac (i:=11) X62;have k12:=R.zab (i:=12) X62 rfl;have fk12:=R.zac (i:=12) X62;have k13:=R.zab (i:=13) X62 rfl;have fk13:=R.zac (i:=13) X62;have k14:=R.zab (i:=14) X62 rfl;have fk14:=R.zac (i:=14) X62;have k15:=R.zab (i:=15) X62 rfl;have fk15:=R.zac (i:=15) X62;have HX62:Hid _:=X62;have HZ:Hid _:=And.intro C6 (And.intro G6 (And.intro S6 S62));clear X6 X62 C6 G6 S6 S62;go_wp2;obtain⟨C6,G6,S6,S62⟩:=HZ.out;obtain⟨hbx,hgr⟩:=R.put16 HX62.out (.int .i64 2) (.string ⟨#[]⟩) (.slice none 0 0) (.int .i64 d) (.bool a.start) (.bool a.fin) (.slice lbo a.before.length lbc) (.slice lso a.source.length lsc) (.slice lao a.after.length lac) (.int .i64 a.cursor) (.bool b.start) (.bool b.fin) (.slice rbo b.before.length rbc) (.slice rso b.source.length rsc) (.slice rao b.after.length rac) (.int .i64 b.cursor);refine bodyPost_ret (R.za2 rfl _ _ w.heap.size #[.int .i64 2,.string ⟨#[]⟩,.slice none 0 0,.int .i64 d,.bool a.start,.bool a.fin,.slice lbo a.before.length lbc,.slice lso a.source.length lsc,.slice lao a.after.length lac,.int .i64 a.cursor,.bool b.start,.bool b.fin,.slice rbo b.before.length rbc,.slice rso b.source.length rsc,.slice rao b.after.length rac,.int .i64 b.cursor] hbx underlying104 (by kernel_rfl) rfl) rfl ?_;rw[HEnd.out];refine⟨_,rfl,⟨⟨none,0,lbo,lbc,lso,lsc,lao,lac,rbo,rbc,rso,rsc,rao,rac,rfl⟩,?_⟩,C6.apart hgr n1 HT1.out,R.zam G6 hgr qN⟩;have t1:=((S6.cur hgr (by omega)).and (S62.cur hgr (by omega))).down (F':=w.heap.size) (by omega);exact t1.imp fun w' h=>⟨none,0,_,_,_,_,_,_,_,_,_,_,_,_,rfl,S.Rd.nil w',(fun x hx=>(by cases hx)),h.1,h.2,Nat.zero_le _,by have:=HDb.out;simp only[R.I64];omega⟩
theorem R.zb7 {w w1:World}{c:Array Value}{t:TypeId}(h:Below (w.alloc (.cells c t)).heap.size (w.alloc (.cells c t)) w1) :
  w1.heap[w.heap.size]?=some (.cells c t)/\Bl w w1/\w.heap.size<w1.heap.size:=by
 have hs:=h.size;have e:(w.alloc (.cells c t)).heap.size=w.heap.size+1:=by simp
 refine⟨?_,((qR w).alloc qN _).trans (h.mono (by omega)),by omega⟩;rw[h.block _ (by omega)];exact heap_alloc_new w _
theorem R.zc2 {w w1:World}{b:Nat}{o:Obj}(h:w.heap[b]?=some o)(hb:Bl w w1):w1.heap[b]?=some o:=by
 rw[hb.block b (qA.1 h).1];exact h
theorem R.zad {w:World}{b i:Nat}{c:Array Value}{t:TypeId}{v:Value}(h:w.heap[b]?=some (.cells c t))(hv:c[i]?=some v):w.cell? ⟨b,i,none⟩=some v:=by
 rw[Lib.cell_of_heap h];exact hv
theorem R.box2 {w:World}{g:Nat}{a b:Value}{t:TypeId}(hg:w.heap[g]?=some (.cells #[a,b] t)):w.cell? ⟨g,0,none⟩=some a/\w.cell? ⟨g,1,none⟩=some b/\w.frozen? ⟨g,0,none⟩=false/\w.frozen? ⟨g,1,none⟩=false:=by
 refine⟨?_,?_,?_,?_⟩
 ·rw[World.cell?];simp[hg]
 ·rw[World.cell?];simp[hg]
 ·rw[World.frozen?];simp[hg]
 ·rw[World.frozen?];simp[hg]
theorem zha (w:World)(x:R.Item)(so:Option Addr)(sc:Nat)(R0:S.Rd w (.slice so x.set.length sc) x.set)(hf:S.Fit x.set) :
  Calls prog 172 #[.agg #[.int .i64 x.kind,.int .i32 x.rune,.slice so x.set.length sc,.string x.name]] w fun e w'=>e=.returned (.int .i64 (R.itemE x))/\Bl w w':=by
 obtain⟨k,r,s,n⟩:=x;simp only at R0 hf ⊢;have HA:=qH<|fun o=>(qR w).alloc qN o
 have HW:Hid (∀o,Calls prog 73 #[.slice so s.length sc] (w.alloc o) fun e w'=>e=.returned (.int .i64 (S.wrongE s))/\Bl w w'):=fun o=>by
  refine(zcc _ _ s (R.zc4 R0 (R.Keeps.alloc w o)) hf).mono ?_;rintro e w' ⟨h1,h2⟩;exact⟨h1,(HA.out o).trans (h2.mono (by simp))⟩
 have HN:Hid (∀o,Calls prog 113 #[.string n] (w.alloc o) fun e w'=>e=.returned (.bool (R.named n))/\Bl w w'):=fun o=>by
  refine(zd1 n _).mono ?_;rintro e w' ⟨h1,h2⟩;exact⟨h1,(HA.out o).trans (h2.mono (by simp))⟩
 obtain⟨o,HO⟩:∃o,Hid (R.itemE ⟨k,r,s,n⟩=o):=⟨_,rfl⟩;rw[HO.out];clear R0 hf
 by_cases h1:k=1
 ·subst h1;cases hr:M.right r with
  | true =>
   have HR:=qH hr;clear hr
   go_enter func172,ntmps172
   go_wp2_with (go_at_call 49;refine(zdw _ _).mono ?_;rintro e w1 ⟨rfl,rfl⟩;rw[HR.out])
   go_ret;exact⟨by rw[<- HO.out];simp[R.itemE,HR.out],HA.out _⟩
  | false =>
   have HR:=qH hr;clear hr
   go_enter func172,ntmps172
   go_wp2_with (go_at_call 49;refine(zdw _ _).mono ?_;rintro e w1 ⟨rfl,rfl⟩;rw[HR.out])
   go_ret;exact⟨by rw[<- HO.out];simp[R.itemE,HR.out],HA.out _⟩
 ·by_cases h2:k=2
  ·subst h2
   go_enter func172,ntmps172
   go_wp2_with (go_at_call 73;refine(HW.out _).mono ?_;rintro e w1 ⟨rfl,b1⟩)
   go_ret;exact⟨by rw[<- HO.out];simp[R.itemE],b1⟩
  ·by_cases h3:k=3
   ·subst h3;cases hr:R.named n with
    | true =>
     have HR:=qH hr;clear hr
     go_enter func172,ntmps172
     go_wp2_with (go_at_call 113;refine(HN.out _).mono ?_;rintro e w1 ⟨rfl,b1⟩;rw[HR.out])
     go_ret;exact⟨by rw[<- HO.out];simp[R.itemE,HR.out],b1⟩
    | false =>
     have HR:=qH hr;clear hr
     go_enter func172,ntmps172
     go_wp2_with (go_at_call 113;refine(HN.out _).mono ?_;rintro e w1 ⟨rfl,b1⟩;rw[HR.out])
     go_ret;exact⟨by rw[<- HO.out];simp[R.itemE,HR.out],b1⟩
   ·go_enter func172,ntmps172
    go_wp2;go_ret
    exact⟨by rw[<- HO.out];simp[R.itemE,h1,h2,h3],HA.out _⟩
theorem zf7 (w:World)(v:Value)(l:List R.Item)(R0:R.Its w v l) :
  Calls prog 153 #[v] w fun e w'=>e=.returned (.int .i64 (R.itemsE l))/\Bl w w':=by
 have HR:=qH R0;obtain⟨ao,cap,rfl,_⟩:=R0;unfold R.itemsE
 by_cases hbig:20<l.length
 ·rw[if_pos hbig]
  go_enter func153,ntmps153
  go_wp2;go_ret
  exact⟨rfl,qR w⟩
 ·rw[if_neg hbig];obtain⟨o,HO⟩:∃o,Hid (R.firstE (l.map R.itemE)=o):=⟨_,rfl⟩;rw[HO.out]
  go_enter func153,ntmps153
  go_wp2
  go_loopw [11] (fun i wr=>∃k:Nat,k<=l.length/\i=.int .i64 k/\Hid (R.firstE ((l.drop k).map R.itemE)=o)/\Hid (Bl w wr)) (fun i _=>l.length-(intOf i).toNat)
  case atStart=>exact⟨0,Nat.zero_le _,rfl,HO,qR w⟩
  case round =>
   obtain⟨k,hk,rfl,HE,HB⟩:=hrel
   by_cases hlt:k<l.length
   ·obtain⟨x,hx⟩:∃x,l[k]?=some x:=⟨l[k],by simp[hlt]⟩;obtain⟨ao',cap',e',hcs⟩:=HR.out.below HB.out;cases e';obtain⟨b,off,rfl,hcell⟩:=hcs (by intro h;subst h;simp at hlt);obtain⟨c0,c1,c3,⟨so,sc,c2,r2⟩,hf,_⟩:=hcell k x hx;have HE2:Hid _:=R.zku hx;have hsz:=HB.out.size
    have HW:Hid (∀o,Calls prog 172 #[.agg #[.int .i64 x.kind,.int .i32 x.rune,.slice so x.set.length sc,.string x.name]] (wr.alloc o) fun e w'=>e=.returned (.int .i64 (R.itemE x))/\Bl w w'):=fun o=>by
     refine(zha _ x so sc (R.zc4 r2 (R.Keeps.alloc wr o)) hf).mono ?_;rintro e w' ⟨h1,h2⟩;exact⟨h1,(HB.out.alloc hsz o).trans (h2.mono (by simp;omega))⟩
    obtain⟨z,HZ⟩:∃z,Hid (R.itemE x=z):=⟨_,rfl⟩;rw[HZ.out] at HW HE2;clear hx hcell hcs r2 hf;obtain⟨xk,xr,xs,xn⟩:=x;simp only at c0 c1 c2 c3 HW
    go_wp2_with fail
    refine(HW.out _).mono ?_;rintro e w1 ⟨rfl,b1⟩
    by_cases hz:z=0
    ·subst hz;go_wp2
     go_roundw
     case rel=>exact⟨k+1,by omega,by go_num,by show _=_;rw[<- HE.out,HE2.out];simp,b1⟩
     case measure=>simp[intOf];omega
    ·go_wp2;go_ret
     exact⟨by rw[<- HE.out,HE2.out];simp[hz],b1⟩
   ·have hke:k=l.length:=by omega
    go_wp2;go_ret
    refine⟨?_,HB.out⟩;rw[<- HE.out,List.drop_eq_nil_of_le (by omega)];rfl
theorem zf8 (w:World)(v:Value)(s:R.Side)(R0:R.SdIs w v s) :
  Calls prog 155 #[v] w fun e w'=>e=.returned (.bool (R.around s))/\Bl w w':=by
 obtain⟨bo,bc,so,sc,ao,ac,rfl,_⟩:=R0;obtain⟨st,fi,be,sr,af,cu⟩:=s;unfold R.around;simp only;have HA:=qH<|fun o=>(qR w).alloc qN o
 cases st with
 | true =>
  go_enter func155,ntmps155
  go_wp2;go_ret
  exact⟨by simp,HA.out _⟩
 | false =>
  cases fi with
  | true =>
   go_enter func155,ntmps155
   go_wp2;go_ret
   exact⟨by simp,HA.out _⟩
  | false =>
   by_cases h:0<be.length
   ·go_enter func155,ntmps155
    go_wp2;go_ret
    exact⟨by simp[h],HA.out _⟩
   ·go_enter func155,ntmps155
    go_wp2;go_ret
    exact⟨L.zaj (by simp[h]),HA.out _⟩
theorem zqe (w:World)(v:Value)(s:R.Side)(R0:R.SdIs w v s)(hl:s.source.length<=20) :
  Calls prog 154 #[v] w fun e w'=>e=.returned (.bool (R.gives s))/\Bl w w':=by
 obtain⟨bo,bc,so,sc,ao,ac,rfl,_,hI,_⟩:=R0;obtain⟨st,fi,be,l,af,cu⟩:=s;simp only at hI hl ⊢;have HI:=qH hI;clear hI;have HA:=qH<|fun o=>(qR w).alloc qN o
 obtain⟨o,HO⟩:∃o,Hid (l.all (fun x=>decide (x.kind=1))=o):=⟨_,rfl⟩;have hgo:R.gives ⟨st,fi,be,l,af,cu⟩=o:=HO.out;rw[hgo];clear hgo
 go_enter func154,ntmps154
 go_wp2
 go_loopw [8] (fun i wr=>∃k:Nat,k<=l.length/\i=.int .i64 k/\Hid ((l.drop k).all (fun x=>decide (x.kind=1))=o)/\Hid (Bl w wr)) (fun i _=>l.length-(intOf i).toNat)
 case atStart=>exact⟨0,Nat.zero_le _,rfl,HO,HA.out _⟩
 case round =>
  obtain⟨k,hk,rfl,HE,HB⟩:=hrel
  by_cases hlt:k<l.length
  ·obtain⟨x,hx⟩:∃x,l[k]?=some x:=⟨l[k],by simp[hlt]⟩;obtain⟨ao',cap',e',hcs⟩:=HI.out.below HB.out;cases e';obtain⟨b,off,rfl,hcell⟩:=hcs (by intro h;subst h;simp at hlt);obtain⟨c0,c1,c3,⟨so,sc,c2,r2⟩,hf,_⟩:=hcell k x hx
   have HE2:Hid ((l.drop k).all (fun x=>decide (x.kind=1))=(decide (x.kind=1)&&(l.drop (k+1)).all (fun x=>decide (x.kind=1)))):=by
    show _=_;rw[List.drop_eq_getElem_cons hlt];have:l[k]=x:=by rw[List.getElem?_eq_getElem hlt] at hx;exact Option.some.inj hx
    rw[this];rfl
   have hsz:=HB.out.size;have HB2:=qH<|fun o=>HB.out.alloc hsz o
   clear hx hcell hcs r2 hf;obtain⟨xk,xr,xs,xn⟩:=x;simp only at c0 c1 c2 c3
   by_cases hz:xk=1
   ·subst hz;go_wp2
    go_roundw
    case rel=>exact⟨k+1,by omega,by go_num,by show _=_;rw[<- HE.out,HE2.out];simp,HB2.out _⟩
    case measure=>simp[intOf];omega
   ·go_wp2;go_ret
    exact⟨L.zaj (by rw[<- HE.out,HE2.out];simp[hz]),HB2.out _⟩
  ·go_wp2;go_ret
   refine⟨L.zaj ?_,HB.out⟩;rw[<- HE.out,List.drop_eq_nil_of_le (by omega)];rfl
theorem zdj {w:World}{v:Value}{l:List R.Item}(R0:R.Its w v l):∀w1,Bl w w1->Calls prog 153 #[v] w1 fun e w'=>e=.returned (.int .i64 (R.itemsE l))/\Bl w1 w':=fun w1 hb=>zf7 w1 v l (R0.below hb)
theorem zg8 (w:World)(v:Value)(s:R.Side)(m:Bool)(R0:R.SdIs w v s) :
  Calls prog 138 #[v,.bool m] w fun e w'=>e=.returned (.int .i64 (R.sideE s m))/\Bl w w':=by
 obtain⟨bo,bc,so,sc,ao,ac,rfl,hB,hS,hA,hcu⟩:=R0;have HIb:=qH<|zdj hB;have HIs:=qH<|zdj hS;have HIa:=qH<|zdj hA;have HA:=qH<|fun o=>(qR w).alloc qN o
 clear hB hS hA;obtain⟨st,fi,be,sr,af,cu⟩:=s;simp only at hcu HIb HIs HIa ⊢;obtain⟨o,HO⟩:∃o,Hid (R.sideE ⟨st,fi,be,sr,af,cu⟩ m=o):=⟨_,rfl⟩;obtain⟨zb,HZb⟩:∃z,Hid (R.itemsE be=z):=⟨_,rfl⟩;obtain⟨zs,HZs⟩:∃z,Hid (R.itemsE sr=z):=⟨_,rfl⟩;obtain⟨za,HZa⟩:∃z,Hid (R.itemsE af=z):=⟨_,rfl⟩
 have HE:Hid ((if zb≠0 then zb else if zs≠0 then zs else if za≠0 then za else if cu< -1∨(sr.length:Int)<cu then 3 else if m=true/\sr.length=0 then 6 else 0)=o):=by
  show _=_;rw[<- HO.out,<- HZb.out,<- HZs.out,<- HZa.out];rfl
 rw[HO.out];rw[HZb.out] at HIb;rw[HZs.out] at HIs;rw[HZa.out] at HIa;unfold R.I64 at hcu
 go_enter func138,ntmps138
 go_wp2_with fail
 refine(HIb.out _ (HA.out _)).mono ?_;rintro e w1 ⟨rfl,b1⟩;obtain⟨hb1,B1,hl1⟩:=R.zb7 b1;have HK1:Hid _:=hb1;have HB1:=qH B1;have q3:w1.cell? ⟨w.heap.size,3,none⟩=some (.slice so sr.length sc):=by rw[Lib.cell_of_heap hb1];rfl
 clear b1 hb1 B1
 by_cases hz1:zb=0
 ·subst hz1
  go_wp2_with fail
  refine(HIs.out _ HB1.out).mono ?_;rintro e w2 ⟨rfl,b2⟩;have hb2:=R.zc2 HK1.out b2;have HK2:Hid _:=hb2;have HB2:=qH<|HB1.out.trans (b2.mono HB1.out.size);have q4:w2.cell? ⟨w.heap.size,4,none⟩=some (.slice ao af.length ac):=by rw[Lib.cell_of_heap hb2];rfl
  clear b2 hb2 HK1 q3
  by_cases hz2:zs=0
  ·subst hz2
   go_wp2_with fail
   refine(HIa.out _ HB2.out).mono ?_;rintro e w3 ⟨rfl,b3⟩;have hb3:=R.zc2 HK2.out b3;have HB3:=qH<|HB2.out.trans (b3.mono HB2.out.size);have q5:w3.cell? ⟨w.heap.size,5,none⟩=some (.int .i64 cu):=by rw[Lib.cell_of_heap hb3];rfl
   have q3:w3.cell? ⟨w.heap.size,3,none⟩=some (.slice so sr.length sc):=by rw[Lib.cell_of_heap hb3];rfl
   clear b3 hb3 HK2 q4
   by_cases hz3:za=0
   ·subst hz3
    by_cases hc1:cu< -1
    ·go_wp2;go_ret
     exact⟨by rw[<- HE.out];simp[hc1],HB3.out⟩
    ·by_cases hc2:(sr.length:Int)<cu
     ·go_wp2;go_ret
      exact⟨by rw[<- HE.out];simp[hc2],HB3.out⟩
     ·cases m with
      | false =>
       go_wp2;go_ret
       exact⟨by (rw[<- HE.out,if_neg (by simp),if_neg (by simp),if_neg (by simp),if_neg (by omega),if_neg (by simp)];all_goals rfl),HB3.out⟩
      | true =>
       by_cases hn:sr.length=0
       ·have hn':((sr.length:Nat):Int)=0:=by omega
        go_wp2;go_ret
        refine⟨?_,HB3.out⟩;rw[<- HE.out,if_neg (by simp),if_neg (by simp),if_neg (by simp),if_neg (by omega),if_pos ⟨by trivial,hn⟩]
        all_goals rfl
       ·have hn':¬((sr.length:Nat):Int)=0:=by omega
        go_wp2;go_ret
        refine⟨?_,HB3.out⟩;rw[<- HE.out,if_neg (by simp),if_neg (by simp),if_neg (by simp),if_neg (by omega),if_neg (by omega)]
        all_goals rfl
   ·go_wp2;go_ret
    exact⟨by rw[<- HE.out];simp[hz3],HB3.out⟩
  ·go_wp2;go_ret
   exact⟨by rw[<- HE.out];simp[hz2],HB2.out⟩
 ·go_wp2;go_ret
  exact⟨by rw[<- HE.out];simp[hz1],HB1.out⟩
theorem zfd {w:World}{v:Value}{s:R.Side}(R0:R.SdIs w v s):∀w1 m,Bl w w1->Calls prog 138 #[v,.bool m] w1 fun e w'=>e=.returned (.int .i64 (R.sideE s m))/\Bl w1 w':=fun w1 m hb=>zg8 w1 v s m (R0.below hb)
theorem zfu {w:World}{v:Value}{s:R.Side}(R0:R.SdIs w v s)(hl:s.source.length<=20):∀w1,Bl w w1->Calls prog 154 #[v] w1 fun e w'=>e=.returned (.bool (R.gives s))/\Bl w1 w':=fun w1 hb=>zqe w1 v s (R0.below hb) hl
theorem ze0 {w:World}{v:Value}{s:R.Side}(R0:R.SdIs w v s):∀w1,Bl w w1->Calls prog 155 #[v] w1 fun e w'=>e=.returned (.bool (R.around s))/\Bl w1 w':=fun w1 hb=>zf8 w1 v s (R0.below hb)
theorem zsv (w:World)(v:Value)(p:R.Part)(R0:R.PtIs w v p)(hl:p.left.source.length<=20)(hr:p.right.source.length<=20)(hd:p.dir=1∨p.dir=2∨p.dir=3) :
  Calls prog 139 #[v] w fun e w'=>e=.returned (.bool (R.fits p))/\Bl w w':=by
 obtain⟨so,sc,lbo,lbc,lso,lsc,lao,lac,rbo,rbc,rso,rsc,rao,rac,rfl,_,_,hL,hR,_,_⟩:=R0.open;clear R0;have HA:=qH<|fun o=>(qR w).alloc qN o
 have HgL:=qH<|zfu hL hl;have HgR:=qH<|zfu hR hr;have HaL:=qH<|ze0 hL;have HaR:=qH<|ze0 hR;clear hL hR;obtain⟨pk,pn,ps,pd,pl,pr⟩:=p;simp only at HgL HgR HaL HaR hd ⊢;clear hl hr;obtain⟨o,HO⟩:∃o,Hid (R.fits ⟨pk,pn,ps,pd,pl,pr⟩=o):=⟨_,rfl⟩;rw[HO.out];obtain⟨gl,HGL⟩:∃z,Hid (R.gives pl=z):=⟨_,rfl⟩;obtain⟨gr,HGR⟩:∃z,Hid (R.gives pr=z):=⟨_,rfl⟩;obtain⟨al,HAL⟩:∃z,Hid (R.around pl=z):=⟨_,rfl⟩;obtain⟨ar,HAR⟩:∃z,Hid (R.around pr=z):=⟨_,rfl⟩
 have HF:Hid ((if pd=1 then gr&& !ar&&decide (pl.cursor<0) else if pd=2 then gl&& !al&&decide (pr.cursor<0) else gl&&gr)=o):=by
  show _=_;rw[<- HO.out,<- HGL.out,<- HGR.out,<- HAL.out,<- HAR.out];rfl
 rw[HGL.out] at HgL;rw[HGR.out] at HgR;rw[HAL.out] at HaL;rw[HAR.out] at HaR;clear HO HGL HGR HAL HAR;obtain⟨lst,lfi,lbe,lsr,laf,lcu⟩:=pl;obtain⟨rst,rfi,rbe,rsr,raf,rcu⟩:=pr;simp only at HgL HgR HaL HaR HF ⊢;rcases hd with rfl|rfl|rfl
 ·go_enter func139,ntmps139
  go_wp2_with fail
  refine(HgR.out _ (HA.out _)).mono ?_;rintro e w1 ⟨rfl,b1⟩;obtain⟨hb1,B1,hl1⟩:=R.zb7 b1;have q10:w1.cell? ⟨w.heap.size,10,none⟩=some (.bool rst):=by rw[Lib.cell_of_heap hb1];rfl
  have q11:w1.cell? ⟨w.heap.size,11,none⟩=some (.bool rfi):=by rw[Lib.cell_of_heap hb1];rfl
  have q12:w1.cell? ⟨w.heap.size,12,none⟩=some (.slice rbo rbe.length rbc):=by rw[Lib.cell_of_heap hb1];rfl
  have q13:w1.cell? ⟨w.heap.size,13,none⟩=some (.slice rso rsr.length rsc):=by rw[Lib.cell_of_heap hb1];rfl
  have q14:w1.cell? ⟨w.heap.size,14,none⟩=some (.slice rao raf.length rac):=by rw[Lib.cell_of_heap hb1];rfl
  have q15:w1.cell? ⟨w.heap.size,15,none⟩=some (.int .i64 rcu):=by rw[Lib.cell_of_heap hb1];rfl
  have q9:w1.cell? ⟨w.heap.size,9,none⟩=some (.int .i64 lcu):=by rw[Lib.cell_of_heap hb1];rfl
  have HK1:Hid _:=hb1;have HB1:=qH B1;clear b1 hb1 B1;cases gr with
  | false =>
   go_wp2;go_ret
   exact⟨L.zaj (by rw[<- HF.out];simp),HB1.out⟩
  | true =>
   go_wp2_with fail
   refine(HaR.out _ HB1.out).mono ?_;rintro e w2 ⟨rfl,b2⟩;have hb2:=R.zc2 HK1.out b2;have q9':w2.cell? ⟨w.heap.size,9,none⟩=some (.int .i64 lcu):=by rw[Lib.cell_of_heap hb2];rfl
   have HB2:=qH<|HB1.out.trans (b2.mono HB1.out.size);clear b2 hb2;cases ar with
   | true =>
    go_wp2;go_ret
    exact⟨L.zaj (by rw[<- HF.out];simp),HB2.out⟩
   | false =>
    go_wp2;go_ret
    exact⟨L.zaj (by rw[<- HF.out];simp),HB2.out⟩
 ·go_enter func139,ntmps139
  go_wp2_with fail
  refine(HgL.out _ (HA.out _)).mono ?_;rintro e w1 ⟨rfl,b1⟩;obtain⟨hb1,B1,hl1⟩:=R.zb7 b1;have q4:w1.cell? ⟨w.heap.size,4,none⟩=some (.bool lst):=by rw[Lib.cell_of_heap hb1];rfl
  have q5:w1.cell? ⟨w.heap.size,5,none⟩=some (.bool lfi):=by rw[Lib.cell_of_heap hb1];rfl
  have q6:w1.cell? ⟨w.heap.size,6,none⟩=some (.slice lbo lbe.length lbc):=by rw[Lib.cell_of_heap hb1];rfl
  have q7:w1.cell? ⟨w.heap.size,7,none⟩=some (.slice lso lsr.length lsc):=by rw[Lib.cell_of_heap hb1];rfl
  have q8:w1.cell? ⟨w.heap.size,8,none⟩=some (.slice lao laf.length lac):=by rw[Lib.cell_of_heap hb1];rfl
  have q9:w1.cell? ⟨w.heap.size,9,none⟩=some (.int .i64 lcu):=by rw[Lib.cell_of_heap hb1];rfl
  have q15:w1.cell? ⟨w.heap.size,15,none⟩=some (.int .i64 rcu):=by rw[Lib.cell_of_heap hb1];rfl
  have HK1:Hid _:=hb1;have HB1:=qH B1;clear b1 hb1 B1;cases gl with
  | false =>
   go_wp2;go_ret
   exact⟨L.zaj (by rw[<- HF.out];simp),HB1.out⟩
  | true =>
   go_wp2_with fail
   refine(HaL.out _ HB1.out).mono ?_;rintro e w2 ⟨rfl,b2⟩;have hb2:=R.zc2 HK1.out b2;have q15':w2.cell? ⟨w.heap.size,15,none⟩=some (.int .i64 rcu):=by rw[Lib.cell_of_heap hb2];rfl
   have HB2:=qH<|HB1.out.trans (b2.mono HB1.out.size);clear b2 hb2;cases al with
   | true =>
    go_wp2;go_ret
    exact⟨L.zaj (by rw[<- HF.out];simp),HB2.out⟩
   | false =>
    go_wp2;go_ret
    exact⟨L.zaj (by rw[<- HF.out];simp),HB2.out⟩
 ·go_enter func139,ntmps139
  go_wp2_with fail
  refine(HgL.out _ (HA.out _)).mono ?_;rintro e w1 ⟨rfl,b1⟩;obtain⟨hb1,B1,hl1⟩:=R.zb7 b1;have q10:w1.cell? ⟨w.heap.size,10,none⟩=some (.bool rst):=by rw[Lib.cell_of_heap hb1];rfl
  have q11:w1.cell? ⟨w.heap.size,11,none⟩=some (.bool rfi):=by rw[Lib.cell_of_heap hb1];rfl
  have q12:w1.cell? ⟨w.heap.size,12,none⟩=some (.slice rbo rbe.length rbc):=by rw[Lib.cell_of_heap hb1];rfl
  have q13:w1.cell? ⟨w.heap.size,13,none⟩=some (.slice rso rsr.length rsc):=by rw[Lib.cell_of_heap hb1];rfl
  have q14:w1.cell? ⟨w.heap.size,14,none⟩=some (.slice rao raf.length rac):=by rw[Lib.cell_of_heap hb1];rfl
  have q15:w1.cell? ⟨w.heap.size,15,none⟩=some (.int .i64 rcu):=by rw[Lib.cell_of_heap hb1];rfl
  have HB1:=qH B1;clear b1 hb1 B1;cases gl with
  | false =>
   go_wp2;go_ret
   exact⟨L.zaj (by rw[<- HF.out];simp),HB1.out⟩
  | true =>
   go_wp2_with fail
   refine(HgR.out _ HB1.out).mono ?_;rintro e w2 ⟨rfl,b2⟩;have HB2:=qH<|HB1.out.trans (b2.mono HB1.out.size);clear b2;go_wp2;go_ret;exact⟨L.zaj (by rw[<- HF.out];simp),HB2.out⟩
theorem zte {s:R.Side}{m:Bool}(h:R.sideE s m=0):s.source.length<=20:=(R.zb1.1 (R.zbx h).2.1).1
theorem zg9 (w:World)(v:Value)(p:R.Part)(R0:R.PtIs w v p) :
  Calls prog 115 #[v] w fun e w'=>e=.returned (.int .i64 (R.ruleE p))/\Bl w w':=by
 have HP:=qH<|fun w1 hb h1 h2 h3=>zsv w1 v p (R0.below hb) h1 h2 h3
 obtain⟨so,sc,lbo,lbc,lso,lsc,lao,lac,rbo,rbc,rso,rsc,rao,rac,rfl,_,_,hL,hR,_,_⟩:=R0.open;clear R0;have HA:=qH<|fun o=>(qR w).alloc qN o
 have HL:=qH<|zfd hL;have HR:=qH<|zfd hR;clear hL hR;obtain⟨o,HO⟩:∃o,Hid (R.ruleE p=o):=⟨_,rfl⟩;rw[HO.out]
 by_cases hd:p.dir=1∨p.dir=2∨p.dir=3
 ·obtain⟨zl,HZl⟩:∃z,Hid (R.sideE p.left (decide (p.dir≠2))=z):=⟨_,rfl⟩;obtain⟨zr,HZr⟩:∃z,Hid (R.sideE p.right (decide (p.dir≠1))=z):=⟨_,rfl⟩;obtain⟨ft,HF⟩:∃z,Hid (R.fits p=z):=⟨_,rfl⟩
  have HE:Hid ((if zl≠0 then zl else if zr≠0 then zr else if ft=true then 0 else 8)=o):=by
   show _=_;rw[<- HO.out,<- HZl.out,<- HZr.out,<- HF.out];unfold R.ruleE;exact(if_neg (by omega)).symm
  have HLd:=qH<|fun w1 hb=>by
   have:=HL.out w1 (decide (p.dir≠2)) hb;rw[HZl.out] at this;exact this
  have HRd:=qH<|fun w1 hb=>by
   have:=HR.out w1 (decide (p.dir≠1)) hb;rw[HZr.out] at this;exact this
  have HFd:Hid (zl=0->zr=0->∀w1,Bl w w1->Calls prog 139 #[.agg #[.int .i64 p.kind,.string p.name,.slice so p.set.length sc,.int .i64 p.dir,.bool p.left.start,.bool p.left.fin,.slice lbo p.left.before.length lbc,.slice lso p.left.source.length lsc,.slice lao p.left.after.length lac,.int .i64 p.left.cursor,.bool p.right.start,.bool p.right.fin,.slice rbo p.right.before.length rbc,.slice rso p.right.source.length rsc,.slice rao p.right.after.length rac,.int .i64 p.right.cursor]] w1 fun e w'=>e=.returned (.bool ft)/\Bl w1 w'):=fun h1 h2 w1 hb=>by
   rw[<- HF.out];exact HP.out w1 hb (zte (by rw[<- h1];exact HZl.out)) (zte (by rw[<- h2];exact HZr.out)) hd
  clear HP HL HR HO HZl HZr HF;obtain⟨pk,pn,ps,pd,⟨lst,lfi,lbe,lsr,laf,lcu⟩,⟨rst,rfi,rbe,rsr,raf,rcu⟩⟩:=p;simp only at hd HLd HRd HFd ⊢;have hdd:(pd==1)=decide (pd=1)/\(pd==2)=decide (pd=2):=⟨rfl,rfl⟩;rcases hd with rfl|rfl|rfl
  all_goals
   go_enter func115,ntmps115
   go_wp2_with fail
   refine(HLd.out _ (HA.out _)).mono ?_;rintro e w1 ⟨rfl,b1⟩;obtain⟨hb1,B1,hl1⟩:=R.zb7 b1;have q3:=R.zad (i:=3) hb1 rfl;have q10:w1.cell? ⟨w.heap.size,10,none⟩=some (.bool rst):=by rw[Lib.cell_of_heap hb1];rfl
   have q11:w1.cell? ⟨w.heap.size,11,none⟩=some (.bool rfi):=by rw[Lib.cell_of_heap hb1];rfl
   have q12:w1.cell? ⟨w.heap.size,12,none⟩=some (.slice rbo rbe.length rbc):=by rw[Lib.cell_of_heap hb1];rfl
   have q13:w1.cell? ⟨w.heap.size,13,none⟩=some (.slice rso rsr.length rsc):=by rw[Lib.cell_of_heap hb1];rfl
   have q14:w1.cell? ⟨w.heap.size,14,none⟩=some (.slice rao raf.length rac):=by rw[Lib.cell_of_heap hb1];rfl
   have q15:w1.cell? ⟨w.heap.size,15,none⟩=some (.int .i64 rcu):=by rw[Lib.cell_of_heap hb1];rfl
   have HK1:Hid _:=hb1;have HB1:=qH B1;clear b1 hb1 B1
   by_cases hz1:zl=0
   ·subst hz1
    go_wp2_with fail
    refine(HRd.out _ HB1.out).mono ?_;rintro e w2 ⟨rfl,b2⟩;have hb2:=R.zc2 HK1.out b2;have HB2:=qH<|HB1.out.trans (b2.mono HB1.out.size);clear q3 q10 q11 q12 q13 q14 q15 HK1 b2;have p0:=R.zad (i:=0) hb2 rfl;have p1:=R.zad (i:=1) hb2 rfl;have p2:=R.zad (i:=2) hb2 rfl;have p3:=R.zad (i:=3) hb2 rfl;have p4:=R.zad (i:=4) hb2 rfl;have p5:=R.zad (i:=5) hb2 rfl;have p6:=R.zad (i:=6) hb2 rfl;have p7:=R.zad (i:=7) hb2 rfl;have p8:=R.zad (i:=8) hb2 rfl;have p9:=R.zad (i:=9) hb2 rfl;have p10:=R.zad (i:=10) hb2 rfl;have p11:=R.zad (i:=11) hb2 rfl;have p12:=R.zad (i:=12) hb2 rfl;have p13:=R.zad (i:=13) hb2 rfl;have p14:=R.zad (i:=14) hb2 rfl;have p15:=R.zad (i:=15) hb2 rfl;clear hb2
    by_cases hz2:zr=0
    ·subst hz2
     go_wp2_with fail
     refine(HFd.out (by trivial) (by trivial) _ HB2.out).mono ?_;rintro e w3 ⟨rfl,b3⟩;have HB3:=qH<|HB2.out.trans (b3.mono HB2.out.size);clear b3;cases ft with
     | true =>
      go_wp2;go_ret
      exact⟨by rw[<- HE.out];rfl,HB3.out⟩
     | false =>
      go_wp2;go_ret
      exact⟨by rw[<- HE.out];rfl,HB3.out⟩
    ·go_wp2;go_ret
     exact⟨by rw[<- HE.out];simp[hz2],HB2.out⟩
   ·go_wp2;go_ret
    exact⟨by rw[<- HE.out];simp[hz1],HB1.out⟩
 ·have HE:Hid ((1:Int)=o):=by
   show _=_;rw[<- HO.out];unfold R.ruleE;rw[if_pos (by omega)]
  clear HP HL HR HO;obtain⟨pk,pn,ps,pd,⟨lst,lfi,lbe,lsr,laf,lcu⟩,⟨rst,rfi,rbe,rsr,raf,rcu⟩⟩:=p;simp only at hd ⊢;have h1:(pd != 1)=true:=by simp;omega
  have h2:(pd != 2)=true:=by simp;omega
  have h3:(pd != 3)=true:=by simp;omega
  go_enter func115,ntmps115
  go_wp2;go_ret
  exact⟨by rw[<- HE.out];rfl,HA.out _⟩
theorem zdn (w:World)(v:Value)(p:R.Part)(R0:R.PtIs w v p) :
  Calls prog 87 #[v] w fun e w'=>e=.returned (.int .i64 (R.partE p))/\Bl w w':=by
 have HP:=qH<|fun w1 hb=>zg9 w1 v p (R0.below hb)
 obtain⟨so,sc,lbo,lbc,lso,lsc,lao,lac,rbo,rbc,rso,rsc,rao,rac,rfl,hS,hf,_,_,_,_⟩:=R0.open;clear R0;have HA:=qH<|fun o=>(qR w).alloc qN o
 have HW:=qH<|fun w1 hb=>zcc w1 _ p.set (hS.below hb qN) hf
 clear hS hf;obtain⟨o,HO⟩:∃o,Hid (R.partE p=o):=⟨_,rfl⟩;rw[HO.out];obtain⟨pk,pn,ps,pd,⟨lst,lfi,lbe,lsr,laf,lcu⟩,⟨rst,rfi,rbe,rsr,raf,rcu⟩⟩:=p;simp only at HP HW ⊢;have hsz:∀(o:Obj),(w.alloc o).heap.size=w.heap.size+1:=fun o=>by simp
 have HSz:=qH hsz;clear hsz
 by_cases h1:pk=1
 ·subst h1;cases hn:R.named pn with
  | true =>
   have HN:=qH hn;clear hn
   go_enter func87,ntmps87
   go_wp2_with fail
   refine(zd1 pn _).mono ?_;rintro e w1 ⟨rfl,b1⟩;obtain⟨hb1,B1,hl1⟩:=R.zb7 b1;have q2:w1.cell? ⟨w.heap.size,2,none⟩=some (.slice so ps.length sc):=by rw[Lib.cell_of_heap hb1];rfl
   have HB1:=qH B1;clear b1 hb1 B1;rw[HN.out]
   go_wp2_with fail
   refine(HW.out _ HB1.out).mono ?_;rintro e w2 ⟨rfl,b2⟩;have HB2:=qH<|HB1.out.trans (b2.mono HB1.out.size);clear b2;go_wp2;go_ret;exact⟨by rw[<- HO.out];simp[R.partE,HN.out],HB2.out⟩
  | false =>
   have HN:=qH hn;clear hn
   go_enter func87,ntmps87
   go_wp2_with fail
   refine(zd1 pn _).mono ?_;rintro e w1 ⟨rfl,b1⟩;obtain⟨hb1,B1,hl1⟩:=R.zb7 b1;have HB1:=qH B1;clear b1 hb1 B1;rw[HN.out];go_wp2;go_ret;exact⟨by rw[<- HO.out];simp[R.partE,HN.out],HB1.out⟩
 ·by_cases h3:pk=3
  ·subst h3
   go_enter func87,ntmps87
   go_wp2_with fail
   refine(HW.out _ (HA.out _)).mono ?_;rintro e w2 ⟨rfl,b2⟩;have HB2:=qH<|(HA.out _).trans (b2.mono (by rw[HSz.out];omega));clear b2;go_wp2;go_ret;exact⟨by rw[<- HO.out];simp[R.partE],HB2.out⟩
  ·by_cases h4:pk=4
   ·subst h4;cases hn:R.passes pn with
    | true =>
     have HN:=qH hn;clear hn
     go_enter func87,ntmps87
     go_wp2_with (go_at_call 114;refine(zem pn _).mono ?_;rintro e w1 ⟨rfl,rfl⟩;rw[HN.out])
     go_ret;exact⟨by rw[<- HO.out];simp[R.partE,HN.out],HA.out _⟩
    | false =>
     have HN:=qH hn;clear hn
     go_enter func87,ntmps87
     go_wp2_with (go_at_call 114;refine(zem pn _).mono ?_;rintro e w1 ⟨rfl,rfl⟩;rw[HN.out])
     go_ret;exact⟨by rw[<- HO.out];simp[R.partE,HN.out],HA.out _⟩
   ·by_cases h2:pk=2
    ·subst h2
     go_enter func87,ntmps87
     go_wp2_with fail
     refine(HP.out _ (HA.out _)).mono ?_;rintro e w2 ⟨rfl,b2⟩;have HB2:=qH<|(HA.out _).trans (b2.mono (by rw[HSz.out];omega));clear b2;go_wp2;go_ret;exact⟨by rw[<- HO.out];simp[R.partE],HB2.out⟩
    ·go_enter func87,ntmps87
     go_wp2;go_ret
     exact⟨by rw[<- HO.out];simp[R.partE,h1,h2,h3,h4],HA.out _⟩
theorem zjn (w:World)(v:Value)(l:List R.Part)(R0:R.Pts w v l) :
  Calls prog 53 #[v] w fun e w'=>e=.returned (.agg #[.int .i64 (R.wrong l).1,.int .i64 (R.wrong l).2])/\Bl w w':=by
 have HR:=qH R0;obtain⟨ao,cap,rfl⟩:=R0.len;clear R0;have HA:=qH<|fun o=>(qR w).alloc qN o
 unfold R.wrong
 by_cases hbig:200<l.length
 ·rw[if_pos hbig]
  go_enter func53,ntmps53
  go_wp2;refine bodyPost_ret (v:=.agg #[.int .i64 5,.int .i64 0]) (by simp[results,results53,go_sem]) rfl ?_
  exact⟨rfl,HA.out _⟩
 ·rw[if_neg hbig];obtain⟨⟨o1,o2⟩,HO⟩:∃o,Hid (R.firstW 0 l=o):=⟨_,rfl⟩;rw[HO.out]
  go_enter func53,ntmps53
  go_wp2
  go_loopw [12] (fun i wr=>∃k:Nat,k<=l.length/\i=.int .i64 k/\Hid (R.firstW k (l.drop k)=(o1,o2))/\Hid (Bl w wr)/\Hid (wr.heap[w.heap.size]?=some (.cells #[.int .i64 0,.int .i64 0] 36))) (fun i _=>l.length-(intOf i).toNat)
  case atStart=>exact⟨0,Nat.zero_le _,rfl,HO,HA.out _,heap_alloc_new w _⟩
  case round =>
   obtain⟨k,hk,rfl,HE,HB,HX⟩:=hrel;have hX:=HX.out
   by_cases hlt:k<l.length
   ·obtain⟨p,hp⟩:∃x,l[k]?=some x:=⟨l[k],by simp[hlt]⟩;obtain⟨ao',cap',e',hcs⟩:=HR.out.below HB.out;cases e';obtain⟨b,off,rfl,hcell⟩:=hcs (by intro h;subst h;simp at hlt);obtain⟨so,sc,lbo,lbc,lso,lsc,lao,lac,rbo,rbc,rso,rsc,rao,rac,c0,c1,c2,c3,c4,c5,c6,c7,c8,c9,c10,c11,c12,c13,c14,c15,hP⟩:=hcell k p hp;have HE2:=qH<|R.zk2 hp;have hsz:=HB.out.size;have HW:=qH<|fun o=>zdn _ _ p (hP.keeps (R.Keeps.alloc wr o))
    obtain⟨z,HZ⟩:∃z,Hid (R.partE p=z):=⟨_,rfl⟩;rw[HZ.out] at HW HE2;clear hp hcell hcs hP hX;obtain⟨pk,pn,ps,pd,⟨lst,lfi,lbe,lsr,laf,lcu⟩,⟨rst,rfi,rbe,rsr,raf,rcu⟩⟩:=p;simp only at c0 c1 c2 c3 c4 c5 c6 c7 c8 c9 c10 c11 c12 c13 c14 c15 HW
    go_wp2_with fail
    refine(HW.out _).mono ?_;rintro e w1 ⟨rfl,b1⟩;obtain⟨_,B1,hl1⟩:=R.zb7 b1
    have hX1:w1.heap[w.heap.size]?=some (.cells #[.int .i64 0,.int .i64 0] 36):=by
     rw[B1.block _ (qA.1 HX.out).1];exact HX.out
    have HB1:=qH<|HB.out.trans (B1.mono hsz);have HX1:Hid _:=hX1;obtain⟨x0,x1,f0,f1⟩:=R.box2 hX1;clear b1 B1 hX1
    by_cases hz:z=0
    ·subst hz;go_wp2
     go_roundw
     case rel=>exact⟨k+1,by omega,by go_num,by show _=_;rw[<- HE.out,HE2.out];simp,HB1,HX1⟩
     case measure=>simp[intOf];omega
    ·go_wp2;refine bodyPost_ret (v:=.agg #[.int .i64 z,.int .i64 k]) (by simp[results,results53,go_sem, *]) rfl ?_
     have h:=HE2.out;rw[HE.out,if_neg hz] at h;cases h;exact⟨rfl,(HB1.out.setCell (p:=⟨w.heap.size,0,none⟩) qN _).setCell (p:=⟨w.heap.size,1,none⟩) qN _⟩
   ·obtain⟨x0,x1,f0,f1⟩:=R.box2 hX;have h:=HE.out;rw[List.drop_eq_nil_of_le (by omega)] at h;cases h;go_wp2;refine bodyPost_ret (v:=.agg #[.int .i64 0,.int .i64 0]) (by simp[results,results53,go_sem, *]) rfl ?_;exact⟨rfl,(HB.out.setCell (p:=⟨w.heap.size,0,none⟩) qN _).setCell (p:=⟨w.heap.size,1,none⟩) qN _⟩
