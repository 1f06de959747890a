import Derived.Test.YthnmmmkeamcfkaaGreatDoorCnPass
set_option maxHeartbeats 0
set_option maxRecDepth 20000
set_option linter.unusedSimpArgs false
set_option linter.unusedVariables false
namespace Go.Proofs.YthnmmmkeamcfkaaGreatDoor
open Go.Proofs.Tryz
section
open Go.RowKit
set_option maxHeartbeats 1000000 in
theorem zmg (w0 w:World)(g:Nat)(f:Int->Int)(eg:∀args w,(callFunc g args).run prog w= .ok (.enter g args) w)
    (hf:∀W r,0<=r->r<=1114111->Calls prog g #[.int .i32 r] W fun e w'=>e= .returned (.int .i32 (f r))/\w'=W) :
    Calls prog 169 #[.func (.func g) #[] #[]] w fun e w'=>∃v,e= .returned v/\Cn.Acts w0 w.heap.size w' v (fun x=>(x.map f,0))/\Below w.heap.size w w':=by
  have HF:=qH hf
  have HG:=qH eg
  clear hf eg
  go_enter func169,ntmps169
  go_wp2
  go_ret
  have hal:=fun o=>(qR w).alloc qN o
  refine⟨_,rfl,⟨200,_,some (w.heap.size,_),rfl,enters_of func200 (by kernel_rfl) rfl,fun p hp=>by cases hp;exact⟨qN,heap_alloc_new w _⟩,fun W vt t hW hb hr ht=> ?_⟩,hal _⟩
  exact zjb W w.heap.size g _ f (hb _ rfl) HG.out HF.out vt t hr ht
set_option maxHeartbeats 1000000 in
theorem zp2 (pl:Cn.Pl)(hpl:Cn.PlOk pl)(w0 w:World)(v:Value)(l:List K.Rule)(R0:V.Rus w0 v l) :
    Calls prog 122 #[v] w fun e w'=>∃v',e= .returned v'/\Cn.Acts w0 w.heap.size w' v' (pl l)/\Below w.heap.size w w':=by
  have HR:=qH R0
  obtain⟨ao,cap,rfl⟩:=R0.len
  clear R0
  go_enter func122,ntmps122
  go_wp2
  go_ret
  have hal:=fun o=>(qR w).alloc qN o
  refine⟨_,rfl,⟨173,_,some (w.heap.size,_),rfl,enters_of func173 (by kernel_rfl) rfl,fun p hp=>by cases hp;exact⟨qN,heap_alloc_new w _⟩,fun W vt t hW hb hr ht=> ?_⟩,hal _⟩
  exact zho pl hpl W w.heap.size _ l (hb _ rfl) (HR.out.below hW) vt t hr ht
def Cn.nameF (s:ByteArray) (x:List Int):List Int×Int :=
  if s.toList= [117,112,112,101,114] then (x.map Cn.up,0)
  else if s.toList= [108,111,119,101,114] then (x.map Cn.low,0)
  else if s.toList= [110,117,108,108] then (x,0) else ([],0)
theorem Cn.zr8 (w0:World)(B:Nat)(w:World):Cn.Acts w0 B w (.func (.func 170) #[] #[]) (fun x=>(x,0)) :=
  ⟨170,_,none,rfl,enters_of func170 (by kernel_rfl) rfl,fun p hp=>by (cases hp),fun W vt t hW _ hr ht=>(zis W vt).mono fun e w' ⟨h1,h2⟩=>by subst h2;exact⟨_,h1,hr,qR _⟩⟩
theorem Cn.zlm (w0:World)(B:Nat)(w:World):Cn.Acts w0 B w (.func (.func 171) #[] #[]) (fun x=>([],0)) :=
  ⟨171,_,none,rfl,enters_of func171 (by kernel_rfl) rfl,fun p hp=>by (cases hp),fun W vt t hW _ hr ht=>(zgh W vt).mono fun e w' ⟨h1,h2⟩=>by subst h2;exact⟨_,h1,⟨none,0,rfl,fun _=>rfl,fun h=>absurd rfl h⟩,qR _⟩⟩
def Cn.Nm (w0 w w':World) (s:ByteArray) (v:Value):Prop:=(R.passes s=true->Cn.Acts w0 w.heap.size w' v (Cn.nameF s))/\(R.passes s=false->v= .nilFunc)/\Below w.heap.size w w'/\(R.passes s=true->v≠ .nilFunc)
theorem Cn.Acts.some {w0 w:World}{B:Nat}{v:Value}{F:List Int->List Int×Int}(h:Cn.Acts w0 B w v F):v≠ .nilFunc:=by
  obtain⟨g,cb,bx,rfl,_⟩:=h
  intro h;cases h
theorem Cn.ztj {w0 w w':World}{s:ByteArray}{v:Value}{F:List Int->List Int×Int}(hp:R.passes s=true)(h:Cn.Acts w0 w.heap.size w' v F)(e:Cn.nameF s=F)(hb:Below w.heap.size w w'):Cn.Nm w0 w w' s v :=
  ⟨fun _=>e▸h,fun h=>by (rw[hp] at h;cases h),hb,fun _=>h.some⟩
set_option maxHeartbeats 1000000 in
theorem zgc (w0:World)(s:ByteArray)(w:World) :
    Calls prog 118 #[.string s] w fun e w'=>∃v,e= .returned v/\Cn.Nm w0 w w' s v:=by
  have HL:Hid (∀W,Calls prog 169 #[.func (.func 147) #[] #[]] W fun e w'=>∃v,e= .returned v/\Cn.Acts w0 W.heap.size w' v (fun x=>(x.map Cn.low,0))/\Below W.heap.size W w'):=fun W=>zmg w0 W _ _ (enters_of func147 (by kernel_rfl) rfl) fun W r h1 h2=>zla r (by omega) (by omega) W
  have HU:Hid (∀W,Calls prog 169 #[.func (.func 172) #[] #[]] W fun e w'=>∃v,e= .returned v/\Cn.Acts w0 W.heap.size w' v (fun x=>(x.map Cn.up,0))/\Below W.heap.size W w'):=fun W=>zmg w0 W _ _ (enters_of func172 (by kernel_rfl) rfl) fun W r h1 h2=>zpe r (by omega) (by omega) W
  cases h1:(s.toList== [108,111,119,101,114]) with
  | true =>
    have h1':=eq_of_beq h1
    go_enter func118,ntmps118
    go_wp2_with fail
    refine(HL.out _).mono ?_
    rintro e w1 ⟨v,rfl,hA,hB⟩
    have HA:Hid (Cn.Acts w0 w.heap.size w1 v (fun x=>(x.map Cn.low,0))/\Below w.heap.size w w1):=⟨hA,hB⟩
    clear hA hB
    go_wp2
    go_ret
    exact⟨_,rfl,Cn.ztj (by unfold R.passes;rw[h1'];decide) HA.out.1 (by funext x;unfold Cn.nameF;rw[h1'];rfl) HA.out.2⟩
  | false =>
    cases h2:(s.toList== [110,117,108,108]) with
    | true =>
      have h2':=eq_of_beq h2
      go_enter func118,ntmps118
      go_wp2
      go_ret
      exact⟨_,rfl,Cn.ztj (by unfold R.passes;rw[h2'];decide) (Cn.zr8 w0 _ w) (by funext x;unfold Cn.nameF;rw[h2'];rfl) (qR _)⟩
    | false =>
      cases h3:(s.toList== [114,101,109,111,118,101]) with
      | true =>
        have h3':=eq_of_beq h3
        go_enter func118,ntmps118
        go_wp2
        go_ret
        exact⟨_,rfl,Cn.ztj (by unfold R.passes;rw[h3'];decide) (Cn.zlm w0 _ w) (by funext x;unfold Cn.nameF;rw[h3'];rfl) (qR _)⟩
      | false =>
        cases h4:(s.toList== [117,112,112,101,114]) with
        | true =>
          have h4':=eq_of_beq h4
          go_enter func118,ntmps118
          go_wp2_with fail
          refine(HU.out _).mono ?_
          rintro e w1 ⟨v,rfl,hA,hB⟩
          have HA:Hid (Cn.Acts w0 w.heap.size w1 v (fun x=>(x.map Cn.up,0))/\Below w.heap.size w w1):=⟨hA,hB⟩
          clear hA hB
          go_wp2
          go_ret
          exact⟨_,rfl,Cn.ztj (by unfold R.passes;rw[h4'];decide) HA.out.1 (by funext x;unfold Cn.nameF;rw[h4'];rfl) HA.out.2⟩
        | false =>
          go_enter func118,ntmps118
          go_wp2
          go_ret
          have hp:R.passes s=false:=by
            unfold R.passes
            simp only[beq_eq_false_iff_ne,ne_eq] at h1 h2 h3 h4
            simp[h1,h2,h3,h4]
          exact⟨_,rfl,fun h=>by (rw[hp] at h;cases h),fun _=>rfl,qR _,fun h=>by (rw[hp] at h;cases h)⟩
set_option maxHeartbeats 1000000 in
theorem zqd (pl:Cn.Pl)(hpl:Cn.PlOk pl)(w0 w:World)(p:V.Pass)(ro:Option Addr)(rc:Nat)(R0:V.Rus w0 (.slice ro p.rules.length rc) p.rules)(hp:Cn.passE p=0) :
    Calls prog 68 #[.agg #[.string p.name,.slice ro p.rules.length rc]] w fun e w'=>∃v,e= .returned v/\Cn.Acts w0 w.heap.size w' v (Cn.passF pl p)/\Below w.heap.size w w':=by
  have hal:=fun o=>(qR w).alloc qN o
  have HR:Hid (∀o,Calls prog 122 #[.slice ro p.rules.length rc] (w.alloc o) fun e w'=>∃v',e= .returned v'/\Cn.Acts w0 (w.alloc o).heap.size w' v' (pl p.rules)/\Below (w.alloc o).heap.size (w.alloc o) w'):=fun o=>zp2 pl hpl w0 _ _ _ R0
  have HN:=qH <| fun W=>zgc w0 p.name W
  have HA:Hid (∀o w',Below (w.alloc o).heap.size (w.alloc o) w'->Below w.heap.size w w'):=fun o w' h=>(hal o).trans (h.mono (hal o).size)
  cases h1:(p.name.toList== []) with
  | true =>
    have h1':=eq_of_beq h1
    go_enter func68,ntmps68
    go_wp2_with fail
    refine(HR.out _).mono ?_
    rintro e w1 ⟨v,rfl,hA,hB⟩
    have HE:Hid (Cn.Acts w0 w.heap.size w1 v (pl p.rules)/\Below w.heap.size w w1):=⟨hA.keep (by simp) fun _ _ _ h=>h,HA.out _ _ hB⟩
    clear hA hB
    go_wp2
    go_ret
    have e:Cn.passF pl p=pl p.rules:=by (funext x;unfold Cn.passF;rw[if_pos h1'])
    exact⟨_,rfl,by rw[e];exact HE.out.1,HE.out.2⟩
  | false =>
    have h1':¬p.name.toList= []:=by simpa using h1
    have hps:R.passes p.name=true:=by
      unfold Cn.passE at hp
      rw[if_neg h1'] at hp
      cases h:R.passes p.name with
      | true=>rfl
      | false=>rw[h] at hp;simp at hp
    go_enter func68,ntmps68
    go_wp2_with fail
    refine(HN.out _).mono ?_
    rintro e w1 ⟨v,rfl,hnm⟩
    have HE:Hid (Cn.Acts w0 w.heap.size w1 v (Cn.nameF p.name)/\Below w.heap.size w w1):=⟨(hnm.1 hps).keep (by simp) fun _ _ _ h=>h,HA.out _ _ hnm.2.2.1⟩
    clear hnm
    go_wp2
    go_ret
    have e:Cn.passF pl p=Cn.nameF p.name:=by (funext x;unfold Cn.passF Cn.nameF;rw[if_neg h1'])
    exact⟨_,rfl,by rw[e];exact HE.out.1,HE.out.2⟩
end
section
open Go.RowKit
theorem zdj (w:World)(p:V.Pass)(ro:Option Addr)(rc:Nat)(R0:V.Rus w (.slice ro p.rules.length rc) p.rules) :
  Calls prog 63 #[.agg #[.string p.name,.slice ro p.rules.length rc]] w fun e w'=>e= .returned (.int .i64 (Cn.passE p))/\Below w.heap.size w w':=by
 have hal:=fun o=>(qR w).alloc qN o
 have hfew:=R0.few;have HR:=qH <| fun o=>zbv _ _ _ (R0.below (hal o))
 have HN:=qH <| fun W=>zgc w p.name W
 have HA:Hid (∀o w',Below (w.alloc o).heap.size (w.alloc o) w'->Below w.heap.size w w'):=fun o w' h=>(hal o).trans (h.mono (hal o).size)
 have q1:∀g cb w,(binOp .eql 140 (.func (.func g) #[] cb) .nilFunc).run prog w= .ok (.bool false) w:=fun g cb w=>by kernel_rfl
 have q2:∀w,(binOp .eql 140 .nilFunc .nilFunc).run prog w= .ok (.bool true) w:=fun w=>by kernel_rfl
 have q3:∀a b w,(Instr.field 38 (.agg #[.int .i64 a,.int .i64 b]) 0).run prog w= .ok (.int .i64 a) w:=fun a b w=>by kernel_rfl
 cases h1:(p.name.toList== []) with
 | true =>
  have h1':=eq_of_beq h1;have he:Cn.passE p=(K.rulesF p.rules).1:=by unfold Cn.passE;rw[if_pos h1']
  rw[he];obtain⟨⟨r1,r2⟩,hr⟩:∃o,K.rulesF p.rules=o:=⟨_,rfl⟩;rw[hr] at HR ⊢;simp only at HR ⊢;clear hr he R0
  go_enter func63,ntmps63
  go_wp2_with fail
  refine(HR.out _).mono ?_;rintro e w1 ⟨rfl,hB⟩;have HE:=qH <| HA.out _ _ hB;clear hB;go_wp2;go_ret;exact⟨rfl,HE.out⟩
 | false =>
  have h1':¬p.name.toList= []:=by simpa using h1
  cases hps:R.passes p.name with
  | false =>
   have he:Cn.passE p=7:=by unfold Cn.passE;rw[if_neg h1',hps];rfl
   rw[he]
   go_enter func63,ntmps63
   go_wp2_with fail
   refine(HN.out _).mono ?_;rintro e w1 ⟨v,rfl,hnm⟩;obtain rfl:=hnm.2.1 hps;have HE:=qH <| HA.out _ _ hnm.2.2.1;clear hnm;go_wp2;go_ret;exact⟨rfl,HE.out⟩
  | true =>
   have he:Cn.passE p=if 0<p.rules.length then 8 else 0:=by unfold Cn.passE;rw[if_neg h1',hps];rfl
   rw[he];obtain⟨o,HO⟩:∃o:Int,Hid ((if 0<p.rules.length then 8 else 0)=o):=⟨_,rfl⟩;rw[HO.out];clear he
   go_enter func63,ntmps63
   go_wp2_with fail
   refine(HN.out _).mono ?_;rintro e w1 ⟨v,rfl,hnm⟩;obtain⟨g,cb,bx,rfl,_⟩:=hnm.1 hps;have HE:Hid (Below w.heap.size w w1/\Below (w.alloc (.cells #[.string p.name,.slice ro p.rules.length rc] 32)).heap.size (w.alloc (.cells #[.string p.name,.slice ro p.rules.length rc] 32)) w1):=⟨HA.out _ _ hnm.2.2.1,hnm.2.2.1⟩;have hx:=(HE.out.2.block _ (by simp)).trans (heap_alloc_new w _);obtain⟨k0,k1,_,_⟩:=K.box2 hx;clear hnm hx
   by_cases hz:0<p.rules.length
   ·have ho:=HO.out;rw[if_pos hz] at ho;subst ho;have hz':(0:Int)<(p.rules.length:Int):=by omega
    go_wp2;go_ret
    exact⟨rfl,HE.out.1⟩
   ·have ho:=HO.out;rw[if_neg hz] at ho;subst ho;have hz':¬(0:Int)<(p.rules.length:Int):=by omega
    go_wp2;go_ret
    exact⟨rfl,HE.out.1⟩
theorem Cn.zd8 (w:World)(o1 o2:Obj):((w.alloc o1).alloc o2).heap[w.heap.size]?=some o1/\((w.alloc o1).alloc o2).heap[w.heap.size+1]?=some o2/\Below w.heap.size w ((w.alloc o1).alloc o2):=by
 have h:=K.zar (qR ((w.alloc o1).alloc o2));exact⟨h.1,h.2.1,h.2.2.1⟩
theorem zol (w:World)(v:Value)(s:V.Script)(h0:V.ScIs w v s)(hfit:S.Fit s.only) :
  Calls prog 26 #[v] w fun e w'=>e= .returned (.agg #[.int .i64 (Cn.wrongF s).1,.int .i64 (Cn.wrongF s).2])/\Below w.heap.size w w':=by
 obtain⟨oo,oc,po,pc,rfl,hO,hOl,hP⟩:=h0;have hPl:=hP.few;have HP:=qH hP;have HSw:=qH <| fun X hX=>zby X _ _ (hO.below hX qN) hfit
 obtain⟨⟨o1,o2⟩,HO⟩:∃o,Hid (Cn.wrongF s=o):=⟨_,rfl⟩;rw[HO.out];clear hO hP;have h2:=Cn.zd8 w (.cells #[.bool s.has,.slice oo s.only.length oc,.slice po s.passes.length pc] 27) (.cells #[.int .i64 0,.int .i64 0] 38);have HX2:=qH h2;clear h2;cases hh:s.has with
 | false =>
  have HS0:Hid (¬(s.has=true/\¬S.wrongE s.only=0)):=fun h=>by
   have:=h.1;rw[hh] at this;cases this
  rw[hh] at HX2;have HX:Hid (_/\_/\_):=HX2.out;clear HX2 HSw
  go_enter func26,ntmps26
  by_cases hbig:60<s.passes.length
  ·have hw:Cn.wrongF s=(5,0):=by unfold Cn.wrongF;rw[if_neg HS0.out,if_pos hbig]
   rw[HO.out] at hw;cases hw;have hbi:(60:Int)<(s.passes.length:Int):=by omega
   go_wp2;refine bodyPost_ret (v:= .agg #[.int .i64 5,.int .i64 0]) (by simp[results,results26,go_sem, *]) rfl ?_
   exact⟨rfl,(Cn.zd8 w _ _).2.2⟩
  ·have hw:Cn.firstP 0 s.passes=(o1,o2):=by rw[<- HO.out];unfold Cn.wrongF;rw[if_neg HS0.out,if_neg hbig]
   have HF:=qH hw;have hbi:¬(60:Int)<(s.passes.length:Int):=by omega
   clear hw;go_wp2
   go_loopw [24] (fun i wr=>∃k:Nat,k<=s.passes.length/\i= .int .i64 k/\Hid (Cn.firstP k (s.passes.drop k)=(o1,o2))/\Hid (Below w.heap.size w wr)/\Hid (wr.heap[w.heap.size+1]?=some (.cells #[.int .i64 0,.int .i64 0] 38))) (fun i _=>s.passes.length - (intOf i).toNat)
   case atStart=>exact⟨0,Nat.zero_le _,rfl,HF,HX.out.2.2,HX.out.2.1⟩
   case round =>
    obtain⟨k,hk,rfl,HE,HB,HY⟩:=hrel
    by_cases hlt:k<s.passes.length
    ·obtain⟨p,hp⟩:∃x,s.passes[k]?=some x:=⟨s.passes[k],by simp[hlt]⟩;obtain⟨ao',cap',e',_,hcs⟩:=HP.out.below HB.out;cases e';obtain⟨b,off,rfl,hcell⟩:=hcs (by intro h;rw[h] at hlt;simp at hlt);obtain⟨c0,hn,ro,rc,c1,hr⟩:=hcell k p hp;have HE2:=qH <| Cn.zf9 hp;have hsz:=HB.out.size;have HW:=qH <| fun o=>zdj _ p ro rc (hr.below ((qR wr).alloc qN o))
     obtain⟨z,HZ⟩:∃z,Hid (Cn.passE p=z):=⟨_,rfl⟩;rw[HZ.out] at HW HE2;clear hp hcell hcs hr
     go_wp2_with fail
     refine(HW.out _).mono ?_;rintro e w1 ⟨rfl,b1⟩;obtain⟨_,B1,hl1⟩:=K.zau b1;have hY1:=K.zae HY.out B1;have HB1:=qH <| HB.out.trans (B1.mono hsz);have HY1:=qH hY1;obtain⟨x0,x1,f0,f1⟩:=K.box2 hY1;clear b1 B1 hY1
     by_cases hz:z=0
     ·subst hz;go_wp2
      go_roundw
      case rel=>exact⟨k+1,by omega,by go_num,by show _=_;rw[<- HE.out,HE2.out];simp,HB1,HY1⟩
      case measure=>simp[intOf];omega
     ·go_wp2;refine bodyPost_ret (v:= .agg #[.int .i64 z,.int .i64 k]) (by simp[results,results26,go_sem, *]) rfl ?_
      have h:=HE2.out;rw[HE.out,if_neg hz] at h;cases h;exact⟨rfl,((HB1.out).setCell (p:=⟨w.heap.size+1,0,none⟩) (by simp) _).setCell (p:=⟨w.heap.size+1,1,none⟩) (by simp) _⟩
    ·obtain⟨x0,x1,f0,f1⟩:=K.box2 HY.out;have h:=HE.out;rw[List.drop_eq_nil_of_le (by omega)] at h;cases h;go_wp2;refine bodyPost_ret (v:= .agg #[.int .i64 0,.int .i64 0]) (by simp[results,results26,go_sem, *]) rfl ?_;exact⟨rfl,((HB.out).setCell (p:=⟨w.heap.size+1,0,none⟩) (by simp) _).setCell (p:=⟨w.heap.size+1,1,none⟩) (by simp) _⟩
 | true =>
  rw[hh] at HX2;have hSw:=HSw.out _ HX2.out.2.2;obtain⟨z,HZ⟩:∃z,Hid (S.wrongE s.only=z):=⟨_,rfl⟩;rw[HZ.out] at hSw
  go_enter func26,ntmps26
  go_wp2_with fail
  refine hSw.mono ?_;rintro e w1 ⟨rfl,b1⟩;obtain⟨g1,g2,g3⟩:=HX2.out;have HX:Hid (w1.heap[w.heap.size]?=some (.cells #[.bool true,.slice oo s.only.length oc,.slice po s.passes.length pc] 27)/\w1.heap[w.heap.size+1]?=some (.cells #[.int .i64 0,.int .i64 0] 38)/\Below w.heap.size w w1):=⟨K.zae g1 b1,K.zae g2 b1,g3.trans (b1.mono g3.size)⟩;clear g1 g2 g3 b1 hSw HX2 HSw
  by_cases hz:z=0
  ·subst hz;have HS0:Hid (¬(s.has=true/\¬S.wrongE s.only=0)):=fun h=>h.2 HZ.out
   obtain⟨kb,kf,kB⟩:=HX.out;have kp:w1.cell? ⟨w.heap.size,2,none⟩=some (.slice po s.passes.length pc):=K.zad kb rfl;obtain⟨y0,y1,f0,f1⟩:=K.box2 kf;clear kb kf kB
   by_cases hbig:60<s.passes.length
   ·have hw:Cn.wrongF s=(5,0):=by unfold Cn.wrongF;rw[if_neg HS0.out,if_pos hbig]
    rw[HO.out] at hw;cases hw;have hbi:(60:Int)<(s.passes.length:Int):=by omega
    go_wp2;refine bodyPost_ret (v:= .agg #[.int .i64 5,.int .i64 0]) (by simp[results,results26,go_sem, *]) rfl ?_
    exact⟨rfl,((HX.out.2.2).setCell (p:=⟨w.heap.size+1,0,none⟩) (by simp) _).setCell (p:=⟨w.heap.size+1,1,none⟩) (by simp) _⟩
   ·have hw:Cn.firstP 0 s.passes=(o1,o2):=by rw[<- HO.out];unfold Cn.wrongF;rw[if_neg HS0.out,if_neg hbig]
    have HF:=qH hw;have hbi:¬(60:Int)<(s.passes.length:Int):=by omega
    clear hw y0 y1 f0 f1;go_wp2
    go_loopw [24] (fun i wr=>∃k:Nat,k<=s.passes.length/\i= .int .i64 k/\Hid (Cn.firstP k (s.passes.drop k)=(o1,o2))/\Hid (Below w.heap.size w wr)/\Hid (wr.heap[w.heap.size+1]?=some (.cells #[.int .i64 0,.int .i64 0] 38))) (fun i _=>s.passes.length - (intOf i).toNat)
    case atStart=>exact⟨0,Nat.zero_le _,rfl,HF,HX.out.2.2,HX.out.2.1⟩
    case round =>
     obtain⟨k,hk,rfl,HE,HB,HY⟩:=hrel
     by_cases hlt:k<s.passes.length
     ·obtain⟨p,hp⟩:∃x,s.passes[k]?=some x:=⟨s.passes[k],by simp[hlt]⟩;obtain⟨ao',cap',e',_,hcs⟩:=HP.out.below HB.out;cases e';obtain⟨b,off,rfl,hcell⟩:=hcs (by intro h;rw[h] at hlt;simp at hlt);obtain⟨c0,hn,ro,rc,c1,hr⟩:=hcell k p hp;have HE2:=qH <| Cn.zf9 hp;have hsz:=HB.out.size;have HW:=qH <| fun o=>zdj _ p ro rc (hr.below ((qR wr).alloc qN o))
      obtain⟨z,HZ⟩:∃z,Hid (Cn.passE p=z):=⟨_,rfl⟩;rw[HZ.out] at HW HE2;clear hp hcell hcs hr
      go_wp2_with fail
      refine(HW.out _).mono ?_;rintro e w1 ⟨rfl,b1⟩;obtain⟨_,B1,hl1⟩:=K.zau b1;have hY1:=K.zae HY.out B1;have HB1:=qH <| HB.out.trans (B1.mono hsz);have HY1:=qH hY1;obtain⟨x0,x1,f0,f1⟩:=K.box2 hY1;clear b1 B1 hY1
      by_cases hz:z=0
      ·subst hz;go_wp2
       go_roundw
       case rel=>exact⟨k+1,by omega,by go_num,by show _=_;rw[<- HE.out,HE2.out];simp,HB1,HY1⟩
       case measure=>simp[intOf];omega
      ·go_wp2;refine bodyPost_ret (v:= .agg #[.int .i64 z,.int .i64 k]) (by simp[results,results26,go_sem, *]) rfl ?_
       have h:=HE2.out;rw[HE.out,if_neg hz] at h;cases h;exact⟨rfl,((HB1.out).setCell (p:=⟨w.heap.size+1,0,none⟩) (by simp) _).setCell (p:=⟨w.heap.size+1,1,none⟩) (by simp) _⟩
     ·obtain⟨x0,x1,f0,f1⟩:=K.box2 HY.out;have h:=HE.out;rw[List.drop_eq_nil_of_le (by omega)] at h;cases h;go_wp2;refine bodyPost_ret (v:= .agg #[.int .i64 0,.int .i64 0]) (by simp[results,results26,go_sem, *]) rfl ?_;exact⟨rfl,((HB.out).setCell (p:=⟨w.heap.size+1,0,none⟩) (by simp) _).setCell (p:=⟨w.heap.size+1,1,none⟩) (by simp) _⟩
  ·have hw:Cn.wrongF s=(z,0):=by unfold Cn.wrongF;rw[if_pos ⟨hh,by rw[HZ.out];exact hz⟩,HZ.out]
   rw[HO.out] at hw;cases hw;obtain⟨y0,y1,f0,f1⟩:=K.box2 HX.out.2.1;go_wp2;refine bodyPost_ret (v:= .agg #[.int .i64 o1,.int .i64 0]) (by simp[results,results26,go_sem, *]) rfl ?_;exact⟨rfl,((HX.out.2.2).setCell (p:=⟨w.heap.size+1,0,none⟩) (by simp) _).setCell (p:=⟨w.heap.size+1,1,none⟩) (by simp) _⟩
end
section
open Go.RowKit Go.Lib
namespace Tp
noncomputable def scriptF (t:List Int):V.Script×Bool :=
 match R.read t with
 | .ok l _=>((V.forthF l).1,decide ((V.forthF l).2.1=0)&&decide ((Cn.wrongF (V.forthF l).1).1=0))
 | .bad _ _=>(⟨false,[],[]⟩,false)
end Tp
theorem V.Firm.mono {F F':Nat}{w:World}{v:Value}{s:V.Script}(h:V.Firm F w v s)(hF:F'<=F):V.Firm F' w v s:=fun W hs hb=>h W hs fun b h1 h2=>hb b (by omega) h2
end
section
open Go.RowKit Go.Lib Go.Shelf
def Cn.Idx (l:List Int) (P:Int->Bool) (i:Int):Prop :=
 (i= -1/\∀r∈l,P r=false)∨∃(j:Nat) (x:Int),i=(j:Int)/\l[j]?=some x/\P x=true/\∀r∈l.take j,P r=false
theorem zj8 (w:World)(v:Value)(l:List Int)(R0:L.Rd w v .i32 l)(hl:l.length<=140737488355328)(g:Nat)(cb:Array Value)(P:Int->Bool)(eg:∀args w,(callFunc g args).run prog w= .ok (.enter g args) w)
  (hh:∀W r,Below w.heap.size w W->r∈l->Calls prog g (#[.int .i32 r]++cb) W fun e w'=>e= .returned (.bool (P r))/\Below W.heap.size W w') :
  Calls prog 65 #[v,.func (.func g) #[] cb] w fun e w'=>∃i:Int,e= .returned (.int .i64 i)/\Cn.Idx l P i/\Below w.heap.size w w':=by
 have HH:=qH hh;obtain⟨lao,lcap,rfl,_,hcs⟩:=R0;have HC:=qH hcs;clear hh hcs
 go_enter func65,ntmps65
 go_wp2
 go_loopw [8] (fun i wr=>∃j:Nat,j<=l.length/\i= .int .i64 j/\Hid (∀r∈l.take j,P r=false)/\Hid (Below w.heap.size w wr)) (fun i _=>l.length - (intOf i).toNat)
 case atStart=>exact⟨0,Nat.zero_le _,rfl,fun r hr=>by simp at hr,qR w⟩
 case round =>
  obtain⟨j,hj,rfl,HW,HB⟩:=hrel
  by_cases hlt:j<l.length
  ·obtain⟨p,hp⟩:∃x,l[j]?=some x:=⟨l[j],by simp[hlt]⟩;obtain⟨b,off,rfl,hcell⟩:=HC.out (by intro h;subst h;simp at hlt);have c0:=hcell j p hp;rw[<- HB.out.cell (p:=⟨b,off+j,none⟩) (L.block_lt c0)] at c0;have hsz:=HB.out.size;have HW2:=qH <| HH.out wr p HB.out (List.mem_of_getElem? hp);have HP:=qH hp;obtain⟨z,HZ⟩:∃z,Hid (P p=z):=⟨_,rfl⟩;rw[HZ.out] at HW2;clear hp hcell
   go_wp2_with fail
   refine HW2.out.mono ?_;rintro e w1 ⟨rfl,B1⟩;have HB1:=qH <| HB.out.trans (B1.mono hsz);clear B1;cases z with
   | false =>
    have HT:Hid (∀r∈l.take (j+1),P r=false):=fun r hr=>by
     rw[List.take_add_one,HP.out,List.mem_append] at hr;rcases hr with hr | hr
     ·exact HW.out r hr
     ·simp at hr;rw[hr];exact HZ.out
    go_wp2
    go_roundw
    case rel=>exact⟨j+1,by omega,by go_num,HT,HB1⟩
    case measure=>simp[intOf];omega
   | true =>
    go_wp2;go_ret
    exact⟨j,rfl,.inr ⟨j,p,rfl,HP.out,HZ.out,HW.out⟩,HB1.out⟩
  ·have hkl:j=l.length:=by omega
   subst hkl;go_wp2;go_ret;exact⟨-1,rfl,.inl ⟨rfl,fun r hr=>HW.out r (by rw[List.take_length];exact hr)⟩,HB.out⟩
