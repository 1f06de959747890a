/-
  The passes of a script are made.
-/
import Derived.Test.YtamfgmaipajodaaGreatDoorCnMath
import Derived.Test.YtamfgmaipajodaaGreatDoorCnPass
import Derived.Test.YtamfgmaipajodaaGreatDoorTParse
import Derived.Test.YtamfgmaipajodaaGreatDoorRPos
import Derived.Test.YtamfgmaipajodaaGreatDoorVForth
import Derived.BigRegion
import Derived.Test.YtamfgmaipajodaaGreatDoorRows
import Derived.Test.YtamfgmaipajodaaGreatDoorSLib
import Derived.Shelf.Abstract
set_option maxHeartbeats 0
set_option maxRecDepth 20000
set_option linter.unusedSimpArgs false
set_option linter.unusedVariables false
namespace Go.Proofs.YtamfgmaipajodaaGreatDoor
open Go.RowKit
set_option maxHeartbeats 1000000 in
theorem zla (w0 w:World)(g:Nat)(f:Int->Int)(eg:∀args w,(callFunc g args).run Tryz.prog w= .ok (.enter g args) w)
    (hf:∀W r,0<=r->r<=1114111->Calls Tryz.prog g #[.int .i32 r] W fun e w'=>e= .returned (.int .i32 (f r))/\w'=W) :
    Calls Tryz.prog 164 #[.func (.func g) #[] #[]] w fun e w'=>∃v,e= .returned v/\Cn.Acts w0 w.heap.size w' v (fun x=>(x.map f,0))/\Below w.heap.size w w':=by
  have HF:Hid (∀W r,0<=r->r<=1114111->Calls Tryz.prog g #[.int .i32 r] W fun e w'=>e= .returned (.int .i32 (f r))/\w'=W):=hf
  have HG:Hid (∀args w,(callFunc g args).run Tryz.prog w= .ok (.enter g args) w):=eg
  clear hf eg
  go_enter Tryz.func164,Tryz.ntmps164
  go_wp2
  go_ret
  have hal:∀o,Below w.heap.size w (w.alloc o):=fun o=>(qR w).alloc qN o
  refine⟨_,rfl,⟨193,_,some (w.heap.size,_),rfl,enters_of Tryz.func193 (by kernel_rfl) rfl,fun p hp=>by cases hp;exact⟨qN,heap_alloc_new w _⟩,fun W vt t hW hb hr ht=> ?_⟩,hal _⟩
  exact zh9 W w.heap.size g _ f (hb _ rfl) HG.out HF.out vt t hr ht
set_option maxHeartbeats 1000000 in
theorem zol (pl:Cn.Pl)(hpl:Cn.PlOk pl)(w0 w:World)(v:Value)(l:List K.Rule)(R0:V.Rus w0 v l) :
    Calls Tryz.prog 121 #[v] w fun e w'=>∃v',e= .returned v'/\Cn.Acts w0 w.heap.size w' v' (pl l)/\Below w.heap.size w w':=by
  have HR:Hid (V.Rus w0 v l):=R0
  obtain⟨ao,cap,rfl⟩:=R0.len
  clear R0
  go_enter Tryz.func121,Tryz.ntmps121
  go_wp2
  go_ret
  have hal:∀o,Below w.heap.size w (w.alloc o):=fun o=>(qR w).alloc qN o
  refine⟨_,rfl,⟨167,_,some (w.heap.size,_),rfl,enters_of Tryz.func167 (by kernel_rfl) rfl,fun p hp=>by cases hp;exact⟨qN,heap_alloc_new w _⟩,fun W vt t hW hb hr ht=> ?_⟩,hal _⟩
  exact zgp pl hpl W w.heap.size _ l (hb _ rfl) (HR.out.below hW) vt t hr ht
def Cn.nameF (s:ByteArray) (x:List Int):List Int×Int :=
  if s.toList= [117,112,112,101,114] then (x.map Cn.up,0)
  else if s.toList= [108,111,119,101,114] then (x.map Cn.low,0)
  else if s.toList= [110,117,108,108] then (x,0) else ([],0)
theorem Cn.zqs (w0:World)(B:Nat)(w:World):Cn.Acts w0 B w (.func (.func 165) #[] #[]) (fun x=>(x,0)) :=
  ⟨165,_,none,rfl,enters_of Tryz.func165 (by kernel_rfl) rfl,fun p hp=>by (cases hp),fun W vt t hW _ hr ht=>(zho W vt).mono fun e w' ⟨h1,h2⟩=>by subst h2;exact⟨_,h1,hr,qR _⟩⟩
theorem Cn.zkf (w0:World)(B:Nat)(w:World):Cn.Acts w0 B w (.func (.func 166) #[] #[]) (fun x=>([],0)) :=
  ⟨166,_,none,rfl,enters_of Tryz.func166 (by kernel_rfl) rfl,fun p hp=>by (cases hp),fun W vt t hW _ hr ht=>(zfk W vt).mono fun e w' ⟨h1,h2⟩=>by subst h2;exact⟨_,h1,⟨none,0,rfl,fun _=>rfl,fun h=>absurd rfl h⟩,qR _⟩⟩
def Cn.Nm (w0 w w':World) (s:ByteArray) (v:Value):Prop:=(R.passes s=true->Cn.Acts w0 w.heap.size w' v (Cn.nameF s))/\(R.passes s=false->v= .nilFunc)/\Below w.heap.size w w'/\(R.passes s=true->v≠ .nilFunc)
theorem Cn.Acts.some {w0 w:World}{B:Nat}{v:Value}{F:List Int->List Int×Int}(h:Cn.Acts w0 B w v F):v≠ .nilFunc:=by
  obtain⟨g,cb,bx,rfl,_⟩:=h
  intro h;cases h
theorem Cn.zr0 {w0 w w':World}{s:ByteArray}{v:Value}{F:List Int->List Int×Int}(hp:R.passes s=true)(h:Cn.Acts w0 w.heap.size w' v F)(e:Cn.nameF s=F)(hb:Below w.heap.size w w'):Cn.Nm w0 w w' s v :=
  ⟨fun _=>e▸h,fun h=>by (rw[hp] at h;cases h),hb,fun _=>h.some⟩
set_option maxHeartbeats 1000000 in
theorem zff (w0:World)(s:ByteArray)(w:World) :
    Calls Tryz.prog 117 #[.string s] w fun e w'=>∃v,e= .returned v/\Cn.Nm w0 w w' s v:=by
  have HL:Hid (∀W,Calls Tryz.prog 164 #[.func (.func 50) #[] #[]] W fun e w'=>∃v,e= .returned v/\Cn.Acts w0 W.heap.size w' v (fun x=>(x.map Cn.low,0))/\Below W.heap.size W w'):=fun W=>zla w0 W _ _ (enters_of Tryz.func50 (by kernel_rfl) rfl) fun W r h1 h2=>zc4 r (by omega) (by omega) W
  have HU:Hid (∀W,Calls Tryz.prog 164 #[.func (.func 94) #[] #[]] W fun e w'=>∃v,e= .returned v/\Cn.Acts w0 W.heap.size w' v (fun x=>(x.map Cn.up,0))/\Below W.heap.size W w'):=fun W=>zla w0 W _ _ (enters_of Tryz.func94 (by kernel_rfl) rfl) fun W r h1 h2=>zhd r (by omega) (by omega) W
  cases h1:(s.toList== [108,111,119,101,114]) with
  | true =>
    have h1':=eq_of_beq h1
    go_enter Tryz.func117,Tryz.ntmps117
    go_wp2_with fail
    refine(HL.out _).mono ?_
    rintro e w1 ⟨v,rfl,hA,hB⟩
    have HA:Hid (Cn.Acts w0 w.heap.size w1 v (fun x=>(x.map Cn.low,0))/\Below w.heap.size w w1):=⟨hA,hB⟩
    clear hA hB
    go_wp2
    go_ret
    exact⟨_,rfl,Cn.zr0 (by unfold R.passes;rw[h1'];decide) HA.out.1 (by funext x;unfold Cn.nameF;rw[h1'];rfl) HA.out.2⟩
  | false =>
    cases h2:(s.toList== [110,117,108,108]) with
    | true =>
      have h2':=eq_of_beq h2
      go_enter Tryz.func117,Tryz.ntmps117
      go_wp2
      go_ret
      exact⟨_,rfl,Cn.zr0 (by unfold R.passes;rw[h2'];decide) (Cn.zqs w0 _ w) (by funext x;unfold Cn.nameF;rw[h2'];rfl) (qR _)⟩
    | false =>
      cases h3:(s.toList== [114,101,109,111,118,101]) with
      | true =>
        have h3':=eq_of_beq h3
        go_enter Tryz.func117,Tryz.ntmps117
        go_wp2
        go_ret
        exact⟨_,rfl,Cn.zr0 (by unfold R.passes;rw[h3'];decide) (Cn.zkf w0 _ w) (by funext x;unfold Cn.nameF;rw[h3'];rfl) (qR _)⟩
      | false =>
        cases h4:(s.toList== [117,112,112,101,114]) with
        | true =>
          have h4':=eq_of_beq h4
          go_enter Tryz.func117,Tryz.ntmps117
          go_wp2_with fail
          refine(HU.out _).mono ?_
          rintro e w1 ⟨v,rfl,hA,hB⟩
          have HA:Hid (Cn.Acts w0 w.heap.size w1 v (fun x=>(x.map Cn.up,0))/\Below w.heap.size w w1):=⟨hA,hB⟩
          clear hA hB
          go_wp2
          go_ret
          exact⟨_,rfl,Cn.zr0 (by unfold R.passes;rw[h4'];decide) HA.out.1 (by funext x;unfold Cn.nameF;rw[h4'];rfl) HA.out.2⟩
        | false =>
          go_enter Tryz.func117,Tryz.ntmps117
          go_wp2
          go_ret
          have hp:R.passes s=false:=by
            unfold R.passes
            simp only[beq_eq_false_iff_ne,ne_eq] at h1 h2 h3 h4
            simp[h1,h2,h3,h4]
          exact⟨_,rfl,fun h=>by (rw[hp] at h;cases h),fun _=>rfl,qR _,fun h=>by (rw[hp] at h;cases h)⟩
set_option maxHeartbeats 1000000 in
theorem zos (pl:Cn.Pl)(hpl:Cn.PlOk pl)(w0 w:World)(p:V.Pass)(ro:Option Addr)(rc:Nat)(R0:V.Rus w0 (.slice ro p.rules.length rc) p.rules)(hp:Cn.passE p=0) :
    Calls Tryz.prog 70 #[.agg #[.string p.name,.slice ro p.rules.length rc]] w fun e w'=>∃v,e= .returned v/\Cn.Acts w0 w.heap.size w' v (Cn.passF pl p)/\Below w.heap.size w w':=by
  have hal:∀o,Below w.heap.size w (w.alloc o):=fun o=>(qR w).alloc qN o
  have HR:Hid (∀o,Calls Tryz.prog 121 #[.slice ro p.rules.length rc] (w.alloc o) fun e w'=>∃v',e= .returned v'/\Cn.Acts w0 (w.alloc o).heap.size w' v' (pl p.rules)/\Below (w.alloc o).heap.size (w.alloc o) w'):=fun o=>zol pl hpl w0 _ _ _ R0
  have HN:Hid (∀W,Calls Tryz.prog 117 #[.string p.name] W fun e w'=>∃v,e= .returned v/\Cn.Nm w0 W w' p.name v):=fun W=>zff w0 p.name W
  have HA:Hid (∀o w',Below (w.alloc o).heap.size (w.alloc o) w'->Below w.heap.size w w'):=fun o w' h=>(hal o).trans (h.mono (hal o).size)
  cases h1:(p.name.toList== []) with
  | true =>
    have h1':=eq_of_beq h1
    go_enter Tryz.func70,Tryz.ntmps70
    go_wp2_with fail
    refine(HR.out _).mono ?_
    rintro e w1 ⟨v,rfl,hA,hB⟩
    have HE:Hid (Cn.Acts w0 w.heap.size w1 v (pl p.rules)/\Below w.heap.size w w1):=⟨hA.keep (by simp) fun _ _ _ h=>h,HA.out _ _ hB⟩
    clear hA hB
    go_wp2
    go_ret
    have e:Cn.passF pl p=pl p.rules:=by (funext x;unfold Cn.passF;rw[if_pos h1'])
    exact⟨_,rfl,by rw[e];exact HE.out.1,HE.out.2⟩
  | false =>
    have h1':¬p.name.toList= []:=by simpa using h1
    have hps:R.passes p.name=true:=by
      unfold Cn.passE at hp
      rw[if_neg h1'] at hp
      cases h:R.passes p.name with
      | true=>rfl
      | false=>rw[h] at hp;simp at hp
    go_enter Tryz.func70,Tryz.ntmps70
    go_wp2_with fail
    refine(HN.out _).mono ?_
    rintro e w1 ⟨v,rfl,hnm⟩
    have HE:Hid (Cn.Acts w0 w.heap.size w1 v (Cn.nameF p.name)/\Below w.heap.size w w1):=⟨(hnm.1 hps).keep (by simp) fun _ _ _ h=>h,HA.out _ _ hnm.2.2.1⟩
    clear hnm
    go_wp2
    go_ret
    have e:Cn.passF pl p=Cn.nameF p.name:=by (funext x;unfold Cn.passF Cn.nameF;rw[if_neg h1'])
    exact⟨_,rfl,by rw[e];exact HE.out.1,HE.out.2⟩
end Go.Proofs.YtamfgmaipajodaaGreatDoor
namespace Go.Proofs.YtamfgmaipajodaaGreatDoor
open Go.RowKit
theorem zc7 (w:World)(p:V.Pass)(ro:Option Addr)(rc:Nat)(R0:V.Rus w (.slice ro p.rules.length rc) p.rules) :
  Calls Tryz.prog 65 #[.agg #[.string p.name,.slice ro p.rules.length rc]] w fun e w'=>e= .returned (.int .i64 (Cn.passE p))/\Below w.heap.size w w':=by
 have hal:∀o,Below w.heap.size w (w.alloc o):=fun o=>(qR w).alloc qN o
 have hfew:=R0.few;have HR:Hid (∀o,Calls Tryz.prog 34 #[.slice ro p.rules.length rc] (w.alloc o) fun e w'=>e= .returned (.agg #[.int .i64 (K.rulesF p.rules).1,.int .i64 (K.rulesF p.rules).2])/\Below (w.alloc o).heap.size (w.alloc o) w'):=fun o=>zd0 _ _ _ (R0.below (hal o))
 have HN:Hid (∀W,Calls Tryz.prog 117 #[.string p.name] W fun e w'=>∃v,e= .returned v/\Cn.Nm w W w' p.name v):=fun W=>zff w p.name W
 have HA:Hid (∀o w',Below (w.alloc o).heap.size (w.alloc o) w'->Below w.heap.size w w'):=fun o w' h=>(hal o).trans (h.mono (hal o).size)
 have q1:∀g cb w,(binOp .eql 142 (.func (.func g) #[] cb) .nilFunc).run Tryz.prog w= .ok (.bool false) w:=fun g cb w=>by kernel_rfl
 have q2:∀w,(binOp .eql 142 .nilFunc .nilFunc).run Tryz.prog w= .ok (.bool true) w:=fun w=>by kernel_rfl
 have q3:∀a b w,(Instr.field 38 (.agg #[.int .i64 a,.int .i64 b]) 0).run Tryz.prog w= .ok (.int .i64 a) w:=fun a b w=>by kernel_rfl
 cases h1:(p.name.toList== []) with
 | true =>
  have h1':=eq_of_beq h1;have he:Cn.passE p=(K.rulesF p.rules).1:=by unfold Cn.passE;rw[if_pos h1']
  rw[he];obtain⟨⟨r1,r2⟩,hr⟩:∃o,K.rulesF p.rules=o:=⟨_,rfl⟩;rw[hr] at HR ⊢;simp only at HR ⊢;clear hr he R0
  go_enter Tryz.func65,Tryz.ntmps65
  go_wp2_with fail
  refine(HR.out _).mono ?_;rintro e w1 ⟨rfl,hB⟩;have HE:Hid (Below w.heap.size w w1):=HA.out _ _ hB;clear hB;go_wp2;go_ret;exact⟨rfl,HE.out⟩
 | false =>
  have h1':¬p.name.toList= []:=by simpa using h1
  cases hps:R.passes p.name with
  | false =>
   have he:Cn.passE p=7:=by unfold Cn.passE;rw[if_neg h1',hps];rfl
   rw[he]
   go_enter Tryz.func65,Tryz.ntmps65
   go_wp2_with fail
   refine(HN.out _).mono ?_;rintro e w1 ⟨v,rfl,hnm⟩;obtain rfl:=hnm.2.1 hps;have HE:Hid (Below w.heap.size w w1):=HA.out _ _ hnm.2.2.1;clear hnm;go_wp2;go_ret;exact⟨rfl,HE.out⟩
  | true =>
   have he:Cn.passE p=if 0<p.rules.length then 8 else 0:=by unfold Cn.passE;rw[if_neg h1',hps];rfl
   rw[he];obtain⟨o,HO⟩:∃o:Int,Hid ((if 0<p.rules.length then 8 else 0)=o):=⟨_,rfl⟩;rw[HO.out];clear he
   go_enter Tryz.func65,Tryz.ntmps65
   go_wp2_with fail
   refine(HN.out _).mono ?_;rintro e w1 ⟨v,rfl,hnm⟩;obtain⟨g,cb,bx,rfl,_⟩:=hnm.1 hps;have HE:Hid (Below w.heap.size w w1/\Below (w.alloc (.cells #[.string p.name,.slice ro p.rules.length rc] 32)).heap.size (w.alloc (.cells #[.string p.name,.slice ro p.rules.length rc] 32)) w1):=⟨HA.out _ _ hnm.2.2.1,hnm.2.2.1⟩;have hx:w1.heap[w.heap.size]?=some (.cells #[.string p.name,.slice ro p.rules.length rc] 32):=(HE.out.2.block _ (by simp)).trans (heap_alloc_new w _);obtain⟨k0,k1,_,_⟩:=K.box2 hx;clear hnm hx
   by_cases hz:0<p.rules.length
   ·have ho:=HO.out;rw[if_pos hz] at ho;subst ho;have hz':(0:Int)<(p.rules.length:Int):=by omega
    go_wp2;go_ret
    exact⟨rfl,HE.out.1⟩
   ·have ho:=HO.out;rw[if_neg hz] at ho;subst ho;have hz':¬(0:Int)<(p.rules.length:Int):=by omega
    go_wp2;go_ret
    exact⟨rfl,HE.out.1⟩
theorem Cn.zdv (w:World)(o1 o2:Obj):((w.alloc o1).alloc o2).heap[w.heap.size]?=some o1/\((w.alloc o1).alloc o2).heap[w.heap.size+1]?=some o2/\Below w.heap.size w ((w.alloc o1).alloc o2):=by
 have h:=K.zbl (qR ((w.alloc o1).alloc o2));exact⟨h.1,h.2.1,h.2.2.1⟩
theorem znb (w:World)(v:Value)(s:V.Script)(h0:V.ScIs w v s)(hfit:S.Fit s.only) :
  Calls Tryz.prog 27 #[v] w fun e w'=>e= .returned (.agg #[.int .i64 (Cn.wrongF s).1,.int .i64 (Cn.wrongF s).2])/\Below w.heap.size w w':=by
 obtain⟨oo,oc,po,pc,rfl,hO,hOl,hP⟩:=h0;have hPl:=hP.few;have HP:Hid (V.Pas w (.slice po s.passes.length pc) s.passes):=hP;have HSw:Hid (∀X,Below w.heap.size w X->Calls Tryz.prog 64 #[.slice oo s.only.length oc] X fun e w'=>e= .returned (.int .i64 (S.wrongE s.only))/\Below X.heap.size X w'):=fun X hX=>zbq X _ _ (hO.below hX qN) hfit
 obtain⟨⟨o1,o2⟩,HO⟩:∃o,Hid (Cn.wrongF s=o):=⟨_,rfl⟩;rw[HO.out];clear hO hP;have h2:=Cn.zdv w (.cells #[.bool s.has,.slice oo s.only.length oc,.slice po s.passes.length pc] 27) (.cells #[.int .i64 0,.int .i64 0] 38);have HX2:Hid (((w.alloc (.cells #[.bool s.has,.slice oo s.only.length oc,.slice po s.passes.length pc] 27)).alloc (.cells #[.int .i64 0,.int .i64 0] 38)).heap[w.heap.size]?=some (.cells #[.bool s.has,.slice oo s.only.length oc,.slice po s.passes.length pc] 27)/\((w.alloc (.cells #[.bool s.has,.slice oo s.only.length oc,.slice po s.passes.length pc] 27)).alloc (.cells #[.int .i64 0,.int .i64 0] 38)).heap[w.heap.size+1]?=some (.cells #[.int .i64 0,.int .i64 0] 38)/\Below w.heap.size w ((w.alloc (.cells #[.bool s.has,.slice oo s.only.length oc,.slice po s.passes.length pc] 27)).alloc (.cells #[.int .i64 0,.int .i64 0] 38))):=h2;clear h2;cases hh:s.has with
 | false =>
  have HS0:Hid (¬(s.has=true/\¬S.wrongE s.only=0)):=fun h=>by
   have:=h.1;rw[hh] at this;cases this
  rw[hh] at HX2;have HX:Hid (_/\_/\_):=HX2.out;clear HX2 HSw
  go_enter Tryz.func27,Tryz.ntmps27
  by_cases hbig:60<s.passes.length
  ·have hw:Cn.wrongF s=(5,0):=by unfold Cn.wrongF;rw[if_neg HS0.out,if_pos hbig]
   rw[HO.out] at hw;cases hw;have hbi:(60:Int)<(s.passes.length:Int):=by omega
   go_wp2;refine bodyPost_ret (v:= .agg #[.int .i64 5,.int .i64 0]) (by simp[results,Tryz.results27,go_sem, *]) rfl ?_
   exact⟨rfl,(Cn.zdv w _ _).2.2⟩
  ·have hw:Cn.firstP 0 s.passes=(o1,o2):=by rw[<- HO.out];unfold Cn.wrongF;rw[if_neg HS0.out,if_neg hbig]
   have HF:Hid (Cn.firstP 0 s.passes=(o1,o2)):=hw;have hbi:¬(60:Int)<(s.passes.length:Int):=by omega
   clear hw;go_wp2
   go_loopw [24] (fun i wr=>∃k:Nat,k<=s.passes.length/\i= .int .i64 k/\Hid (Cn.firstP k (s.passes.drop k)=(o1,o2))/\Hid (Below w.heap.size w wr)/\Hid (wr.heap[w.heap.size+1]?=some (.cells #[.int .i64 0,.int .i64 0] 38))) (fun i _=>s.passes.length - (intOf i).toNat)
   case atStart=>exact⟨0,Nat.zero_le _,rfl,HF,HX.out.2.2,HX.out.2.1⟩
   case round =>
    obtain⟨k,hk,rfl,HE,HB,HY⟩:=hrel
    by_cases hlt:k<s.passes.length
    ·obtain⟨p,hp⟩:∃x,s.passes[k]?=some x:=⟨s.passes[k],by simp[hlt]⟩;obtain⟨ao',cap',e',_,hcs⟩:=HP.out.below HB.out;cases e';obtain⟨b,off,rfl,hcell⟩:=hcs (by intro h;rw[h] at hlt;simp at hlt);obtain⟨c0,hn,ro,rc,c1,hr⟩:=hcell k p hp;have HE2:Hid (Cn.firstP k (s.passes.drop k)=if Cn.passE p=0 then Cn.firstP (k+1) (s.passes.drop (k+1)) else (Cn.passE p,(k:Int))):=Cn.zfc hp;have hsz:=HB.out.size;have HW:Hid (∀o,Calls Tryz.prog 65 #[.agg #[.string p.name,.slice ro p.rules.length rc]] (wr.alloc o) fun e w'=>e= .returned (.int .i64 (Cn.passE p))/\Below (wr.alloc o).heap.size (wr.alloc o) w'):=fun o=>zc7 _ p ro rc (hr.below ((qR wr).alloc qN o))
     obtain⟨z,HZ⟩:∃z,Hid (Cn.passE p=z):=⟨_,rfl⟩;rw[HZ.out] at HW HE2;clear hp hcell hcs hr
     go_wp2_with fail
     refine(HW.out _).mono ?_;rintro e w1 ⟨rfl,b1⟩;obtain⟨_,B1,hl1⟩:=K.zbb b1;have hY1:w1.heap[w.heap.size+1]?=some (.cells #[.int .i64 0,.int .i64 0] 38):=K.zae HY.out B1;have HB1:Hid (Below w.heap.size w w1):=HB.out.trans (B1.mono hsz);have HY1:Hid (w1.heap[w.heap.size+1]?=some (.cells #[.int .i64 0,.int .i64 0] 38)):=hY1;obtain⟨x0,x1,f0,f1⟩:=K.box2 hY1;clear b1 B1 hY1
     by_cases hz:z=0
     ·subst hz;go_wp2
      go_roundw
      case rel=>exact⟨k+1,by omega,by go_num,by show _=_;rw[<- HE.out,HE2.out];simp,HB1,HY1⟩
      case measure=>simp[intOf];omega
     ·go_wp2;refine bodyPost_ret (v:= .agg #[.int .i64 z,.int .i64 k]) (by simp[results,Tryz.results27,go_sem, *]) rfl ?_
      have h:=HE2.out;rw[HE.out,if_neg hz] at h;cases h;exact⟨rfl,((HB1.out).setCell (p:=⟨w.heap.size+1,0,none⟩) (by simp) _).setCell (p:=⟨w.heap.size+1,1,none⟩) (by simp) _⟩
    ·obtain⟨x0,x1,f0,f1⟩:=K.box2 HY.out;have h:=HE.out;rw[List.drop_eq_nil_of_le (by omega)] at h;cases h;go_wp2;refine bodyPost_ret (v:= .agg #[.int .i64 0,.int .i64 0]) (by simp[results,Tryz.results27,go_sem, *]) rfl ?_;exact⟨rfl,((HB.out).setCell (p:=⟨w.heap.size+1,0,none⟩) (by simp) _).setCell (p:=⟨w.heap.size+1,1,none⟩) (by simp) _⟩
 | true =>
  rw[hh] at HX2;have hSw:=HSw.out _ HX2.out.2.2;obtain⟨z,HZ⟩:∃z,Hid (S.wrongE s.only=z):=⟨_,rfl⟩;rw[HZ.out] at hSw
  go_enter Tryz.func27,Tryz.ntmps27
  go_wp2_with fail
  refine hSw.mono ?_;rintro e w1 ⟨rfl,b1⟩;obtain⟨g1,g2,g3⟩:=HX2.out;have HX:Hid (w1.heap[w.heap.size]?=some (.cells #[.bool true,.slice oo s.only.length oc,.slice po s.passes.length pc] 27)/\w1.heap[w.heap.size+1]?=some (.cells #[.int .i64 0,.int .i64 0] 38)/\Below w.heap.size w w1):=⟨K.zae g1 b1,K.zae g2 b1,g3.trans (b1.mono g3.size)⟩;clear g1 g2 g3 b1 hSw HX2 HSw
  by_cases hz:z=0
  ·subst hz;have HS0:Hid (¬(s.has=true/\¬S.wrongE s.only=0)):=fun h=>h.2 HZ.out
   obtain⟨kb,kf,kB⟩:=HX.out;have kp:w1.cell? ⟨w.heap.size,2,none⟩=some (.slice po s.passes.length pc):=K.zah kb rfl;obtain⟨y0,y1,f0,f1⟩:=K.box2 kf;clear kb kf kB
   by_cases hbig:60<s.passes.length
   ·have hw:Cn.wrongF s=(5,0):=by unfold Cn.wrongF;rw[if_neg HS0.out,if_pos hbig]
    rw[HO.out] at hw;cases hw;have hbi:(60:Int)<(s.passes.length:Int):=by omega
    go_wp2;refine bodyPost_ret (v:= .agg #[.int .i64 5,.int .i64 0]) (by simp[results,Tryz.results27,go_sem, *]) rfl ?_
    exact⟨rfl,((HX.out.2.2).setCell (p:=⟨w.heap.size+1,0,none⟩) (by simp) _).setCell (p:=⟨w.heap.size+1,1,none⟩) (by simp) _⟩
   ·have hw:Cn.firstP 0 s.passes=(o1,o2):=by rw[<- HO.out];unfold Cn.wrongF;rw[if_neg HS0.out,if_neg hbig]
    have HF:Hid (Cn.firstP 0 s.passes=(o1,o2)):=hw;have hbi:¬(60:Int)<(s.passes.length:Int):=by omega
    clear hw y0 y1 f0 f1;go_wp2
    go_loopw [24] (fun i wr=>∃k:Nat,k<=s.passes.length/\i= .int .i64 k/\Hid (Cn.firstP k (s.passes.drop k)=(o1,o2))/\Hid (Below w.heap.size w wr)/\Hid (wr.heap[w.heap.size+1]?=some (.cells #[.int .i64 0,.int .i64 0] 38))) (fun i _=>s.passes.length - (intOf i).toNat)
    case atStart=>exact⟨0,Nat.zero_le _,rfl,HF,HX.out.2.2,HX.out.2.1⟩
    case round =>
     obtain⟨k,hk,rfl,HE,HB,HY⟩:=hrel
     by_cases hlt:k<s.passes.length
     ·obtain⟨p,hp⟩:∃x,s.passes[k]?=some x:=⟨s.passes[k],by simp[hlt]⟩;obtain⟨ao',cap',e',_,hcs⟩:=HP.out.below HB.out;cases e';obtain⟨b,off,rfl,hcell⟩:=hcs (by intro h;rw[h] at hlt;simp at hlt);obtain⟨c0,hn,ro,rc,c1,hr⟩:=hcell k p hp;have HE2:Hid (Cn.firstP k (s.passes.drop k)=if Cn.passE p=0 then Cn.firstP (k+1) (s.passes.drop (k+1)) else (Cn.passE p,(k:Int))):=Cn.zfc hp;have hsz:=HB.out.size;have HW:Hid (∀o,Calls Tryz.prog 65 #[.agg #[.string p.name,.slice ro p.rules.length rc]] (wr.alloc o) fun e w'=>e= .returned (.int .i64 (Cn.passE p))/\Below (wr.alloc o).heap.size (wr.alloc o) w'):=fun o=>zc7 _ p ro rc (hr.below ((qR wr).alloc qN o))
      obtain⟨z,HZ⟩:∃z,Hid (Cn.passE p=z):=⟨_,rfl⟩;rw[HZ.out] at HW HE2;clear hp hcell hcs hr
      go_wp2_with fail
      refine(HW.out _).mono ?_;rintro e w1 ⟨rfl,b1⟩;obtain⟨_,B1,hl1⟩:=K.zbb b1;have hY1:w1.heap[w.heap.size+1]?=some (.cells #[.int .i64 0,.int .i64 0] 38):=K.zae HY.out B1;have HB1:Hid (Below w.heap.size w w1):=HB.out.trans (B1.mono hsz);have HY1:Hid (w1.heap[w.heap.size+1]?=some (.cells #[.int .i64 0,.int .i64 0] 38)):=hY1;obtain⟨x0,x1,f0,f1⟩:=K.box2 hY1;clear b1 B1 hY1
      by_cases hz:z=0
      ·subst hz;go_wp2
       go_roundw
       case rel=>exact⟨k+1,by omega,by go_num,by show _=_;rw[<- HE.out,HE2.out];simp,HB1,HY1⟩
       case measure=>simp[intOf];omega
      ·go_wp2;refine bodyPost_ret (v:= .agg #[.int .i64 z,.int .i64 k]) (by simp[results,Tryz.results27,go_sem, *]) rfl ?_
       have h:=HE2.out;rw[HE.out,if_neg hz] at h;cases h;exact⟨rfl,((HB1.out).setCell (p:=⟨w.heap.size+1,0,none⟩) (by simp) _).setCell (p:=⟨w.heap.size+1,1,none⟩) (by simp) _⟩
     ·obtain⟨x0,x1,f0,f1⟩:=K.box2 HY.out;have h:=HE.out;rw[List.drop_eq_nil_of_le (by omega)] at h;cases h;go_wp2;refine bodyPost_ret (v:= .agg #[.int .i64 0,.int .i64 0]) (by simp[results,Tryz.results27,go_sem, *]) rfl ?_;exact⟨rfl,((HB.out).setCell (p:=⟨w.heap.size+1,0,none⟩) (by simp) _).setCell (p:=⟨w.heap.size+1,1,none⟩) (by simp) _⟩
  ·have hw:Cn.wrongF s=(z,0):=by unfold Cn.wrongF;rw[if_pos ⟨hh,by rw[HZ.out];exact hz⟩,HZ.out]
   rw[HO.out] at hw;cases hw;obtain⟨y0,y1,f0,f1⟩:=K.box2 HX.out.2.1;go_wp2;refine bodyPost_ret (v:= .agg #[.int .i64 o1,.int .i64 0]) (by simp[results,Tryz.results27,go_sem, *]) rfl ?_;exact⟨rfl,((HX.out.2.2).setCell (p:=⟨w.heap.size+1,0,none⟩) (by simp) _).setCell (p:=⟨w.heap.size+1,1,none⟩) (by simp) _⟩
end Go.Proofs.YtamfgmaipajodaaGreatDoor
namespace Go.Proofs.YtamfgmaipajodaaGreatDoor
open Go.RowKit Go.Lib
namespace Tp
noncomputable def scriptF (t:List Int):V.Script×Bool :=
 match R.read t with
 | .ok l _=>((V.forthF l).1,decide ((V.forthF l).2.1=0)&&decide ((Cn.wrongF (V.forthF l).1).1=0))
 | .bad _ _=>(⟨false,[],[]⟩,false)
end Tp
theorem V.Firm.mono {F F':Nat}{w:World}{v:Value}{s:V.Script}(h:V.Firm F w v s)(hF:F'<=F):V.Firm F' w v s:=fun W hs hb=>h W hs fun b h1 h2=>hb b (by omega) h2
end Go.Proofs.YtamfgmaipajodaaGreatDoor
namespace Go.Proofs.YtamfgmaipajodaaGreatDoor
open Go.RowKit Go.Lib Go.Shelf
def Cn.Idx (l:List Int) (P:Int->Bool) (i:Int):Prop :=
 (i= -1/\∀r∈l,P r=false)∨∃(j:Nat) (x:Int),i=(j:Int)/\l[j]?=some x/\P x=true/\∀r∈l.take j,P r=false
theorem zeu (w:World)(v:Value)(l:List Int)(R0:L.Rd w v .i32 l)(hl:l.length<=140737488355328)(g:Nat)(cb:Array Value)(P:Int->Bool)(eg:∀args w,(callFunc g args).run Tryz.prog w= .ok (.enter g args) w)
  (hh:∀W r,Below w.heap.size w W->r∈l->Calls Tryz.prog g (#[.int .i32 r]++cb) W fun e w'=>e= .returned (.bool (P r))/\Below W.heap.size W w') :
  Calls Tryz.prog 67 #[v,.func (.func g) #[] cb] w fun e w'=>∃i:Int,e= .returned (.int .i64 i)/\Cn.Idx l P i/\Below w.heap.size w w':=by
 have HH:Hid (∀W r,Below w.heap.size w W->r∈l->Calls Tryz.prog g (#[.int .i32 r]++cb) W fun e w'=>e= .returned (.bool (P r))/\Below W.heap.size W w'):=hh;obtain⟨lao,lcap,rfl,_,hcs⟩:=R0;have HC:Hid (l≠ []->∃b off,lao=some ⟨b,off,none⟩/\∀j z,l[j]?=some z->w.cell? ⟨b,off+j,none⟩=some (.int .i32 z)):=hcs;clear hh hcs
 go_enter Tryz.func67,Tryz.ntmps67
 go_wp2
 go_loopw [8] (fun i wr=>∃j:Nat,j<=l.length/\i= .int .i64 j/\Hid (∀r∈l.take j,P r=false)/\Hid (Below w.heap.size w wr)) (fun i _=>l.length - (intOf i).toNat)
 case atStart=>exact⟨0,Nat.zero_le _,rfl,fun r hr=>by simp at hr,qR w⟩
 case round =>
  obtain⟨j,hj,rfl,HW,HB⟩:=hrel
  by_cases hlt:j<l.length
  ·obtain⟨p,hp⟩:∃x,l[j]?=some x:=⟨l[j],by simp[hlt]⟩;obtain⟨b,off,rfl,hcell⟩:=HC.out (by intro h;subst h;simp at hlt);have c0:=hcell j p hp;rw[<- HB.out.cell (p:=⟨b,off+j,none⟩) (L.block_lt c0)] at c0;have hsz:=HB.out.size;have HW2:Hid (Calls Tryz.prog g (#[.int .i32 p]++cb) wr fun e w'=>e= .returned (.bool (P p))/\Below wr.heap.size wr w'):=HH.out wr p HB.out (List.mem_of_getElem? hp);have HP:Hid (l[j]?=some p):=hp;obtain⟨z,HZ⟩:∃z,Hid (P p=z):=⟨_,rfl⟩;rw[HZ.out] at HW2;clear hp hcell
   go_wp2_with fail
   refine HW2.out.mono ?_;rintro e w1 ⟨rfl,B1⟩;have HB1:Hid (Below w.heap.size w w1):=HB.out.trans (B1.mono hsz);clear B1;cases z with
   | false =>
    have HT:Hid (∀r∈l.take (j+1),P r=false):=fun r hr=>by
     rw[List.take_add_one,HP.out,List.mem_append] at hr;rcases hr with hr | hr
     ·exact HW.out r hr
     ·simp at hr;rw[hr];exact HZ.out
    go_wp2
    go_roundw
    case rel=>exact⟨j+1,by omega,by go_num,HT,HB1⟩
    case measure=>simp[intOf];omega
   | true =>
    go_wp2;go_ret
    exact⟨j,rfl,.inr ⟨j,p,rfl,HP.out,HZ.out,HW.out⟩,HB1.out⟩
  ·have hkl:j=l.length:=by omega
   subst hkl;go_wp2;go_ret;exact⟨-1,rfl,.inl ⟨rfl,fun r hr=>HW.out r (by rw[List.take_length];exact hr)⟩,HB.out⟩
end Go.Proofs.YtamfgmaipajodaaGreatDoor
namespace Go.Proofs.YtamfgmaipajodaaGreatDoor
open Go.RowKit
theorem Tryz.infoPass:(Tryz.prog.info? 142).map (fun i=>(i.zero,i.size,i.bytes))=some (some .nilFunc,1,8):=by kernel_rfl
namespace Cn
def FRow (w:World) (g:Nat) (cur:List Value):Prop:=w.heap[g]?=some (.cells cur.toArray 142 (0,0))
theorem FRow.cell {w:World}{g:Nat}{cur:List Value}(h:FRow w g cur)(j:Nat):w.cell? ⟨g,j,none⟩=cur[j]?:=by
 simp[World.cell?,show w.heap[g]?=_ from h]
theorem FRow.free {w:World}{g:Nat}{cur:List Value}(h:FRow w g cur)(j:Nat):w.frozen? ⟨g,j,none⟩=false:=frozen_of_row w g j _ _ h
theorem FRow.set {w:World}{g k:Nat}{cur:List Value}(h:FRow w g cur)(u:Value):FRow (w.setCell ⟨g,k,none⟩ u) g (cur.set k u):=by
 have:=heap_setCell_same w g k _ _ u h;unfold FRow;rw[this];simp
theorem zr5 (w:World)(n:Nat)(hn:n<=8000):∃W,(∀kl kc,(Instr.makeSlice 81 (.int kl (n:Int)) (.int kc (n:Int))).run Tryz.prog w= .ok (.slice (some ⟨w.heap.size,0,none⟩) n n) W)/\FRow W w.heap.size (List.replicate n .nilFunc)/\Below w.heap.size w W/\W.heap.size=w.heap.size+1:=by
 obtain⟨i0,hi,hz0,hz1,hz2⟩:=info_parts Tryz.infoPass;have hr:=fun kl kc=>run_make (P:=Tryz.prog) w 81 142 i0 .nilFunc Tryz.underlying81 hi hz0 kl kc n n (by omega) (Int.le_refl _) (by rw[hz2];omega) (by omega)
 simp only[Int.toNat_natCast] at hr;refine⟨_,hr,?_,(qR w).alloc qN _,by simp⟩;have h1:=Go.heap_alloc_new w (.cells (madeCells (Value.nilFunc).cells (n*i0.size)) 142);unfold FRow;rw[h1,hz1,Nat.mul_one]
 have e:madeCells (Value.nilFunc).cells n=(List.replicate n Value.nilFunc).toArray:=by
  have:=toList_madeCells_one Value.nilFunc n;rw[<- this];simp[Value.cells]
 rw[e]
def Fns (w0:World) (B:Nat) (w:World) (v:Value) (Fs:List (List Int->List Int×Int)):Prop :=
 ∃b cap,v= .slice (some ⟨b,0,none⟩) Fs.length cap/\∀(j:Nat) F,Fs[j]?=some F->∃u,w.cell? ⟨b,j,none⟩=some u/\Acts w0 B w u F
theorem Fns.below {w0 w w':World}{B:Nat}{v:Value}{Fs:List (List Int->List Int×Int)}(h:Fns w0 B w v Fs)(hb:Below w.heap.size w w'):Fns w0 B w' v Fs:=by
 obtain⟨b,cap,hv,hc⟩:=h;refine⟨b,cap,hv,fun j F hj=> ?_⟩;obtain⟨u,h1,h2⟩:=hc j F hj;exact⟨u,by rw[hb.cell (p:=⟨b,j,none⟩) (L.block_lt h1)];exact h1,h2.below hb⟩
def Mk (pl:Pl) (ps:List V.Pass) (w wr:World) (k:Nat) (cur:List Value):Prop :=
 FRow wr w.heap.size cur/\cur.length=ps.length/\Below w.heap.size w wr/\∀(j:Nat) p,j<k->ps[j]?=some p->∃u,cur[j]?=some u/\Acts w (w.heap.size+1) wr u (passF pl p)
theorem Mk.below {pl:Pl}{ps:List V.Pass}{w wr w':World}{k:Nat}{cur:List Value}(h:Mk pl ps w wr k cur)(hb:Below wr.heap.size wr w'):Mk pl ps w w' k cur:=by
 obtain⟨h1,h2,h3,h4⟩:=h;refine⟨K.zae h1 hb,h2,h3.trans (hb.mono h3.size),fun j p hj hp=> ?_⟩;obtain⟨u,g1,g2⟩:=h4 j p hj hp;exact⟨u,g1,g2.below hb⟩
theorem Mk.put {pl:Pl}{ps:List V.Pass}{w wr:World}{k:Nat}{cur:List Value}(h:Mk pl ps w wr k cur){p:V.Pass}(hp:ps[k]?=some p){u:Value}(hu:Acts w (w.heap.size+1) wr u (passF pl p)):Mk pl ps w (wr.setCell ⟨w.heap.size,k,none⟩ u) (k+1) (cur.set k u):=by
 obtain⟨h1,h2,h3,h4⟩:=h
 have hk:∀b o,w.heap.size+1<=b->wr.heap[b]?=some o->(wr.setCell ⟨w.heap.size,k,none⟩ u).heap[b]?=some o:=fun b o hb ho=>by
  rw[heap_setCell_other _ ⟨w.heap.size,k,none⟩ b _ (by simp;omega)];exact ho
 refine⟨h1.set u,by simpa using h2,h3.setCell (p:=⟨w.heap.size,k,none⟩) qN _,fun j q hj hq=> ?_⟩;have hlt:=(qL.1 hp).1
 by_cases e:j=k
 ·subst e;rw[hp] at hq;cases hq;exact⟨u,List.getElem?_set_self (by omega),hu.keep qN hk⟩
 ·obtain⟨u',g1,g2⟩:=h4 j q (by omega) hq;exact⟨u',by rw[List.getElem?_set_ne (fun h=>e h.symm)];exact g1,g2.keep qN hk⟩
end Cn
theorem zib (pl:Cn.Pl)(hpl:Cn.PlOk pl)(w:World)(v:Value)(ps:List V.Pass)(hP:V.Pas w v ps)(hl:ps.length<=60)(hE:∀p∈ps,Cn.passE p=0) :
  Calls Tryz.prog 31 #[v] w fun e w'=>∃v',e= .returned v'/\Cn.Fns w (w.heap.size+1) w' v' (ps.map (Cn.passF pl))/\Below w.heap.size w w':=by
 have HP:Hid (V.Pas w v ps/\(∀p∈ps,Cn.passE p=0)):=⟨hP,hE⟩;have HPl:Hid (Cn.PlOk pl):=hpl;obtain⟨ao,cap,rfl⟩:=hP.len;obtain⟨W,hmk,hrow,hB,hs⟩:=Cn.zr5 w ps.length (by omega);have HW:Hid (Cn.Mk pl ps w W 0 (List.replicate ps.length .nilFunc)):=⟨hrow,by simp,hB,fun j p hj=>by omega⟩;clear hP hE hpl hrow hB hs
 go_enter Tryz.func31,Tryz.ntmps31
 go_wp2
 go_loopw [11] (fun i wr=>∃(k:Nat) (cur:List Value),k<=ps.length/\i= .int .i64 k/\Hid (Cn.Mk pl ps w wr k cur)) (fun i _=>ps.length - (intOf i).toNat)
 case atStart=>exact⟨0,_,Nat.zero_le _,rfl,HW⟩
 case round =>
  obtain⟨k,cur,hk,rfl,HI⟩:=hrel
  by_cases hlt:k<ps.length
  ·obtain⟨p,hp⟩:∃x,ps[k]?=some x:=⟨ps[k],by simp[hlt]⟩;obtain⟨ao',cap',e',_,hcs⟩:=HP.out.1;cases e';obtain⟨b,off,rfl,hcell⟩:=hcs (by intro h;rw[h] at hlt;simp at hlt);obtain⟨c0,hn,ro,rc,c1,hr⟩:=hcell k p hp;rw[<- HI.out.2.2.1.cell (p:=⟨b,off+k*2,none⟩) (L.block_lt c0)] at c0;rw[<- HI.out.2.2.1.cell (p:=⟨b,off+k*2+1,none⟩) (L.block_lt c1)] at c1;have HC:Hid (∀o,Calls Tryz.prog 70 #[.agg #[.string p.name,.slice ro p.rules.length rc]] (wr.alloc o) fun e w'=>∃v,e= .returned v/\Cn.Acts w (wr.alloc o).heap.size w' v (Cn.passF pl p)/\Below (wr.alloc o).heap.size (wr.alloc o) w'):=fun o=>zos pl HPl.out w _ p ro rc hr (HP.out.2 p (List.mem_of_getElem? hp))
   have HQ:Hid (ps[k]?=some p):=hp;clear hcs hcell hr hp
   go_wp2_with fail
   refine(HC.out _).mono ?_;rintro e w1 ⟨u,rfl,hA,b1⟩;obtain⟨g,cb,bx,rfl,hA2⟩:=id hA;obtain⟨_,B1,hl1⟩:=K.zbb b1;have hM1:=HI.out.below B1;have hsz:w.heap.size<wr.heap.size:=lt_of_block HI.out.1;have HN:Hid (Cn.Mk pl ps w (w1.setCell ⟨w.heap.size,k,none⟩ (.func (.func g) #[] cb)) (k+1) (cur.set k (.func (.func g) #[] cb))):=hM1.put HQ.out (hA.keep (by simp;omega) fun _ _ _ h=>h);have hcl:k<cur.length:=by have:=HI.out.2.1;omega
   have k1:w1.cell? ⟨w.heap.size,k,none⟩=some (cur[k]):=by rw[hM1.1.cell k];simp[hcl]
   have fz:w1.frozen? ⟨w.heap.size,k,none⟩=false:=hM1.1.free k;clear hA hA2 b1 B1 hM1 HC;go_wp2
   go_roundw
   case rel=>exact⟨k+1,_,by omega,by go_num,HN⟩
   case measure=>simp[intOf];omega
  ·have hkl:k=ps.length:=by omega
   subst hkl;go_wp2;go_ret;obtain⟨h1,h2,h3,h4⟩:=HI.out;refine⟨_,rfl,⟨w.heap.size,_,by rw[List.length_map];rfl,fun j F hj=> ?_⟩,h3⟩;rw[List.getElem?_map] at hj;cases hp:ps[j]? with
   | none=>rw[hp] at hj;cases hj
   | some p =>
    rw[hp] at hj;cases hj;obtain⟨u,g1,g2⟩:=h4 j p (qL.1 hp).1 hp;exact⟨u,by rw[h1.cell j];exact g1,g2⟩
theorem zel (pl:Cn.Pl)(hpl:Cn.PlOk pl)(w0 w:World)(B:Nat)(v:Value)(ps:List V.Pass)(h0:Below w0.heap.size w0 w)(hF:Cn.Fns w0 B w v (ps.map (Cn.passF pl)))(hl:ps.length<=60)(vt:Value)(t:List Int)(Rt:L.Rd w vt .i32 t)(ht:Cn.Tx t) :
  Calls Tryz.prog 68 #[v,vt] w fun e w'=>∃v',e= .returned (.tuple #[v',.agg #[.int .i64 (Cn.thru pl 0 ps t).2.1,.int .i64 (Cn.thru pl 0 ps t).2.2]])/\L.Rd w' v' .i32 (Cn.thru pl 0 ps t).1/\Below w.heap.size w w':=by
 obtain⟨⟨o,o1,o2⟩,HO⟩:∃o,Hid (Cn.thru pl 0 ps t=o):=⟨_,rfl⟩;rw[HO.out];have HF:Hid (Cn.Fns w0 B w v (ps.map (Cn.passF pl))/\Below w0.heap.size w0 w):=⟨hF,h0⟩;have HPl:Hid (Cn.PlOk pl):=hpl;obtain⟨b,cap,rfl,hcs⟩:=hF;rw[List.length_map] at HF;rw[List.length_map];have HCs:Hid (∀(j:Nat) F,(ps.map (Cn.passF pl))[j]?=some F->∃u,w.cell? ⟨b,j,none⟩=some u/\Cn.Acts w0 B w u F):=hcs;obtain⟨xo,xc,rfl⟩:∃xo xc,vt= .slice xo t.length xc:=by obtain⟨a,c,h,_⟩:=Rt;exact⟨a,c,h⟩
 have HA:Hid (∀o,Below w.heap.size w (w.alloc o)):=fun o=>(qR w).alloc qN o
 have HT:Hid (L.Rd w (.slice xo t.length xc) .i32 t/\Cn.Tx t):=⟨Rt,ht⟩;clear Rt ht h0 hpl hcs
 go_enter Tryz.func68,Tryz.ntmps68
 go_wp2
 go_loopw [1,12] (fun i1 i wr=>∃(k:Nat) (x:List Int) (yo:Option Addr) (yc:Nat),k<=ps.length/\i= .int .i64 k/\i1= .slice yo x.length yc/\Hid (Cn.thru pl k (ps.drop k) x=(o,o1,o2))/\Hid (L.Rd wr (.slice yo x.length yc) .i32 x/\Cn.Tx x)/\Hid (Below w.heap.size w wr)/\Hid (wr.heap[w.heap.size]?=some (.cells #[.int .i64 0,.int .i64 0] 38))) (fun _ i _=>ps.length - (intOf i).toNat)
 case atStart=>exact⟨0,t,xo,xc,Nat.zero_le _,rfl,rfl,HO,⟨HT.out.1.below (HA.out _) qN,HT.out.2⟩,HA.out _,heap_alloc_new w _⟩
 case round =>
  obtain⟨k,x,yo,yc,hk,rfl,rfl,HE,HX,HB,HY⟩:=hrel;obtain⟨x0,x1,f0,f1⟩:=K.box2 HY.out
  by_cases hlt:k<ps.length
  ·obtain⟨p,hp⟩:∃x,ps[k]?=some x:=⟨ps[k],by simp[hlt]⟩;obtain⟨u,hu,hA⟩:=HCs.out k (Cn.passF pl p) (by rw[List.getElem?_map,hp];rfl);rw[<- HB.out.cell (p:=⟨b,k,none⟩) (L.block_lt hu)] at hu;obtain⟨g,cb,rfl,eg,hC⟩:=(hA.below HB.out).call (HF.out.2.trans (HB.out.mono HF.out.2.size));have hc:=hC _ x HX.out.1 HX.out.2;have HE2:Hid (Cn.thru pl k (ps.drop k) x=if (Cn.passF pl p x).2=0 then Cn.thru pl (k+1) (ps.drop (k+1)) (Cn.passF pl p x).1 else ([],(Cn.passF pl p x).2,(k:Int))):=Cn.zn8 hp;have HTx:Hid (Cn.Tx (Cn.passF pl p x).1):=Cn.zku HPl.out.2 HX.out.2;obtain⟨⟨q,z⟩,hq⟩:∃q,Cn.passF pl p x=q:=⟨_,rfl⟩;rw[hq] at hc HE2 HTx;simp only at hc HE2 HTx;have HCc:Hid (Calls Tryz.prog g (#[.slice yo x.length yc]++cb) wr fun e w'=>∃v',e= .returned (.tuple #[v',.int .i64 z])/\L.Rd w' v' .i32 q/\Below wr.heap.size wr w'):=hc;have hsz:=HB.out.size;clear hp hA hC hq hc
   go_wp2_with fail
   refine HCc.out.mono ?_;rintro e w1 ⟨v1,rfl,d1,b1⟩;obtain⟨va,vc,rfl⟩:∃va vc,v1= .slice va q.length vc:=by obtain⟨a,c,h,_⟩:=d1;exact⟨a,c,h⟩
   have HB1:Hid (Below w.heap.size w w1):=HB.out.trans (b1.mono hsz);have HY1:Hid (w1.heap[w.heap.size]?=some (.cells #[.int .i64 0,.int .i64 0] 38)):=K.zae HY.out b1;have HD1:Hid (L.Rd w1 (.slice va q.length vc) .i32 q/\Cn.Tx q):=⟨d1,HTx.out⟩;clear d1 b1 x0 x1 f0 f1 HCc hu;obtain⟨x0,x1,f0,f1⟩:=K.box2 HY1.out
   by_cases hz:z=0
   ·subst hz;go_wp2
    go_roundw
    case rel=>exact⟨k+1,q,va,vc,by omega,by go_num,rfl,by show _=_;rw[<- HE.out,HE2.out];simp,HD1,HB1,HY1⟩
    case measure=>simp[intOf];omega
   ·have h:=HE2.out;rw[HE.out,if_neg hz] at h;simp only[Prod.mk.injEq] at h;obtain⟨rfl,rfl,rfl⟩:=h;go_wp2;refine bodyPost_ret (v:= .tuple #[.slice none 0 0,.agg #[.int .i64 o1,.int .i64 k]]) (by simp[results,Tryz.results68,go_sem, *]) rfl ?_;exact⟨_,rfl,⟨none,0,rfl,fun _=>rfl,fun h=>absurd rfl h⟩,(HB1.out.setCell (p:=⟨w.heap.size,0,none⟩) qN _).setCell (p:=⟨w.heap.size,1,none⟩) qN _⟩
  ·have h:=HE.out;rw[List.drop_eq_nil_of_le (by omega)] at h;simp only[Cn.thru,Prod.mk.injEq] at h;obtain⟨rfl,rfl,rfl⟩:=h;go_wp2;refine bodyPost_ret (v:= .tuple #[.slice yo x.length yc,.agg #[.int .i64 0,.int .i64 0]]) (by simp[results,Tryz.results68,go_sem, *]) rfl ?_;refine⟨_,rfl,K.zbi HX.out.1 fun hz q hq=> ?_,(HB.out.setCell (p:=⟨w.heap.size,0,none⟩) qN _).setCell (p:=⟨w.heap.size,1,none⟩) qN _⟩;have hne:=K.zrp HX.out.1 HY.out hz q hq;rw[heap_setCell_other _ ⟨w.heap.size,1,none⟩ q _ (by simpa using hne),heap_setCell_other _ ⟨w.heap.size,0,none⟩ q _ (by simpa using hne)]
end Go.Proofs.YtamfgmaipajodaaGreatDoor
