/-
 What runes.Encode answers of any slice of at most 2^40 runes: the text of them, where all are right.
-/
import Derived.Test.YtgbhkkojkpndmaaGreatDoorTRight
import Derived.Test.YtgbhkkojkpndmaaGreatDoorTMath
import Derived.Test.YtgbhkkojkpndmaaGreatDoorWRows
import Derived.Test.YtgbhkkojkpndmaaGreatDoorShScript
import Derived.Test.YtgbhkkojkpndmaaGreatDoorRPos
import Derived.Test.YtgbhkkojkpndmaaGreatDoorCnWrong
import Derived.Deep.DeepCutAuto
import Derived.Deep.RegionHeld3
import Derived.Laws.Cover4
import Derived.Deep.QuietTactic
import Derived.BigQuiet
set_option maxHeartbeats 0
set_option maxRecDepth 20000
set_option linter.unusedSimpArgs false
set_option linter.unusedVariables false
namespace Go.Proofs.YtgbhkkojkpndmaaGreatDoor
open Go.RowKit
theorem zl5 (w:World)(v:Value)(zs:List Int)(R:L.Rd w v .i32 zs)(hl:zs.length<=1099511627776)(hall:∀z∈zs,M.right z=true) :
  Calls Tryz.prog 27 #[v] w fun e w'=>e= .returned (.tuple #[.string (runesBytes zs),.int .i64 0])/\w'=w:=by
 obtain⟨ao,cap,rfl,hn,hc⟩:=R;have hcv:=zgd (P:=Tryz.prog) (w:=w) 34 9 21 Tryz.underlying34 Tryz.underlying21 Tryz.underlying9 hn hc
 go_enter Tryz.func27,Tryz.ntmps27
 go_wp2
 go_loop [8] (fun i=>∃k:Nat,k<=zs.length/\i= .int .i64 k) (fun i=>zs.length - (intOf i).toNat)
 case atStart=>exact⟨0,Nat.zero_le _,rfl⟩
 case round =>
  obtain⟨k,hk,rfl⟩:=hrel
  by_cases hlt:k<zs.length
  ·obtain⟨b,off,rfl,hcell⟩:=hc (by intro h;subst h;simp at hlt);obtain⟨x,hx⟩:∃x,zs[k]?=some x:=⟨zs[k],by simp[hlt]⟩;have c1:=hcell k x hx;have HR:Hid (M.right x=true):=hall x (List.mem_of_getElem? hx);clear hcv hcell hx hc
   go_wp2_with (go_at_call 37;go_must (refine(zdi _ _).mono ?_;rintro e w' ⟨rfl,rfl⟩;rw[HR.out]))
   go_round
   case rel=>exact⟨k+1,by omega,by go_num⟩
   case measure=>simp[intOf];omega
  ·go_wp2
   go_ret2
   exact⟨rfl,rfl⟩
end Go.Proofs.YtgbhkkojkpndmaaGreatDoor
namespace Go.Proofs.YtgbhkkojkpndmaaGreatDoor
open Go.RowKit Go.Lib
namespace Tp
abbrev At (W X:World) (sb:Nat) (v0 v1 v2:Value):Prop :=
 Below W.heap.size W X/\X.cell? ⟨sb,0,none⟩=some v0/\X.cell? ⟨sb,1,none⟩=some v1/\X.cell? ⟨sb,2,none⟩=some v2
theorem At.below {W X Y:World}{sb:Nat}{v0 v1 v2:Value}(h:At W X sb v0 v1 v2)(hb:Below X.heap.size X Y):At W Y sb v0 v1 v2:=by
 obtain⟨h0,h1,h2,h3⟩:=h;exact⟨h0.trans (hb.mono h0.size),(hb.cell (p:=⟨sb,0,none⟩) (L.block_lt h1)).trans h1,(hb.cell (p:=⟨sb,1,none⟩) (L.block_lt h2)).trans h2,(hb.cell (p:=⟨sb,2,none⟩) (L.block_lt h3)).trans h3⟩
theorem At.alloc {W X:World}{sb:Nat}{v0 v1 v2:Value}(h:At W X sb v0 v1 v2)(o:Obj):At W (X.alloc o) sb v0 v1 v2:=h.below ((qR X).alloc qN o)
theorem At.drew {W X:World}{sb:Nat}{v0 v1 v2:Value}(h:At W X sb v0 v1 v2):At W X.drew sb v0 v1 v2:=h.below (qR X).drew
theorem At.set2 {W X:World}{sb fb:Nat}{v0 v1 v2:Value}(h:At W X sb v0 v1 v2)(hs:sb<W.heap.size)(hb:W.heap.size<=fb)(a b:Value):At W ((X.setCell ⟨fb,0,none⟩ a).setCell ⟨fb,1,none⟩ b) sb v0 v1 v2:=by
 obtain⟨h0,h1,h2,h3⟩:=h
 have c:∀i,((X.setCell ⟨fb,0,none⟩ a).setCell ⟨fb,1,none⟩ b).cell? ⟨sb,i,none⟩=X.cell? ⟨sb,i,none⟩:=fun i=>World.cell?_of_block (a:=⟨sb,i,none⟩) (by
  rw[heap_setCell_other _ ⟨fb,1,none⟩ sb _ (by simp;omega),heap_setCell_other _ ⟨fb,0,none⟩ sb _ (by simp;omega)])
 exact⟨(h0.setCell (p:=⟨fb,0,none⟩) hb _).setCell (p:=⟨fb,1,none⟩) hb _,by rw[c];exact h1,by rw[c];exact h2,by rw[c];exact h3⟩
theorem three (w:World)(o1 o2 o3:Obj):(((w.alloc o1).alloc o2).alloc o3).heap[w.heap.size]?=some o1/\(((w.alloc o1).alloc o2).alloc o3).heap[w.heap.size+1]?=some o2/\(((w.alloc o1).alloc o2).alloc o3).heap[w.heap.size+1+1]?=some o3/\Below w.heap.size w (((w.alloc o1).alloc o2).alloc o3):=by
 have k:=K.zbr (w:=w) (o1:=o1) (o2:=o2) (qR _);have e:=heap_alloc_new ((w.alloc o1).alloc o2) o3;have hs:((w.alloc o1).alloc o2).heap.size=w.heap.size+1+1:=by simp
 rw[hs] at e;exact⟨K.zae k.1 (Cn.al _ _),K.zae k.2.1 (Cn.al _ _),e,k.2.2.1.trans ((Cn.al _ _).mono k.2.2.1.size)⟩
def Got (W wx:World) (v8 v9:Value) (q:List Int×Int×Int):Prop :=
 ∃fb,v9= .pointer (some ⟨fb,0,none⟩)/\W.heap.size<=fb/\wx.heap[fb]?=some (.cells #[.int .i64 q.2.1,.int .i64 q.2.2] 48)/\L.Rd wx v8 .i32 q.1/\Below W.heap.size W wx
theorem zi9 {W X:World}{sb:Nat}{v0 v1 v2 v8:Value}{q:List Int}{r1 r2:Int}(h:At W X sb v0 v1 v2)(hr:L.Rd X v8 .i32 q):Got W (X.alloc (.cells #[.int .i64 r1,.int .i64 r2] 48)) v8 (.pointer (some ⟨X.heap.size,0,none⟩)) (q,r1,r2) :=
 ⟨_,rfl,h.1.size,heap_alloc_new X _,hr.below (Cn.al _ _) qN,(h.alloc _).1⟩
theorem zi8 {W X:World}{sb fb:Nat}{v0 v1 v2 v8:Value}{q:List Int}{r1 r2:Int}(h:At W X sb v0 v1 v2)(hs:sb<W.heap.size)(hr:L.Rd X v8 .i32 q)(hb:X.heap[fb]?=some (.cells #[.int .i64 0,.int .i64 0] 48))(hfb:W.heap.size<=fb):Got W ((X.setCell ⟨fb,0,none⟩ (.int .i64 r1)).setCell ⟨fb,1,none⟩ (.int .i64 r2)) v8 (.pointer (some ⟨fb,0,none⟩)) (q,r1,r2):=by
 have hb1:=heap_setCell_same X fb 0 _ _ (.int .i64 r1) hb;have hb2:=heap_setCell_same _ fb 1 _ _ (.int .i64 r2) hb1;refine⟨fb,rfl,hfb,hb2,K.za8 hr fun hz k hk=> ?_,(h.set2 hs hfb _ _).1⟩;have hne:=K.zpt hr hb hz k hk;rw[heap_setCell_other _ ⟨fb,1,none⟩ k _ hne,heap_setCell_other _ ⟨fb,0,none⟩ k _ hne]
theorem decode (s:ByteArray)(hs:s.size<=1099511627776)(X:World):Calls Tryz.prog 26 #[.string s] X fun e w'=>∃xo xc,e= .returned (.slice xo (M.rn s).length xc)/\L.Rd w' (.slice xo (M.rn s).length xc) .i32 (M.rn s)/\(M.rn s).length<=xc/\Below X.heap.size X w' :=
 (zgc s X hs).mono fun e w' ⟨v,h1,own,hb⟩=>by
  subst h1;rcases own.2 with ⟨hv,h0⟩|⟨g,cap,cur,hv,_,_,hc,_⟩
  ·refine⟨none,0,by rw[hv,h0],?_,by omega,hb⟩;have:=L.Rd.za3 own;rw[hv] at this;rw[h0];exact this
  ·refine⟨_,cap,by rw[hv],?_,hc,hb⟩;have:=L.Rd.za3 own;rw[hv] at this;exact this
theorem zsu {pl:Cn.Pl}(h:Cn.PlOk pl)(s:V.Script)(t:List Int):(Cn.goF pl s t).1.length<=16000000:=by
 unfold Cn.goF;split
 ·split
  ·split
   ·split
    ·simp
    ·show (Cn.runP pl s.passes (Cn.cut (Cn.inS s) t) []).1.length<=_;omega
   ·simp
  ·simp
 ·simp
end Tp
end Go.Proofs.YtgbhkkojkpndmaaGreatDoor
namespace Go.Proofs.YtgbhkkojkpndmaaGreatDoor
open Go.RowKit Go.Lib
def Sh.Scr (name:ByteArray) (sc:V.Script):Prop:=∃t l q,Sh.textF name=(t,0)/\t.size<=1099511627776/\R.read (M.rn t)= .ok l q/\V.forthF l=(sc,0,0)
theorem zhc (hK:T.ClassOk)(name:ByteArray)(sc:V.Script)(h0:Sh.Scr name sc)(s:ByteArray)(hs:s.size<=1099511627776)(pl:Cn.Pl)(hpl:Cn.PlOk pl)(out:List Int)(hgo:Cn.goF pl sc (M.rn s)=(out,0,0))(hall:∀z∈out,M.right z=true)(w:World) :
  Calls Tryz.prog 20 #[.string name,.bool false,.string s] w fun e w'=>e= .returned (.tuple #[.string (runesBytes out),.int .i64 0])/\Below w.heap.size w w':=by
 obtain⟨t,l,q,ht,hsz,hr,hf⟩:=h0;have HS:Hid (Calls Tryz.prog 24 #[.string name,.bool false] w fun e w'=>∃v',e= .returned (.tuple #[v',.int .i64 0])/\V.ScIs w' v' sc/\Below w.heap.size w w'):=zfl hK name t l q sc ht hsz hr hf w;have hfit:S.Fit sc.only:=by have h:=Tp.zoh l;rw[hf] at h;exact h
 have hol:out.length<=16000000:=by have h:=Tp.zsu hpl sc (M.rn s);rw[hgo] at h;exact h
 have hnl:(M.rn s).length<=1099511627776:=Nat.le_trans (M.zb3 s) hs;have HEn:Hid (∀X v,L.Rd X v .i32 out->Calls Tryz.prog 27 #[v] X fun e w'=>e= .returned (.tuple #[.string (runesBytes out),.int .i64 0])/\w'=X):=fun X v hv=>zl5 X v out hv (by omega) hall
 have HDe:Hid (∀X,Calls Tryz.prog 26 #[.string s] X fun e w'=>∃xo xc,e= .returned (.slice xo (M.rn s).length xc)/\L.Rd w' (.slice xo (M.rn s).length xc) .i32 (M.rn s)/\(M.rn s).length<=xc/\Below X.heap.size X w'):=fun X=>Tp.decode s hs X
 have HG0:Hid (∀X v xo xc,V.ScIs X v sc->L.Rd X (.slice xo (M.rn s).length xc) .i32 (M.rn s)->(M.rn s).length<=xc->Calls Tryz.prog 25 #[v,.slice xo (M.rn s).length xc] X fun e w'=>∃v',e= .returned (.tuple #[v',.agg #[.int .i64 0,.int .i64 0]])/\L.Rd w' v' .i32 out/\Below X.heap.size X w'):=fun X v xo xc hv hd hc=>by
  have h:=zsd pl hpl X v sc hv hfit xo xc (M.rn s) hd hc (by omega);rw[hgo] at h;exact h
 clear ht hsz hr hf hgo hall hfit hnl;generalize M.rn s=tx at HDe HG0
 go_enter Tryz.func20,Tryz.ntmps20
 go_wp2_with fail
 refine HS.out.mono ?_;clear HS;rintro e w1 ⟨v1,rfl,hSc,b1⟩;obtain⟨oo,oc,po,pc,hv1,_⟩:=id hSc;subst hv1;obtain⟨Z,hZ⟩:∃Z,Z=w1.alloc (.cells #[.bool sc.has,.slice oo sc.only.length oc,.slice po sc.passes.length pc] 44):=⟨_,rfl⟩;have k4:=K.za2 (w:=w1) (qR (w1.alloc (.cells #[.bool sc.has,.slice oo sc.only.length oc,.slice po sc.passes.length pc] 44)));rw[<- hZ] at k4;have HZ:Hid (Below w.heap.size w Z):=b1.trans (k4.2.1.mono b1.size);have HAtz:Hid (Tp.At Z Z w1.heap.size (.bool sc.has) (.slice oo sc.only.length oc) (.slice po sc.passes.length pc)):=⟨qR _,K.zah (i:=0) k4.1 rfl,K.zah (i:=1) k4.1 rfl,K.zah (i:=2) k4.1 rfl⟩;have hsb:w1.heap.size<Z.heap.size:=lt_of_block k4.1;have HScZ:Hid (V.ScIs Z (.agg #[.bool sc.has,.slice oo sc.only.length oc,.slice po sc.passes.length pc]) sc):=hSc.below k4.2.1;have HGo:Hid (∀X xo xc,Tp.At Z X w1.heap.size (.bool sc.has) (.slice oo sc.only.length oc) (.slice po sc.passes.length pc)->L.Rd X (.slice xo tx.length xc) .i32 tx->tx.length<=xc->Calls Tryz.prog 25 #[.agg #[.bool sc.has,.slice oo sc.only.length oc,.slice po sc.passes.length pc],.slice xo tx.length xc] X fun e w'=>∃v',e= .returned (.tuple #[v',.agg #[.int .i64 0,.int .i64 0]])/\L.Rd w' v' .i32 out/\Below X.heap.size X w'):=fun X xo xc hX hd hc=>HG0.out X _ xo xc (HScZ.out.below hX.1) hd hc
 clear k4 hSc b1 HG0
 go_upto_region 4 with fail
 rw[<- hZ];clear hZ;have HKz:Hid (Tp.At Z Z.drew (w1.heap.size) (.bool sc.has) (.slice oo sc.only.length oc) (.slice po sc.passes.length pc)):=HAtz.out.drew;have HKDz:Hid (∀o,Tp.At Z (Z.alloc o).drew (w1.heap.size) (.bool sc.has) (.slice oo sc.only.length oc) (.slice po sc.passes.length pc)):=fun o=>(HAtz.out.alloc o).drew
 go_cut [10,11] (fun va vf wx=>Hid (Tp.Got Z wx va vf (out,0,0)))
 case first =>
  go_region_held3 (fun w'=>Below Z.heap.size Z w'/\w'.cell? ⟨w1.heap.size,0,none⟩=some (.bool sc.has)/\w'.cell? ⟨w1.heap.size,1,none⟩=some (.slice oo sc.only.length oc)/\w'.cell? ⟨w1.heap.size,2,none⟩=some (.slice po sc.passes.length pc))
   (first | with_reducible exact HKz.out | with_reducible exact k2 | with_reducible exact k1 | with_reducible exact k2.alloc _ | with_reducible exact k1.alloc _ | with_reducible exact HKz.out.alloc _ | with_reducible exact HKDz.out _ | with_reducible exact Tp.At.set2 k2 hsb k1.1.size _ _ | with_reducible exact Tp.At.set2 k2 hsb qN _ _ | fail)
   (first
    | (have hy:=k1;clear hy;go_at_call 25;refine(HGo.out _ _ _ (by first | with_reducible exact k1 | with_reducible exact k1.alloc _) (by first | with_reducible exact d1 | with_reducible exact d1.below (Cn.al _ _) qN) hc1).mono ?_;rintro e wd2 ⟨vd2,rfl,d2,z2⟩;have k2:Tp.At Z wd2 (w1.heap.size) (.bool sc.has) (.slice oo sc.only.length oc) (.slice po sc.passes.length pc):=(by first | with_reducible exact k1.below z2 | with_reducible exact(k1.alloc _).below z2);first | (have r2:=K.zae r1 z2;obtain⟨y0,y1,ff0,ff1⟩:=V.box2 r2) | (have r2:=Cn.rb z2;obtain⟨y0,y1,ff0,ff1⟩:=V.box2 r2) | skip)
    | ((fail_if_success (have hy:=k1));go_at_call 26;refine(HDe.out _).mono ?_;rintro e wd1 ⟨xo1,xc1,rfl,d1,hc1,z1⟩;have k1:Tp.At Z wd1 (w1.heap.size) (.bool sc.has) (.slice oo sc.only.length oc) (.slice po sc.passes.length pc):=(by first | with_reducible exact HKz.out.below z1 | with_reducible exact(HKz.out.alloc _).below z1 | with_reducible exact(HKDz.out _).below z1);first | (have r1:=Cn.rbD z1) | skip)
    | fail)
  all_goals
   first
    | (have HM:=Tp.zi8 (r1:=0) (r2:=0) k2 hsb d2 r2 (by first | with_reducible exact k1.1.size | with_reducible exact qN))
    | (have HM:=Tp.zi9 (r1:=0) (r2:=0) k2 d2)
   clear k2 k1 d2 d1 z2 z1
   go_wp2_with fail
   go_meet
   case rel=>exact HM
 case rest =>
  obtain⟨fb,rfl,hfb,hbox,hrd,hbl⟩:=hcut.out;obtain⟨va,vc,rfl⟩:∃va vc,_=Value.slice va out.length vc:=by obtain⟨a,c,h,_⟩:=hrd;exact⟨a,c,h⟩
  have p3:=K.zah (i:=0) hbox rfl;have HE:Hid (Below w.heap.size w wc):=HZ.out.trans (hbl.mono HZ.out.size);have hEn:=HEn.out wc _ hrd;clear hcut hbox hrd hbl HGo HDe HKz HKDz HAtz HZ HScZ HEn
  go_wp2_with fail
  refine hEn.mono ?_;clear hEn;rintro e w' ⟨rfl,rfl⟩;go_wp2;refine bodyPost_ret (v:= .tuple #[.string (runesBytes out),.int .i64 0]) (by simp[results,Tryz.results20,go_sem, *]) rfl ?_;exact⟨rfl,HE.out⟩
end Go.Proofs.YtgbhkkojkpndmaaGreatDoor
namespace Go.Proofs.YtgbhkkojkpndmaaGreatDoor
open Go.RowKit
theorem zcl (r:Int)(w:World) :
  Calls Tryz.prog 38 #[.int .i32 r] w fun e w'=>e= .returned (.bool (M.right r))/\w'=w:=by
 go_enter Tryz.func38,Tryz.ntmps38
 go_wp2
 all_goals go_ret
 all_goals refine⟨L.zak ?_,rfl⟩
 all_goals (unfold M.right;rw[Bool.eq_iff_iff];simp;try omega)
theorem zg3:∀c:Nat,c<256->bits .and .i64 (c:Int) 224=32*((c:Int) / 32):=by decide +kernel
theorem zju:∀c:Nat,c<256->bits .and .i64 (c:Int) 240=16*((c:Int) / 16):=by decide +kernel
theorem zo0:∀c:Nat,c<256->bits .and .i64 (c:Int) 248=8*((c:Int) / 8):=by decide +kernel
def oneR (n c b1 b2 b3:Nat):Nat×Nat:=if M.bad (Lib.decodeN n c b1 b2 b3) then (0,0) else Lib.decodeN n c b1 b2 b3
theorem ze3 {n c b1 b2 b3:Nat}{x y:Int}(h:x=((oneR n c b1 b2 b3).1:Int)/\y=((oneR n c b1 b2 b3).2:Int)) :
  Ending.returned (.tuple #[.int .i32 x,.int .i64 y])= .returned (.tuple #[.int .i32 ((oneR n c b1 b2 b3).1:Int),.int .i64 ((oneR n c b1 b2 b3).2:Int)]):=by rw[h.1,h.2]
theorem zn0 {n c b1 b2 b3:Nat}(h:¬c<128)(h1:¬(c / 32=6/\1<n))(h2:¬(c / 16=14/\2<n))(h3:¬(c / 8=30/\3<n)):oneR n c b1 b2 b3=(0,0):=by
 have e:Lib.decodeN n c b1 b2 b3=(65533,1):=by
  unfold Lib.decodeN;rw[if_neg h,if_neg (by omega),if_neg (by omega),if_neg (by omega)]
 unfold oneR;rw[e];rfl
set_option maxRecDepth 100000 in
theorem zp2 (s:ByteArray)(i b1 b2 b3:Nat)(w:World)(hi:i<s.size)(hs:s.size<=1099511627776)(hc:¬((s[i]'hi).toNat:Int)<128)
  (h1:¬(((s[i]'hi).toNat:Int) / 32=6/\i+1<s.size)) (h2:¬(((s[i]'hi).toNat:Int) / 16=14/\i+2<s.size)) (h3:¬(((s[i]'hi).toNat:Int) / 8=30/\i+3<s.size)) :
  Calls Tryz.prog 28 #[.string s,.int .i64 i] w fun e w'=>e= .returned (.tuple #[.int .i32 ((oneR (s.size - i) (s[i]'hi).toNat b1 b2 b3).1:Int),.int .i64 ((oneR (s.size - i) (s[i]'hi).toNat b1 b2 b3).2:Int)])/\Below w.heap.size w w':=by
 have HR:Hid (oneR (s.size - i) (s[i]'hi).toNat b1 b2 b3=(0,0)):=zn0 (by omega) (by omega) (by omega) (by omega);have hlt:(s[i]'hi).toNat<256:=(s[i]'hi).toNat_lt;have a1:=zg3 _ hlt;have a2:=zju _ hlt;have a3:=zo0 _ hlt
 go_enter Tryz.func28,Tryz.ntmps28
 go_wp2;refine wp_loop_rounds 4 ?_
 repeat any_goals (rw[rounds_succ];go_wp2)
 all_goals go_ret2
 all_goals refine⟨ze3 (by rw[HR.out];exact⟨rfl,rfl⟩),?_⟩
 all_goals repeat (first | exact qR _ | refine Below.alloc ?_ (by simp <;> omega) _)
set_option maxRecDepth 100000 in
theorem znz (s:ByteArray)(i b1 b2 b3:Nat)(w:World)(hi:i<s.size)(hc:((s[i]'hi).toNat:Int)<128) :
  Calls Tryz.prog 28 #[.string s,.int .i64 i] w fun e w'=>e= .returned (.tuple #[.int .i32 ((oneR (s.size - i) (s[i]'hi).toNat b1 b2 b3).1:Int),.int .i64 ((oneR (s.size - i) (s[i]'hi).toNat b1 b2 b3).2:Int)])/\Below w.heap.size w w':=by
 have HR:Hid (oneR (s.size - i) (s[i]'hi).toNat b1 b2 b3=((s[i]'hi).toNat,1)):=by
  have e:Lib.decodeN (s.size - i) (s[i]'hi).toNat b1 b2 b3=((s[i]'hi).toNat,1):=by unfold Lib.decodeN;rw[if_pos (by omega)]
  show _=_;unfold oneR;rw[e,if_neg];unfold M.bad;have:¬(s[i]'hi).toNat=65533:=by omega
  simp[this]
 go_enter Tryz.func28,Tryz.ntmps28
 go_wp2
 go_ret2
 exact⟨ze3 (by rw[HR.out];exact⟨rfl,rfl⟩),qR _⟩
theorem zgw {n c b1 b2 b3:Nat}(h:Lib.decodeN n c b1 b2 b3=(65533,1)):oneR n c b1 b2 b3=(0,0):=by unfold oneR;rw[h];rfl
theorem ze4 {n c b1 b2 b3 x k:Nat}(h:Lib.decodeN n c b1 b2 b3=(x,k))(hk:2<=k):oneR n c b1 b2 b3=(x,k):=by
 unfold oneR;rw[h,if_neg];unfold M.bad;have:¬k=1:=by omega
 simp[this]
theorem zj9 {n c b1 b2 b3:Nat}(hc:c / 32=6)(hn:1<n):oneR n c b1 b2 b3=if b1 / 64=2/\128<=(c - 192)*64+b1 % 64 then ((c - 192)*64+b1 % 64,2) else (0,0):=by
 have e1:c % 32*64+b1 % 64=(c - 192)*64+b1 % 64:=by omega
 by_cases h1:b1 / 64=2/\128<=(c - 192)*64+b1 % 64
 ·rw[if_pos h1];refine ze4 ?_ (by omega);unfold Lib.decodeN;rw[if_neg (by omega),if_pos ⟨hc,hn,h1.1⟩,e1,if_pos h1.2]
 ·rw[if_neg h1];refine zgw ?_;unfold Lib.decodeN;rw[if_neg (by omega)]
  by_cases h2:b1 / 64=2
  ·rw[if_pos ⟨hc,hn,h2⟩,e1,if_neg (by omega)]
  ·rw[if_neg (by omega),if_neg (by omega),if_neg (by omega)]
theorem zfy {n c b1 b2 b3:Nat}(hc:c / 16=14)(hn:2<n) :
  oneR n c b1 b2 b3=if b1 / 64=2/\b2 / 64=2/\2048<=((c - 224)*64+b1 % 64)*64+b2 % 64/\(((c - 224)*64+b1 % 64)*64+b2 % 64<=1114111/\(((c - 224)*64+b1 % 64)*64+b2 % 64<55296∨57343<((c - 224)*64+b1 % 64)*64+b2 % 64)) then (((c - 224)*64+b1 % 64)*64+b2 % 64,3) else (0,0):=by
 have e1:c % 16*4096+b1 % 64*64+b2 % 64=((c - 224)*64+b1 % 64)*64+b2 % 64:=by omega
 have hd:Lib.decodeN n c b1 b2 b3=if b1 / 64=2/\b2 / 64=2/\2048<=((c - 224)*64+b1 % 64)*64+b2 % 64/\(((c - 224)*64+b1 % 64)*64+b2 % 64<=1114111/\(((c - 224)*64+b1 % 64)*64+b2 % 64<55296∨57343<((c - 224)*64+b1 % 64)*64+b2 % 64)) then (((c - 224)*64+b1 % 64)*64+b2 % 64,3) else (65533,1):=by
  unfold Lib.decodeN;rw[if_neg (by omega),if_neg (by omega),e1];generalize ((c - 224)*64+b1 % 64)*64+b2 % 64=x
  by_cases h2:b1 / 64=2/\b2 / 64=2
  ·rw[if_pos (by omega)]
   by_cases h3:2048<=x/\(x<=1114111/\(x<55296∨57343<x))
   ·rw[if_pos (by omega),if_pos (by omega)]
   ·rw[if_neg (by omega),if_neg (by omega)]
  ·rw[if_neg (by omega),if_neg (by omega),if_neg (by omega)]
 split
 ·rename_i h1
  rw[if_pos h1] at hd;exact ze4 hd (by omega)
 ·rename_i h1
  rw[if_neg h1] at hd;exact zgw hd
theorem zhk {n c b1 b2 b3:Nat}(hc:c / 8=30)(hn:3<n) :
  oneR n c b1 b2 b3=if b1 / 64=2/\b2 / 64=2/\b3 / 64=2/\65536<=(((c - 240)*64+b1 % 64)*64+b2 % 64)*64+b3 % 64/\((((c - 240)*64+b1 % 64)*64+b2 % 64)*64+b3 % 64<=1114111/\((((c - 240)*64+b1 % 64)*64+b2 % 64)*64+b3 % 64<55296∨57343<(((c - 240)*64+b1 % 64)*64+b2 % 64)*64+b3 % 64)) then ((((c - 240)*64+b1 % 64)*64+b2 % 64)*64+b3 % 64,4) else (0,0):=by
 have e1:c % 8*262144+b1 % 64*4096+b2 % 64*64+b3 % 64=(((c - 240)*64+b1 % 64)*64+b2 % 64)*64+b3 % 64:=by omega
 have hd:Lib.decodeN n c b1 b2 b3=if b1 / 64=2/\b2 / 64=2/\b3 / 64=2/\65536<=(((c - 240)*64+b1 % 64)*64+b2 % 64)*64+b3 % 64/\((((c - 240)*64+b1 % 64)*64+b2 % 64)*64+b3 % 64<=1114111/\((((c - 240)*64+b1 % 64)*64+b2 % 64)*64+b3 % 64<55296∨57343<(((c - 240)*64+b1 % 64)*64+b2 % 64)*64+b3 % 64)) then ((((c - 240)*64+b1 % 64)*64+b2 % 64)*64+b3 % 64,4) else (65533,1):=by
  unfold Lib.decodeN;rw[if_neg (by omega),if_neg (by omega),if_neg (by omega),e1];generalize (((c - 240)*64+b1 % 64)*64+b2 % 64)*64+b3 % 64=x
  by_cases h2:b1 / 64=2/\b2 / 64=2/\b3 / 64=2
  ·rw[if_pos (by omega)]
   by_cases h3:65536<=x/\(x<=1114111/\(x<55296∨57343<x))
   ·rw[if_pos (by omega),if_pos (by omega)]
   ·rw[if_neg (by omega),if_neg (by omega)]
  ·rw[if_neg (by omega),if_neg (by omega)]
 split
 ·rename_i h1
  rw[if_pos h1] at hd;exact ze4 hd (by omega)
 ·rename_i h1
  rw[if_neg h1] at hd;exact zgw hd
end Go.Proofs.YtgbhkkojkpndmaaGreatDoor
