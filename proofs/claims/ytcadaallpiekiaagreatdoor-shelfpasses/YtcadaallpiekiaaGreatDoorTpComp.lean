import Derived.Test.YtcadaallpiekiaaGreatDoorCnGo
set_option maxHeartbeats 0
set_option maxRecDepth 20000
set_option linter.unusedSimpArgs false
set_option linter.unusedVariables false
namespace Go.Proofs.YtcadaallpiekiaaGreatDoor
open Go.Proofs.Tryz
section
open Go.RowKit Go.Lib
theorem zj2 (w:World):Calls prog 25 #[.bool false] w fun e w'=>e=.returned (.func (.func 12) #[] #[])/\w'=w:=by
 go_enter func25,ntmps25
 go_wp2;go_ret
 exact⟨rfl,rfl⟩
theorem zdb (hK:T.ClassOk)(name t:ByteArray)(l:List R.Part)(q:Nat)(sc:V.Script)(ht:Sh.textF name=(t,0))(hsz:t.size<=1099511627776)(hr:R.read (M.rn t)=.ok l q)(hf:V.forthF l=(sc,0,0))(w:World) :
  Calls prog 9 #[.string name,.bool false] w fun e w'=>∃v',e=.returned (.tuple #[v',.int .i64 0])/\V.ScIs w' v' sc/\Bl w w':=by
 obtain⟨X,hX⟩:=qE (w.alloc (.cells #[.bool false,.slice none 0 0,.slice none 0 0] 30));have k1:=K.zau (w:=w) (qR (w.alloc (.cells #[.bool false,.slice none 0 0,.slice none 0 0] 30)));rw[<- hX] at k1;have HX:=qH k1
 have HT:Hid (Calls prog 5 #[.string name] X fun e w'=>e=.returned (.tuple #[.string t,.int .i64 0])/\Bl X w'):=by
  have h:=zgi name X;rw[ht] at h;exact h
 have HR:Hid (∀Y,Calls prog 11 #[.string t] Y fun e w'=>∃v,e=.returned (.tuple #[v,.agg #[.int .i64 0,.int .i64 0]])/\R.Pts w' v l/\Bl Y w'):=fun Y=>by
  have h:=zih hK t hsz Y;rw[hr] at h;exact h.mono fun e w' ⟨v,h1,h2,_,h4⟩=>⟨v,h1,(R.RowP.pts h2).here,h4⟩
 have HF:Hid (∀Y v,R.Pts Y v l->Calls prog 12 #[v] Y fun e w'=>∃v',e=.returned (.tuple #[v',.agg #[.int .i64 0,.int .i64 0]])/\V.Firm Y.heap.size w' v' sc/\Bl Y w'):=fun Y v hv=>by
  have h:=znu Y v l hv;rw[hf] at h;exact h
 clear k1 ht hr hf hsz
 go_enter func9,ntmps9
 go_wp2_with fail
 rw[<- hX];refine HT.out.mono ?_;clear hX HT;rintro e w1 ⟨rfl,b1⟩;have hb1:=K.zae HX.out.1 b1;have hB1:=HX.out.2.1.trans (b1.mono (by have:=HX.out.2.2;omega));have hR:=HR.out w1;clear b1 HR HX;have HB1:Hid (w1.heap[w.heap.size]?=some (.cells #[.bool false,.slice none 0 0,.slice none 0 0] 30)/\Bl w w1):=⟨hb1,hB1⟩;clear hb1 hB1
 go_wp2_with fail
 refine hR.mono ?_;clear hR;rintro e w2 ⟨v2,rfl,hp2,b2⟩;obtain⟨Y,hY⟩:=qE (w2.alloc (.cells #[.int .i64 0,.int .i64 0] 36));have k2:=K.zau (w:=w2) (qR (w2.alloc (.cells #[.int .i64 0,.int .i64 0] 36)));rw[<- hY] at k2;have hF:=HF.out Y v2 (hp2.below k2.2.1);have hb2:=K.zae (K.zae HB1.out.1 b2) k2.2.1;have hB2:=HB1.out.2.trans (b2.mono HB1.out.2.size);have HY:Hid (Y.heap[w.heap.size]?=some (.cells #[.bool false,.slice none 0 0,.slice none 0 0] 30)/\Bl w Y):=⟨hb2,hB2.trans (k2.2.1.mono hB2.size)⟩;obtain⟨la,lc,rfl⟩:∃a c,v2=.slice a l.length c:=by obtain⟨a,c,h⟩:=hp2.len;exact⟨a,c,h⟩
 clear hp2 b2 k2 HF hb2 hB2 HB1
 go_wp2_with fail
 rw[<- hY];refine(zj2 Y).mono ?_;clear hY;rintro e w2' ⟨rfl,rfl⟩
 go_wp2_with fail
 refine hF.mono ?_;clear hF;rintro e w3 ⟨v3,rfl,hFm,b3⟩;have hb3:=K.zae HY.out.1 b3;have hB3:=HY.out.2.trans (b3.mono HY.out.2.size);have hl3:=lt_of_block hb3;obtain⟨oo,oc,po,pc,rfl,_⟩:=id hFm.here;obtain⟨r0,r1,r2,f0,f1,f2⟩:=V.box3 hb3;have HE:Hid (V.Firm w2'.heap.size w3 (.agg #[.bool sc.has,.slice oo sc.only.length oc,.slice po sc.passes.length pc]) sc/\Bl w w3/\w.heap.size<w2'.heap.size):=⟨hFm,hB3,lt_of_block HY.out.1⟩;clear hFm b3 hb3 hB3 HY;go_wp2;refine bodyPost_ret (v:=.tuple #[.agg #[.bool sc.has,.slice oo sc.only.length oc,.slice po sc.passes.length pc],.int .i64 0]) (by simp[results,results9,go_sem, *]) rfl ?_;refine⟨_,rfl,?_,?_⟩
 ·exact((((HE.out.1.store _ 0 _ HE.out.2.2).store _ 1 _ HE.out.2.2).store _ 2 _ HE.out.2.2).below (Cn.al _ _)).below (Cn.al _ _) |>.here
 ·exact((((HE.out.2.1.setCell (p:=⟨w.heap.size,0,none⟩) qN _).setCell (p:=⟨w.heap.size,1,none⟩) qN _).setCell (p:=⟨w.heap.size,2,none⟩) qN _).alloc (by simp;omega) _).alloc (by simp;omega) _
end
section
open Go.RowKit
theorem znw (w:World)(v:Value)(zs:List Int)(R:L.Rd w v .i32 zs)(hl:zs.length<=1099511627776)(hall:∀z∈zs,M.right z=true) :
  Calls prog 27 #[v] w fun e w'=>e=.returned (.tuple #[.string (runesBytes zs),.int .i64 0])/\w'=w:=by
 obtain⟨ao,cap,rfl,hn,hc⟩:=R;have hcv:=zg6 (P:=prog) (w:=w) 42 9 21 underlying42 underlying21 underlying9 hn hc
 go_enter func27,ntmps27
 go_wp2
 go_loop [8] (fun i=>∃k:Nat,k<=zs.length/\i=.int .i64 k) (fun i=>zs.length-(intOf i).toNat)
 case atStart=>exact⟨0,Nat.zero_le _,rfl⟩
 case round =>
  obtain⟨k,hk,rfl⟩:=hrel
  by_cases hlt:k<zs.length
  ·obtain⟨b,off,rfl,hcell⟩:=hc (by intro h;subst h;simp at hlt);obtain⟨x,hx⟩:∃x,zs[k]?=some x:=⟨zs[k],by simp[hlt]⟩;have c1:=hcell k x hx;have HR:=qH<|hall x (List.mem_of_getElem? hx);clear hcv hcell hx hc
   go_wp2_with (go_at_call 49;go_must (refine(zdw _ _).mono ?_;rintro e w' ⟨rfl,rfl⟩;rw[HR.out]))
   go_round
   case rel=>exact⟨k+1,by omega,by go_num⟩
   case measure=>simp[intOf];omega
  ·go_wp2
   go_ret2
   exact⟨rfl,rfl⟩
end
section
open Go.RowKit Go.Lib
namespace Tp
abbrev At (W X:World) (sb:Nat) (v0 v1 v2:Value):Prop :=
 Bl W X/\X.cell? ⟨sb,0,none⟩=some v0/\X.cell? ⟨sb,1,none⟩=some v1/\X.cell? ⟨sb,2,none⟩=some v2
theorem At.below {W X Y:World}{sb:Nat}{v0 v1 v2:Value}(h:At W X sb v0 v1 v2)(hb:Bl X Y):At W Y sb v0 v1 v2:=by
 obtain⟨h0,h1,h2,h3⟩:=h;exact⟨h0.trans (hb.mono h0.size),(hb.cell (p:=⟨sb,0,none⟩) (L.block_lt h1)).trans h1,(hb.cell (p:=⟨sb,1,none⟩) (L.block_lt h2)).trans h2,(hb.cell (p:=⟨sb,2,none⟩) (L.block_lt h3)).trans h3⟩
theorem At.alloc {W X:World}{sb:Nat}{v0 v1 v2:Value}(h:At W X sb v0 v1 v2)(o:Obj):At W (X.alloc o) sb v0 v1 v2:=h.below ((qR X).alloc qN o)
theorem At.drew {W X:World}{sb:Nat}{v0 v1 v2:Value}(h:At W X sb v0 v1 v2):At W X.drew sb v0 v1 v2:=h.below (qR X).drew
theorem At.set2 {W X:World}{sb fb:Nat}{v0 v1 v2:Value}(h:At W X sb v0 v1 v2)(hs:sb<W.heap.size)(hb:W.heap.size<=fb)(a b:Value):At W ((X.setCell ⟨fb,0,none⟩ a).setCell ⟨fb,1,none⟩ b) sb v0 v1 v2:=by
 obtain⟨h0,h1,h2,h3⟩:=h
 have c:∀i,((X.setCell ⟨fb,0,none⟩ a).setCell ⟨fb,1,none⟩ b).cell? ⟨sb,i,none⟩=X.cell? ⟨sb,i,none⟩:=fun i=>World.cell?_of_block (a:=⟨sb,i,none⟩) (by
  rw[heap_setCell_other _ ⟨fb,1,none⟩ sb _ (by simp;omega),heap_setCell_other _ ⟨fb,0,none⟩ sb _ (by simp;omega)])
 exact⟨(h0.setCell (p:=⟨fb,0,none⟩) hb _).setCell (p:=⟨fb,1,none⟩) hb _,by rw[c];exact h1,by rw[c];exact h2,by rw[c];exact h3⟩
theorem three (w:World)(o1 o2 o3:Obj):(((w.alloc o1).alloc o2).alloc o3).heap[w.heap.size]?=some o1/\(((w.alloc o1).alloc o2).alloc o3).heap[w.heap.size+1]?=some o2/\(((w.alloc o1).alloc o2).alloc o3).heap[w.heap.size+1+1]?=some o3/\Bl w (((w.alloc o1).alloc o2).alloc o3):=by
 have k:=K.za3 (w:=w) (o1:=o1) (o2:=o2) (qR _);have e:=heap_alloc_new ((w.alloc o1).alloc o2) o3;have hs:((w.alloc o1).alloc o2).heap.size=w.heap.size+1+1:=by simp
 rw[hs] at e;exact⟨K.zae k.1 (Cn.al _ _),K.zae k.2.1 (Cn.al _ _),e,k.2.2.1.trans ((Cn.al _ _).mono k.2.2.1.size)⟩
def Got (W wx:World) (v8 v9:Value) (q:List Int×Int×Int):Prop :=
 ∃fb,v9=.pointer (some ⟨fb,0,none⟩)/\W.heap.size<=fb/\wx.heap[fb]?=some (.cells #[.int .i64 q.2.1,.int .i64 q.2.2] 36)/\L.Rd wx v8 .i32 q.1/\Bl W wx
theorem zky {W X:World}{sb:Nat}{v0 v1 v2 v8:Value}{q:List Int}{r1 r2:Int}(h:At W X sb v0 v1 v2)(hr:L.Rd X v8 .i32 q):Got W (X.alloc (.cells #[.int .i64 r1,.int .i64 r2] 36)) v8 (.pointer (some ⟨X.heap.size,0,none⟩)) (q,r1,r2) :=
 ⟨_,rfl,h.1.size,heap_alloc_new X _,hr.below (Cn.al _ _) qN,(h.alloc _).1⟩
theorem zkx {W X:World}{sb fb:Nat}{v0 v1 v2 v8:Value}{q:List Int}{r1 r2:Int}(h:At W X sb v0 v1 v2)(hs:sb<W.heap.size)(hr:L.Rd X v8 .i32 q)(hb:X.heap[fb]?=some (.cells #[.int .i64 0,.int .i64 0] 36))(hfb:W.heap.size<=fb):Got W ((X.setCell ⟨fb,0,none⟩ (.int .i64 r1)).setCell ⟨fb,1,none⟩ (.int .i64 r2)) v8 (.pointer (some ⟨fb,0,none⟩)) (q,r1,r2):=by
 have hb1:=heap_setCell_same X fb 0 _ _ (.int .i64 r1) hb;have hb2:=heap_setCell_same _ fb 1 _ _ (.int .i64 r2) hb1;refine⟨fb,rfl,hfb,hb2,K.za8 hr fun hz k hk=> ?_,(h.set2 hs hfb _ _).1⟩;have hne:=K.zpe hr hb hz k hk;rw[heap_setCell_other _ ⟨fb,1,none⟩ k _ hne,heap_setCell_other _ ⟨fb,0,none⟩ k _ hne]
theorem decode (s:ByteArray)(hs:s.size<=1099511627776)(X:World):Calls prog 26 #[.string s] X fun e w'=>∃xo xc,e=.returned (.slice xo (M.rn s).length xc)/\L.Rd w' (.slice xo (M.rn s).length xc) .i32 (M.rn s)/\(M.rn s).length<=xc/\Bl X w' :=
 (zg5 s X hs).mono fun e w' ⟨v,h1,own,hb⟩=>by
  subst h1;rcases own.2 with ⟨hv,h0⟩|⟨g,cap,cur,hv,_,_,hc,_⟩
  ·refine⟨none,0,by rw[hv,h0],?_,by omega,hb⟩;have:=L.Rd.zax own;rw[hv] at this;rw[h0];exact this
  ·refine⟨_,cap,by rw[hv],?_,hc,hb⟩;have:=L.Rd.zax own;rw[hv] at this;exact this
theorem zth {pl:Cn.Pl}(h:Cn.PlOk pl)(s:V.Script)(t:List Int):(Cn.goF pl s t).1.length<=16000000:=by
 unfold Cn.goF;split
 ·split
  ·split
   ·split
    ·simp
    ·show (Cn.runP pl s.passes (Cn.cut (Cn.inS s) t) []).1.length<=_;omega
   ·simp
  ·simp
 ·simp
end Tp
def Sh.Scr (name:ByteArray) (sc:V.Script):Prop:=∃t l q,Sh.textF name=(t,0)/\t.size<=1099511627776/\R.read (M.rn t)=.ok l q/\V.forthF l=(sc,0,0)
theorem zif (hK:T.ClassOk)(name:ByteArray)(sc:V.Script)(h0:Sh.Scr name sc)(s:ByteArray)(hs:s.size<=1099511627776)(pl:Cn.Pl)(hpl:Cn.PlOk pl)(out:List Int)(hgo:Cn.goF pl sc (M.rn s)=(out,0,0))(hall:∀z∈out,M.right z=true)(w:World) :
  Calls prog 10 #[.string name,.bool false,.string s] w fun e w'=>e=.returned (.tuple #[.string (runesBytes out),.int .i64 0])/\Bl w w':=by
 obtain⟨t,l,q,ht,hsz,hr,hf⟩:=h0;have HS:=qH<|zdb hK name t l q sc ht hsz hr hf w;have hfit:S.Fit sc.only:=by have h:=Tp.zjb l;rw[hf] at h;exact h
 have hol:out.length<=16000000:=by have h:=Tp.zth hpl sc (M.rn s);rw[hgo] at h;exact h
 have hnl:=Nat.le_trans (M.zo8 s) hs;have HEn:=qH<|fun X v hv=>znw X v out hv (by omega) hall
 have HDe:=qH<|fun X=>Tp.decode s hs X
 have HG0:Hid (∀X v xo xc,V.ScIs X v sc->L.Rd X (.slice xo (M.rn s).length xc) .i32 (M.rn s)->(M.rn s).length<=xc->Calls prog 20 #[v,.slice xo (M.rn s).length xc] X fun e w'=>∃v',e=.returned (.tuple #[v',.agg #[.int .i64 0,.int .i64 0]])/\L.Rd w' v' .i32 out/\Bl X w'):=fun X v xo xc hv hd hc=>by
  have h:=zqz pl hpl X v sc hv hfit xo xc (M.rn s) hd hc (by omega);rw[hgo] at h;exact h
 clear ht hsz hr hf hgo hall hfit hnl;generalize M.rn s=tx at HDe HG0
 go_enter func10,ntmps10
 go_wp2_with fail
 refine HS.out.mono ?_;clear HS;rintro e w1 ⟨v1,rfl,hSc,b1⟩;obtain⟨oo,oc,po,pc,hv1,_⟩:=id hSc;subst hv1;obtain⟨Z,hZ⟩:=qE (w1.alloc (.cells #[.bool sc.has,.slice oo sc.only.length oc,.slice po sc.passes.length pc] 30));have k4:=K.zau (w:=w1) (qR (w1.alloc (.cells #[.bool sc.has,.slice oo sc.only.length oc,.slice po sc.passes.length pc] 30)));rw[<- hZ] at k4;have HZ:=qH<|b1.trans (k4.2.1.mono b1.size);have HAtz:Hid (Tp.At Z Z w1.heap.size (.bool sc.has) (.slice oo sc.only.length oc) (.slice po sc.passes.length pc)):=⟨qR _,K.zad (i:=0) k4.1 rfl,K.zad (i:=1) k4.1 rfl,K.zad (i:=2) k4.1 rfl⟩;have hsb:=lt_of_block k4.1;have HScZ:=qH<|hSc.below k4.2.1;have HGo:Hid (∀X xo xc,Tp.At Z X w1.heap.size (.bool sc.has) (.slice oo sc.only.length oc) (.slice po sc.passes.length pc)->L.Rd X (.slice xo tx.length xc) .i32 tx->tx.length<=xc->Calls prog 20 #[.agg #[.bool sc.has,.slice oo sc.only.length oc,.slice po sc.passes.length pc],.slice xo tx.length xc] X fun e w'=>∃v',e=.returned (.tuple #[v',.agg #[.int .i64 0,.int .i64 0]])/\L.Rd w' v' .i32 out/\Bl X w'):=fun X xo xc hX hd hc=>HG0.out X _ xo xc (HScZ.out.below hX.1) hd hc
 clear k4 hSc b1 HG0
 go_upto_region 4 with fail
 rw[<- hZ];clear hZ;have HKz:=qH HAtz.out.drew;have HKDz:=qH<|fun o=>(HAtz.out.alloc o).drew
 go_cut [10,11] (fun va vf wx=>Hid (Tp.Got Z wx va vf (out,0,0)))
 case first =>
  go_region_held3 (fun w'=>Bl Z w'/\w'.cell? ⟨w1.heap.size,0,none⟩=some (.bool sc.has)/\w'.cell? ⟨w1.heap.size,1,none⟩=some (.slice oo sc.only.length oc)/\w'.cell? ⟨w1.heap.size,2,none⟩=some (.slice po sc.passes.length pc))
   (first|with_reducible exact HKz.out|with_reducible exact k2|with_reducible exact k1|with_reducible exact k2.alloc _|with_reducible exact k1.alloc _|with_reducible exact HKz.out.alloc _|with_reducible exact HKDz.out _|with_reducible exact Tp.At.set2 k2 hsb k1.1.size _ _|with_reducible exact Tp.At.set2 k2 hsb qN _ _|fail)
   (first
    | (have hy:=k1;clear hy;go_at_call 20;refine(HGo.out _ _ _ (by first|with_reducible exact k1|with_reducible exact k1.alloc _) (by first|with_reducible exact d1|with_reducible exact d1.below (Cn.al _ _) qN) hc1).mono ?_;rintro e wd2 ⟨vd2,rfl,d2,z2⟩;have k2:Tp.At Z wd2 (w1.heap.size) (.bool sc.has) (.slice oo sc.only.length oc) (.slice po sc.passes.length pc):=(by first|with_reducible exact k1.below z2|with_reducible exact(k1.alloc _).below z2);first|(have r2:=K.zae r1 z2;obtain⟨y0,y1,ff0,ff1⟩:=V.box2 r2)|(have r2:=Cn.rb z2;obtain⟨y0,y1,ff0,ff1⟩:=V.box2 r2)|skip)
    | ((fail_if_success (have hy:=k1));go_at_call 26;refine(HDe.out _).mono ?_;rintro e wd1 ⟨xo1,xc1,rfl,d1,hc1,z1⟩;have k1:Tp.At Z wd1 (w1.heap.size) (.bool sc.has) (.slice oo sc.only.length oc) (.slice po sc.passes.length pc):=(by first|with_reducible exact HKz.out.below z1|with_reducible exact(HKz.out.alloc _).below z1|with_reducible exact(HKDz.out _).below z1);first|(have r1:=Cn.rbD z1)|skip)
    | fail)
  all_goals
   first
    | (have HM:=Tp.zkx (r1:=0) (r2:=0) k2 hsb d2 r2 (by first|with_reducible exact k1.1.size|with_reducible exact qN))
    | (have HM:=Tp.zky (r1:=0) (r2:=0) k2 d2)
   clear k2 k1 d2 d1 z2 z1
   go_wp2_with fail
   go_meet
   case rel=>exact HM
 case rest =>
  obtain⟨fb,rfl,hfb,hbox,hrd,hbl⟩:=hcut.out;obtain⟨va,vc,rfl⟩:∃va vc,_=Value.slice va out.length vc:=by obtain⟨a,c,h,_⟩:=hrd;exact⟨a,c,h⟩
  have p3:=K.zad (i:=0) hbox rfl;have HE:=qH<|HZ.out.trans (hbl.mono HZ.out.size);have hEn:=HEn.out wc _ hrd;clear hcut hbox hrd hbl HGo HDe HKz HKDz HAtz HZ HScZ HEn
  go_wp2_with fail
  refine hEn.mono ?_;clear hEn;rintro e w' ⟨rfl,rfl⟩;go_wp2;refine bodyPost_ret (v:=.tuple #[.string (runesBytes out),.int .i64 0]) (by simp[results,results10,go_sem, *]) rfl ?_;exact⟨rfl,HE.out⟩
end
namespace Cn
theorem rise:∀l:List Int,∃c:List Int,c.Pairwise (· < ·)/\∀y,y∈c↔y∈l:=by
 intro l
 induction l with
 | nil=>exact⟨[],by simp,fun y=>by simp⟩
 | cons x l ih =>
  obtain⟨c,h1,h2⟩:=ih;refine⟨c.filter (· < x)++x::c.filter (x< ·),?_,fun y=> ?_⟩
  ·rw[List.pairwise_append,List.pairwise_cons];refine⟨h1.filter _,⟨fun a ha=>by simpa using (List.mem_filter.1 ha).2,h1.filter _⟩,fun a ha b hb=> ?_⟩;have ha2:a<x:=by simpa using (List.mem_filter.1 ha).2
   rcases List.mem_cons.1 hb with rfl|hb
   ·exact ha2
   ·have hb2:x<b:=by simpa using (List.mem_filter.1 hb).2
    omega
  ·rw[List.mem_append,List.mem_cons,List.mem_cons,List.mem_filter,List.mem_filter,h2];constructor
   ·rintro (h|h|h)
    ·exact .inr h.1
    ·exact .inl h
    ·exact .inr h.1
   ·rintro (h|h)
    ·exact .inr (.inl h)
    ·rcases Int.lt_trichotomy y x with h3|h3|h3
     ·exact .inl ⟨h,by simpa using h3⟩
     ·exact .inr (.inl h3)
     ·exact .inr (.inr ⟨h,by simpa using h3⟩)
end Cn
