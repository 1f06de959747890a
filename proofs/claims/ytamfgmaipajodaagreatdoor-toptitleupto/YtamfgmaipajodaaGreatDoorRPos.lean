/-
 A file that is read: all its parts.
-/
import Derived.Test.YtamfgmaipajodaaGreatDoorRRd8
import Derived.Test.YtamfgmaipajodaaGreatDoorSLib
import Derived.Test.YtamfgmaipajodaaGreatDoorRows
import Derived.Test.YtamfgmaipajodaaGreatDoorUni
import Derived.Test.YtamfgmaipajodaaGreatDoorRStay
import Derived.Defers
import Derived.Recover
import Derived.Test.YtamfgmaipajodaaGreatDoorRRd6
set_option maxHeartbeats 0
set_option maxRecDepth 20000
set_option linter.unusedVariables false
namespace Go.Proofs.YtamfgmaipajodaaGreatDoor
open Go.RowKit
set_option linter.unusedSimpArgs false
def R.PtEl (x:R.Part) (c:List Value) (w:World):Prop:=R.PtIs w (.agg c.toArray) x
def R.RowP (F:Nat) (w:World) (v:Value) (xs:List R.Part):Prop:=R.Row 188 16 R.PtEl F w v xs
theorem R.elemP:R.Elem 71 188 16:=⟨Tryz.underlying71,⟨.agg #[.int .i64 0,.string ⟨#[]⟩,.slice none 0 0,.int .i64 0,.bool false,.bool false,.slice none 0 0,.slice none 0 0,.slice none 0 0,.int .i64 0,.bool false,.bool false,.slice none 0 0,.slice none 0 0,.slice none 0 0,.int .i64 0],232,by kernel_rfl,by decide,rfl⟩,by decide⟩
theorem R.RowP.pts {F:Nat}{w:World}{v:Value}{xs:List R.Part}(h:R.RowP F w v xs):R.Stays F none w fun w'=>R.Pts w' v xs:=fun w' hk=>by
 obtain⟨ao,cap,hv⟩:=R.Row.slice h;refine⟨ao,cap,hv,fun hz=> ?_⟩;cases xs with
 | nil=>exact absurd rfl hz
 | cons x0 xs =>
  obtain⟨g,c,hob,⟨cap',hv'⟩,_,_⟩:=R.Row.at h (j:=0) (x:=x0) rfl;refine⟨g,0,by rw[hv] at hv';cases hv';rfl,fun j x hj=> ?_⟩;obtain⟨g2,c2,hob2,_,_,hst⟩:=R.Row.at h hj;have hg:g2=g:=by rw[hob] at hob2;exact(Option.some.inj hob2).symm
  subst hg;obtain⟨hcells,hpt⟩:=hst w' hk;have hpt':R.PtIs w' (.agg c2.toArray) x:=hpt;obtain⟨so,sc,lbo,lbc,lso,lsc,lao,lac,rbo,rbc,rso,rsc,rao,rac,he,_⟩:=hpt'.open
  have hc2:c2= [.int .i64 x.kind,.string x.name,.slice so x.set.length sc,.int .i64 x.dir,.bool x.left.start,.bool x.left.fin,.slice lbo x.left.before.length lbc,.slice lso x.left.source.length lsc,.slice lao x.left.after.length lac,.int .i64 x.left.cursor,.bool x.right.start,.bool x.right.fin,.slice rbo x.right.before.length rbc,.slice rso x.right.source.length rsc,.slice rao x.right.after.length rac,.int .i64 x.right.cursor]:=by
   have:=congrArg (fun v=>match v with | .agg a=>a.toList | _=> []) he;simpa using this
  subst hc2;exact⟨so,sc,lbo,lbc,lso,lsc,lao,lac,rbo,rbc,rso,rsc,rao,rac,hcells 0 _ rfl,hcells 1 _ rfl,hcells 2 _ rfl,hcells 3 _ rfl,hcells 4 _ rfl,hcells 5 _ rfl,hcells 6 _ rfl,hcells 7 _ rfl,hcells 8 _ rfl,hcells 9 _ rfl,hcells 10 _ rfl,hcells 11 _ rfl,hcells 12 _ rfl,hcells 13 _ rfl,hcells 14 _ rfl,hcells 15 _ rfl,hpt'⟩
def R.lenV:Value->Nat
 | .slice _ n _=>n
 | _=>0
theorem zrw (hK:T.ClassOk)(w:World)(cb tb cap:Nat)(ao:Option Addr)(l:List Int)(C:T.Cur w cb tb cap ao l 0) :
  Calls Tryz.prog 61 #[.pointer (some ⟨cb,0,none⟩)] w (T.Ends w cb tb cap ao l (R.parts l) fun xs v w'=>R.RowP w.heap.size w' v xs/\xs.length<=200):=by
 obtain⟨he1,he2⟩:=C.elder;have HE2:Hid (l≠ []->tb<w.heap.size):=he2;have HK:Hid T.ClassOk:=hK;have HC:Hid (T.Cur w cb tb cap ao l 0):=C;clear C he2 hK;obtain⟨o,HO⟩:∃o,Hid (R.parts l=o):=⟨_,rfl⟩;rw[HO.out]
 go_enter Tryz.func61,Tryz.ntmps61
 go_wp2_with fail
 refine(zax _ cb tb cap 0 ao l HC.out).mono ?_;rintro e w1 ⟨rfl,C1,g1⟩;have HC1:Hid (T.Cur w1 cb tb cap ao l (R.gap l 0)):=C1;have HG1:Hid (w.grownBy w1 (some cb)):=g1;clear C1 g1;go_wp2
 go_loopw [3] (fun sv wr=>∃(q:Nat) (xs:List R.Part) (vo:Option Addr) (vc:Nat),sv= .slice vo xs.length vc/\xs.length<=200/\Hid (R.partsN (202 - xs.length) l xs q=o)/\Hid (R.RowP w.heap.size wr (.slice vo xs.length vc) xs)/\Hid (T.Cur wr cb tb cap ao l q)/\Hid (w.grownBy wr (some cb))) (fun sv _=>202 - R.lenV sv)
 case atStart=>exact⟨R.gap l 0,[],none,0,rfl,by simp,HO,R.Row.nil _ _,HC1,HG1⟩
 case round =>
  obtain⟨q,xs,vo,vc,rfl,hxl,HN,HR,HCq,HG⟩:=hrel;have cq:=HCq.out.cell1;have hql:=HCq.out.le;have hlen:=HCq.out.len;obtain⟨f,hf⟩:∃f,202 - xs.length=f+1:=⟨201 - xs.length,by omega⟩;have HN2:Hid (R.partsN (f+1) l xs q=o):=by show _=_;rw[<- hf];exact HN.out
  clear HN
  go_wp2_with fail
  refine(zdr _ cb tb cap q ao l HCq.out).mono ?_;rintro e w2 ⟨rfl,b2⟩;have C2:=HCq.out.below b2;have c2:=C2.cell1;have HC2:Hid (T.Cur w2 cb tb cap ao l q):=C2;have HG2:Hid (w.grownBy w2 (some cb)):=S.zaa HG.out (S.zad b2);have HR2:Hid (R.RowP w.heap.size w2 (.slice vo xs.length vc) xs):=R.Row.below HR.out b2;clear C2 b2 cq
  by_cases hd:T.see l q= -1
  ·clear c2;go_wp2;go_ret;rw[<- HN2.out,R.partsN,if_pos hd];exact⟨_,rfl,⟨HR2.out,hxl⟩,HC2.out,HG2.out⟩
  ·by_cases h200:xs.length=200
   ·have h200':(xs.length:Int)=200:=by omega
    go_wp2
    go_region_dies
    all_goals refine(zaq _ 5 q).mono ?_
    all_goals unfold T.thrown
    all_goals rintro e w3 ⟨rfl,rfl⟩
    all_goals refine⟨rfl,?_⟩
    all_goals rw[<- HN2.out,R.partsN,if_neg hd,if_pos h200]
    all_goals exact⟨rfl,S.zaa HG2.out (zbx _ 1 _)⟩
   ·have h200':¬(xs.length:Int)=200:=by omega
    have h200b:((xs.length:Int)==200)=false:=by simp;omega
    clear c2
    go_wp2_with fail
    refine(zsr HK.out _ cb tb cap q ao l HC2.out).mono ?_;intro e w3 h;cases hc:R.ended l q with
    | bad er r =>
     rw[hc] at h;obtain⟨rfl,g3⟩:=h;unfold T.thrown;go_wp2;refine⟨rfl,?_⟩;rw[<- HN2.out,R.partsN,if_neg hd,if_neg h200,hc];exact⟨rfl,S.zaa HG2.out g3⟩
    | ok x r =>
     rw[hc] at h;obtain⟨v3,rfl,⟨⟨so,sc,lbo,lbc,lso,lsc,lao,lac,rbo,rbc,rso,rsc,rao,rac,hv3⟩,s3⟩,C3,g3⟩:=h;subst hv3;have HHc:Hid _:=hc;have HG3:Hid (w.grownBy w3 (some cb)):=S.zaa HG2.out g3;have hs3:w2.heap.size<=w3.heap.size:=g3.size;have hs2:w.heap.size<=w2.heap.size:=HG2.out.size;have HLt:Hid _:=R.Row.lt HR2.out;have R3:=R.Row.cur HR2.out g3 he1;have bA:=(qR w3).alloc qN (.cells #[.int .i64 x.kind,.string x.name,.slice so x.set.length sc,.int .i64 x.dir,.bool x.left.start,.bool x.left.fin,.slice lbo x.left.before.length lbc,.slice lso x.left.source.length lsc,.slice lao x.left.after.length lac,.int .i64 x.left.cursor,.bool x.right.start,.bool x.right.fin,.slice rbo x.right.before.length rbc,.slice rso x.right.source.length rsc,.slice rao x.right.after.length rac,.int .i64 x.right.cursor] 188);have HR4:Hid (R.RowP w.heap.size _ (.slice vo xs.length vc) xs):=R.Row.below R3 bA
     have HO4:Hid (R.RowP w2.heap.size (w3.alloc (.cells #[.int .i64 x.kind,.string x.name,.slice so x.set.length sc,.int .i64 x.dir,.bool x.left.start,.bool x.left.fin,.slice lbo x.left.before.length lbc,.slice lso x.left.source.length lsc,.slice lao x.left.after.length lac,.int .i64 x.left.cursor,.bool x.right.start,.bool x.right.fin,.slice rbo x.right.before.length rbc,.slice rso x.right.source.length rsc,.slice rao x.right.after.length rac,.int .i64 x.right.cursor] 188)) (.slice (some ⟨w3.heap.size,0,none⟩) 1 1) [x]) :=
      R.Row.one [.int .i64 x.kind,.string x.name,.slice so x.set.length sc,.int .i64 x.dir,.bool x.left.start,.bool x.left.fin,.slice lbo x.left.before.length lbc,.slice lso x.left.source.length lsc,.slice lao x.left.after.length lac,.int .i64 x.left.cursor,.bool x.right.start,.bool x.right.fin,.slice rbo x.right.before.length rbc,.slice rso x.right.source.length rsc,.slice rao x.right.after.length rac,.int .i64 x.right.cursor] rfl (fun u hu=>by
       simp only[List.mem_cons,List.not_mem_nil,or_false] at hu
       rcases hu with rfl | rfl | rfl | rfl | rfl | rfl | rfl | rfl | rfl | rfl | rfl | rfl | rfl | rfl | rfl | rfl <;> rfl) s3 hs3
     have HC4:Hid (T.Cur _ cb tb cap ao l r):=C3.below bA;have HG4:Hid (w.grownBy _ (some cb)):=S.zaa HG3.out (S.zad bA);have hF4:w.heap.size<=(w3.alloc (.cells #[.int .i64 x.kind,.string x.name,.slice so x.set.length sc,.int .i64 x.dir,.bool x.left.start,.bool x.left.fin,.slice lbo x.left.before.length lbc,.slice lso x.left.source.length lsc,.slice lao x.left.after.length lac,.int .i64 x.left.cursor,.bool x.right.start,.bool x.right.fin,.slice rbo x.right.before.length rbc,.slice rso x.right.source.length rsc,.slice rao x.right.after.length rac,.int .i64 x.right.cursor] 188)).heap.size:=by simp;omega
     obtain⟨zs,HZs⟩:∃zs,Hid (xs++ [x]=zs):=⟨_,rfl⟩;have HZl:Hid (zs.length=xs.length+1):=by show _=_;rw[<- HZs.out];simp
     clear hc s3 C3 g3 R3 bA
     go_wp2_with (at_builtin;refine R.zcn R.elemP rfl _ _ rfl _ _ xs [x] rfl rfl HR4.out HO4.out hs2 (fun g hg=>(HLt.out g hg).2) (by simp;omega) hF4 ?_;intro v5 w5 R5 g5 n5;rw[HZs.out] at R5;obtain⟨vo5,vc5,hv5⟩:=R.Row.slice R5;subst hv5;have HR5:Hid (R.RowP w.heap.size w5 (.slice vo5 zs.length vc5) zs):=R5;have HC5:Hid (T.Cur w5 cb tb cap ao l r):=HC4.out.row g5 (fun g hg=>(HLt.out g hg).1) he1 HE2.out;have HG5:Hid (w.grownBy w5 (some cb)):=R.zdq HG4.out g5 (fun g hg=>(HLt.out g hg).1);clear R5 g5 n5)
     refine(zax _ cb tb cap r ao l HC5.out).mono ?_;rintro e w6 ⟨rfl,C6,g6⟩;have HC6:Hid (T.Cur w6 cb tb cap ao l (R.gap l r)):=C6;have HG6:Hid (w.grownBy w6 (some cb)):=S.zaa HG5.out g6;have HR6:Hid (R.RowP w.heap.size w6 (.slice vo5 zs.length vc5) zs):=R.Row.cur HR5.out g6 he1;clear C6 g6;go_wp2
     go_roundw
     case rel=>exact⟨R.gap l r,zs,vo5,vc5,rfl,by have:=HZl.out;omega,by show _=_;rw[show 202 - zs.length=f by have:=HZl.out;omega,<- HN2.out,R.partsN,if_neg hd,if_neg h200,HHc.out];simp only;rw[HZs.out],HR6,HC6,HG6⟩
     case measure=>have:=HZl.out;simp[R.lenV];omega
end Go.Proofs.YtamfgmaipajodaaGreatDoor
namespace Go.Proofs.YtamfgmaipajodaaGreatDoor
open Go.RowKit
theorem zd5 (s:ByteArray)(w:World)(hs:s.size<=1099511627776) :
  Calls Tryz.prog 10 #[.string s] w fun e w'=>∃v,e= .returned v/\w'.ownsRow (w.heap.size+1) 21 1 v (M.rn s).length ((M.rn s).map (Value.int .i32))/\Below w.heap.size w w':=by
 obtain⟨i0,hi,hz0,hz1,hz2⟩:=info_parts Tryz.infoI32
 go_enter Tryz.func10,Tryz.ntmps10
 go_wp2
 go_loopw [3] (fun v wr=>∃(pos fuel:Nat) (acc:List Int),wr.heap[w.heap.size]?=some (.stringIter s pos)/\wr.ownsRow (w.heap.size+1) 21 1 v acc.length (acc.map (Value.int .i32))/\Below w.heap.size w wr/\Hid (acc++(M.steps s fuel pos).map (fun x=>(x.2:Int))=M.rn s)/\s.size<=pos+fuel/\acc.length<=pos) (fun _ wr=>s.size - wr.iterPos w.heap.size)
 case atStart=>exact⟨0,s.size,[],World.iter_heap w s 0,World.ownsRow_nil _ _ _ _,(qR _).alloc qN _,rfl,by omega,by simp⟩
 case round =>
  obtain⟨pos,fuel,acc,hit,hown,hbw,HS,hb,hlen⟩:=hrel;have hpos0:=iterPos_of hit
  by_cases hp:pos<s.size
  ·have hnx:∀ty,(Instr.next (.pointer (some ⟨w.heap.size,0,none⟩)) true ty).run Tryz.prog wr=_:=fun ty=>Lib.run_next_any_at wr w.heap.size s pos ty hit hp
   have hwd:=M.width_pos s pos hp;obtain⟨fuel,rfl⟩:∃f',fuel=f'+1:=⟨fuel - 1,by omega⟩;have hit2:=Lib.iterAt_heap wr w.heap.size s pos (pos+(Utf8.decode s pos).2) hit;have hbw2:=Lib.below_iterAt hbw (k:=w.heap.size) qN s (pos+(Utf8.decode s pos).2);have hown2:=ownsRow_iterAt hown (k:=w.heap.size) (by omega) s (pos+(Utf8.decode s pos).2);obtain⟨W1,hW1⟩:∃W1,W1=wr.iterAt w.heap.size s (pos+(Utf8.decode s pos).2):=⟨_,rfl⟩;rw[<- hW1] at hnx hit2 hbw2 hown2;have hBlt:=lt_of_block hit2;clear hW1 hit hown hbw
   go_wp2_with (at_builtin;go_must (refine wpList_append_own _ rfl _ _ 33 rfl (w.heap.size+1) 21 i0 (.int .i32 0) 1 4 Tryz.underlying33 hi hz0 hz1 hz2 rfl (by decide) _ _ _ rfl (hown2.alloc _) ⟨W1.heap.size,0,none⟩ 1 1 [.int .i32 ((Utf8.decode s pos).1:Int)] rfl rfl (cell_one_new _ _ _) (fun x hx=>by simp at hx;subst hx;rfl) (by unfold maxLen;omega) (by omega) (by simp;omega) ?_;intro v' w3 hown' hgrow3 hnil3;have X:=L.zpu hit2 hbw2 hown2 hown' hgrow3;clear hown' hgrow3 hnil3))
   go_roundw
   case rel=>exact⟨_,fuel,acc++ [((Utf8.decode s pos).1:Int)],X.out.2.1,(by simpa using X.out.1),X.out.2.2,(by show _=_;rw[<- HS.out];simp[M.steps,hp]),by omega,by simp;omega⟩
   case measure=>rw[iterPos_of X.out.2.1,hpos0];omega
  ·have hnx:∀ty,(Instr.next (.pointer (some ⟨w.heap.size,0,none⟩)) true ty).run Tryz.prog wr=_:=fun ty=>Lib.run_next_end_at wr w.heap.size s pos ty hit hp
   go_wp2;go_ret
   have e:=HS.out;rw[M.zhf s fuel pos hp,List.map_nil,List.append_nil] at e;subst e;exact⟨_,rfl,hown,hbw⟩
theorem zrl:∀(L:List UInt8),∀x∈M.ru L,M.right (x.1:Int)=true:=by
 intro L
 induction L using M.zvg with
 | h0=>intro x hx;simp[M.zvf] at hx
 | h1 L hL ih =>
  intro x hx;rw[M.zgq L hL] at hx;rcases List.mem_cons.1 hx with rfl | h
  ·exact M.zsu L
  ·exact ih x h
theorem zrm (s:ByteArray):∀z∈M.rn s,M.right z=true:=by
 intro z hz;rw[M.zvj] at hz;obtain⟨x,hx,rfl⟩:=List.mem_map.1 hz;exact zrl _ x hx
end Go.Proofs.YtamfgmaipajodaaGreatDoor
namespace Go.Proofs.YtamfgmaipajodaaGreatDoor
open Go.RowKit
def R.readE (o:T.Out (List R.Part)) (w:World) (e:Ending) (w':World):Prop :=
 match o with
 | .ok t _=>∃v,e= .returned (.tuple #[v,.agg #[.int .i64 0,.int .i64 0]])/\R.RowP w.heap.size w' v t/\t.length<=200/\Below w.heap.size w w'
 | .bad er q=>e= .returned (.tuple #[.slice none 0 0,.agg #[.int .i64 er,.int .i64 q]])/\Below w.heap.size w w'
def R.faultV (er:Int) (q:Nat):Value:= .iface 38 (.agg #[.int .i64 er,.int .i64 q])
theorem zjb (x:Value)(w:World):(Instr.typeAssert (.iface 38 x) 20 38 true).run Tryz.prog w= .ok (.tuple #[x,.bool true]) w:=by kernel_rfl
theorem zja (w:World):(Instr.typeAssert .nilIface 20 38 true).run Tryz.prog w= .ok (.tuple #[.agg #[.int .i64 0,.int .i64 0],.bool false]) w:=by kernel_rfl
theorem zdi (bs bf:Nat)(er:Int)(q:Nat)(older:List PanicEntry)(w:World)(vs f1 f2:Value)(hs:S.Bx w bs 71 vs)(hf:w.heap[bf]?=some (.cells #[f1,f2] 38))(hne:bs≠bf) :
  CallsD Tryz.prog 59 #[.pointer (some ⟨bs,0,none⟩),.pointer (some ⟨bf,0,none⟩)] (.panicking ({ v:=R.faultV er q,recovered:=false }::older)) w fun e u' w' =>
   e= .returned (.tuple #[])/\u'= .panicking ({ v:=R.faultV er q,recovered:=true }::older)/\S.Bx w' bs 71 (.slice none 0 0)/\w'.heap[bf]?=some (.cells #[.int .i64 er,.int .i64 q] 38)/\(∀B,B<=bs->B<=bf->Below B w w'):=by
 have hta:∀(x:Value) (w:World),(Instr.typeAssert (.iface 38 x) 20 38 true).run Tryz.prog w= .ok (.tuple #[x,.bool true]) w:=fun x w=>zjb x w
 have hrep:Array.replicate 9 undef=#[undef,undef,undef,undef,undef,undef,undef,undef,undef]:=rfl;refine callsD_of_wpS Tryz.func59 rfl fun c₀ cs hu=> ?_
 apply wpS_seq;apply wpS_region;simp[wpOpsS,go_sem,recoverD,hu,Tryz.ntmps59,Exit.thenS,R.faultV,hrep,hta];refine wpS_of_wp ?_;have bW:=(qR w).alloc qN (.cells #[.int .i64 er,.int .i64 q] 38);have hx:=zb7 (heap_alloc_new w (.cells #[.int .i64 er,.int .i64 q] 38));have hs':S.Bx _ bs 71 vs:=hs.below bW hs.lt;have hf':(w.alloc (.cells #[.int .i64 er,.int .i64 q] 38)).heap[bf]?=some (.cells #[f1,f2] 38):=by rw[bW.block bf (qA.1 hf).1];exact hf
 have hl1:=hs.lt;have hl2:=(qA.1 hf).1;have n1:¬w.heap.size=bs:=by omega
 have n2:¬w.heap.size=bf:=by omega
 have hsc:=hs'.cell;have hsf:=hs'.free;have hfc:=zb7 hf';have HS:Hid (S.Bx _ bs 71 vs):=hs';have HF:Hid _:=hf';have HB:Hid (∀B,B<=w.heap.size->Below B w (w.alloc (.cells #[.int .i64 er,.int .i64 q] 38))):=fun B hB=>bW.mono hB
 obtain⟨x0,x1,_,_⟩:=hx;obtain⟨z0,z1,z2,z3⟩:=hfc;generalize w.alloc (.cells #[.int .i64 er,.int .i64 q] 38)=W at *;clear hs' hf' hs hf bW;go_wp2
 go_region
 have hA1:=HS.out.set (.slice none 0 0);have hF1:(W.setCell ⟨bs,0,none⟩ (.slice none 0 0)).heap[bf]?=some (.cells #[f1,f2] 38):=by rw[heap_setCell_other _ ⟨bs,0,none⟩ bf _ (Ne.symm hne)];exact HF.out
 have hF2:=zdf _ bf f1 f2 (.int .i64 er) (.int .i64 q) 38 hF1
 have hA2:S.Bx (((W.setCell ⟨bs,0,none⟩ (.slice none 0 0)).setCell ⟨bf,0,none⟩ (.int .i64 er)).setCell ⟨bf,1,none⟩ (.int .i64 q)).drew bs 71 (.slice none 0 0):=by
  show _=_;show (((W.setCell ⟨bs,0,none⟩ (.slice none 0 0)).setCell ⟨bf,0,none⟩ (.int .i64 er)).setCell ⟨bf,1,none⟩ (.int .i64 q)).heap[bs]?=_;rw[heap_setCell_other _ ⟨bf,1,none⟩ bs _ hne,heap_setCell_other _ ⟨bf,0,none⟩ bs _ hne];exact hA1
 have hB2:∀B,B<=bs->B<=bf->Below B w (((W.setCell ⟨bs,0,none⟩ (.slice none 0 0)).setCell ⟨bf,0,none⟩ (.int .i64 er)).setCell ⟨bf,1,none⟩ (.int .i64 q)).drew:=fun B h1 h2=>((((HB.out B (by omega)).setCell (p:=⟨bs,0,none⟩) h1 _).setCell (p:=⟨bf,0,none⟩) h2 _).setCell (p:=⟨bf,1,none⟩) h2 _).drew
 have hF3:(((W.setCell ⟨bs,0,none⟩ (.slice none 0 0)).setCell ⟨bf,0,none⟩ (.int .i64 er)).setCell ⟨bf,1,none⟩ (.int .i64 q)).drew.heap[bf]?=some (.cells #[.int .i64 er,.int .i64 q] 38):=hF2;generalize (((W.setCell ⟨bs,0,none⟩ (.slice none 0 0)).setCell ⟨bf,0,none⟩ (.int .i64 er)).setCell ⟨bf,1,none⟩ (.int .i64 q)).drew=X at hA2 hB2 hF3 ⊢;change bodyPostS Tryz.prog Tryz.f59 c₀ cs _ Exit.normal _ _ X;simp[bodyPostS,results,Tryz.results59];exact⟨hA2,hF3,hB2⟩
theorem zi8 (ps pf:Addr)(w:World) :
  CallsD Tryz.prog 59 #[.pointer (some ps),.pointer (some pf)] .returning w fun e u' w' =>
   e= .returned (.tuple #[])/\u'= .returning/\∃o,w'=w.alloc o:=by
 have hta:∀(w:World),(Instr.typeAssert .nilIface 20 38 true).run Tryz.prog w= .ok (.tuple #[.agg #[.int .i64 0,.int .i64 0],.bool false]) w:=fun w=>zja w
 have hrep:Array.replicate 9 undef=#[undef,undef,undef,undef,undef,undef,undef,undef,undef]:=rfl;refine callsD_of_wpS Tryz.func59 rfl fun c₀ cs hu=> ?_
 apply wpS_seq;apply wpS_region;simp[wpOpsS,go_sem,recoverD,hu,Tryz.ntmps59,Exit.thenS,hrep,hta];refine wpS_of_wp ?_;go_wp2;cases c₀
 simp_all[bodyPostS,results,Tryz.results59]
 exact⟨_,rfl⟩
theorem zet {fn:Func}{p u:Tmp}(h:fn.results=#[.cell p 71,.cell u 38])(tmps:Array Value)(w:World)(bs bf:Nat)(v y1 y2:Value)(hs:S.Bx w bs 71 v)(hf:w.heap[bf]?=some (.cells #[y1,y2] 38))
  (hp:tmps.getD p undef= .pointer (some ⟨bs,0,none⟩)) (hu:tmps.getD u undef= .pointer (some ⟨bf,0,none⟩)):(results fn tmps).run Tryz.prog w= .ok (.tuple #[v,.agg #[y1,y2]]) w:=by
 have hl:=run_loadVar_row (P:=Tryz.prog) w bf 38 38 #[y1,y2] (0,0) _ hf Tryz.underlying38 rfl (by kernel_rfl);have hc:=hs.cell
 have hl2:(loadVar 71 ⟨bs,0,none⟩).run Tryz.prog w= .ok v w:=by
  simp[go_sem,hc]
 have e:(results fn tmps).run Tryz.prog w=((asAddr (tmps.getD p undef)).run Tryz.prog w).andThen fun a w₁ => ((loadVar 71 a).run Tryz.prog w₁).andThen fun x w₂ => ((asAddr (tmps.getD u undef)).run Tryz.prog w₂).andThen fun b w₃ => ((loadVar 38 b).run Tryz.prog w₃).andThen fun y w₄ => .ok (.tuple #[x,y]) w₄ := by
  simp only[results,h];simp[Sem.run_bind,Result.andThen]
 rw[e,hp,hu];simp[asAddr,Result.andThen,hl,hl2]
theorem zom (hK:T.ClassOk)(s:ByteArray)(hs:s.size<=1099511627776)(w:World) :
  Calls Tryz.prog 25 #[.string s] w (R.readE (R.read (M.rn s)) w):=by
 have hmf:∀(fn:Fn) (first cap:Array Value) (w:World),(Instr.makeFunc fn first cap).run Tryz.prog w= .ok (.func fn first cap) w:=fun _ _ _ _=>rfl
 obtain⟨o,HO⟩:∃o,Hid (R.read (M.rn s)=o):=⟨_,rfl⟩;rw[HO.out]
 go_enter_defers Tryz.func25,Tryz.ntmps25
 go_wp2_with fail
 have HX0:Hid (S.Bx (w.alloc (.cells #[.slice none 0 0] 71)) w.heap.size 71 (.slice none 0 0)):=S.Bx.new w _ _;have bA:=(qR w).alloc qN (.cells #[.slice none 0 0] 71);have bB:Below w.heap.size w ((w.alloc (.cells #[.slice none 0 0] 71)).alloc (.cells #[.int .i64 0,.int .i64 0] 38)):=bA.alloc (by simp) _;have hsz:(w.alloc (.cells #[.slice none 0 0] 71)).heap.size=w.heap.size+1:=by simp
 have HX:S.Bx ((w.alloc (.cells #[.slice none 0 0] 71)).alloc (.cells #[.int .i64 0,.int .i64 0] 38)) w.heap.size 71 (.slice none 0 0):=HX0.out.below ((qR _).alloc qN _) (by rw[hsz];omega)
 have HFb:((w.alloc (.cells #[.slice none 0 0] 71)).alloc (.cells #[.int .i64 0,.int .i64 0] 38)).heap[w.heap.size+1]?=some (.cells #[.int .i64 0,.int .i64 0] 38):=by
  have:=heap_alloc_new (w.alloc (.cells #[.slice none 0 0] 71)) (.cells #[.int .i64 0,.int .i64 0] 38);rw[hsz] at this;exact this
 refine(zd5 s _ hs).mono ?_;generalize (w.alloc (.cells #[.slice none 0 0] 71)).alloc (.cells #[.int .i64 0,.int .i64 0] 38)=W2 at bB HX HFb;clear HX0 bA hsz;rintro e w3 ⟨v,rfl,own,b3⟩;have hX3:S.Bx w3 w.heap.size 71 (.slice none 0 0):=HX.below b3 HX.lt;have hF3:w3.heap[w.heap.size+1]?=some (.cells #[.int .i64 0,.int .i64 0] 38):=by rw[b3.block _ (qA.1 HFb).1];exact HFb
 have B3:Below w.heap.size w w3:=bB.trans (b3.mono bB.size);have hrt:=zrm s;generalize M.rn s=l at own HO hrt;have bW:=(qR w3).alloc qN (.cells #[v,.int .i64 0] 130);have HX4:Hid (S.Bx (w3.alloc (.cells #[v,.int .i64 0] 130)) w.heap.size 71 (.slice none 0 0)):=hX3.below bW hX3.lt
 have HF4:Hid ((w3.alloc (.cells #[v,.int .i64 0] 130)).heap[w.heap.size+1]?=some (.cells #[.int .i64 0,.int .i64 0] 38)):=by
  show _=_;rw[bW.block _ (qA.1 hF3).1];exact hF3
 have HB4:Hid (Below w.heap.size w (w3.alloc (.cells #[v,.int .i64 0] 130))):=B3.trans (bW.mono B3.size)
 by_cases hbig:16000<l.length
 ·obtain⟨vo,vc,hv⟩:∃vo vc,v= .slice vo l.length vc:=by
   rcases own.2 with ⟨rfl,h0⟩|⟨g,cap,cur,rfl,_⟩
   ·exact⟨none,0,by rw[h0]⟩
   ·exact⟨_,_,rfl⟩
  subst hv;clear own hX3 hF3 B3 bB HX HFb b3 bW
  go_wp2_with (go_at_call 60;refine(zaq _ 4 0).mono ?_;unfold T.thrown;rintro e w5 ⟨rfl,rfl⟩)
  refine leaves_cons (f:=59) (args:=#[.pointer (some ⟨w.heap.size,0,none⟩),.pointer (some ⟨w.heap.size+1,0,none⟩)]) (by simp) (by simp[go_sem]) ?_;refine(zdi w.heap.size (w.heap.size+1) 4 0 [] _ _ _ _ HX4.out HF4.out (by omega)).mono ?_;rintro e u' w6 ⟨rfl,rfl,hA,hF,hB⟩;refine⟨_,zet (by rfl) _ _ w.heap.size (w.heap.size+1) _ _ _ hA hF rfl rfl,?_⟩;rw[<- HO.out];unfold R.read;rw[if_pos hbig];exact⟨rfl,HB4.out.trans (hB w.heap.size qN (by omega))⟩
 ·obtain⟨ao,cap,tb,hv,CW⟩:=T.Cur.new 130 own (by omega) hrt;subst hv;have HCW:Hid _:=CW;have HNb:Hid (w.heap.size+1<w3.heap.size):=(qA.1 hF3).1;clear own CW hX3 hF3 B3 bB HX HFb b3 bW
  go_wp2_with fail
  refine(zrw hK _ _ tb cap ao l HCW.out).mono ?_;generalize w3.alloc (.cells #[.slice ao l.length cap,.int .i64 0] 130)=W4 at HX4 HF4 HB4 HCW;intro e w5 h;cases hc:R.parts l with
  | bad er q =>
   rw[hc] at h;obtain⟨rfl,g5⟩:=h;have hX5:S.Bx w5 w.heap.size 71 (.slice none 0 0):=HX4.out.grown g5 (by have:=HNb.out;simp;omega)
   have hF5:w5.heap[w.heap.size+1]?=some (.cells #[.int .i64 0,.int .i64 0] 38):=by
    rw[g5.block _ (qA.1 HF4.out).1 (by have:=HNb.out;simp;omega)];exact HF4.out
   have HB5:Hid (Below w.heap.size w w5):=Below.grown HB4.out g5 HB4.out.size (fun k hk=>by cases hk;have:=HNb.out;omega);have HX5:Hid _:=hX5;have HF5:Hid _:=hF5;have HHc:Hid _:=hc;clear hX5 hF5 g5 hc;unfold T.thrown;go_wp2;refine leaves_cons (f:=59) (args:=#[.pointer (some ⟨w.heap.size,0,none⟩),.pointer (some ⟨w.heap.size+1,0,none⟩)]) (by simp) (by simp[go_sem]) ?_;refine(zdi w.heap.size (w.heap.size+1) er q [] _ _ _ _ HX5.out HF5.out (by omega)).mono ?_;rintro e u' w6 ⟨rfl,rfl,hA,hF,hB⟩;refine⟨_,zet (by rfl) _ _ w.heap.size (w.heap.size+1) _ _ _ hA hF rfl rfl,?_⟩;rw[<- HO.out];unfold R.read;rw[if_neg hbig,HHc.out];exact⟨rfl,HB5.out.trans (hB w.heap.size qN (by omega))⟩
  | ok t q =>
   rw[hc] at h;obtain⟨v5,rfl,⟨hr5,hl5⟩,C5,g5⟩:=h;have hX5:S.Bx w5 w.heap.size 71 (.slice none 0 0):=HX4.out.grown g5 (by have:=HNb.out;simp;omega)
   have hF5:w5.heap[w.heap.size+1]?=some (.cells #[.int .i64 0,.int .i64 0] 38):=by
    rw[g5.block _ (qA.1 HF4.out).1 (by have:=HNb.out;simp;omega)];exact HF4.out
   have HB5:Hid (Below w.heap.size w w5):=Below.grown HB4.out g5 HB4.out.size (fun k hk=>by cases hk;have:=HNb.out;omega);have HX5:Hid (S.Bx w5 w.heap.size 71 (.slice none 0 0)):=hX5;have HF5:Hid _:=hF5;have HHc:Hid _:=hc;have x0:=hX5.cell;have x1:=hX5.free;obtain⟨y0,y1,y2,y3⟩:=zb7 hF5;have hW4:w.heap.size+2<=W4.heap.size:=by have:=(qA.1 HF4.out).1;omega
   have HR5:Hid (R.RowP W4.heap.size w5 v5 t):=hr5;obtain⟨vo,vc,hv⟩:=R.Row.slice hr5;subst hv;clear hX5 hF5 g5 hc hr5 C5;go_wp2;have hne:w.heap.size≠w.heap.size+1:=by omega
   have g1:w5.grownBy (w5.setCell ⟨w.heap.size,0,none⟩ (.slice vo t.length vc)) (some w.heap.size):=R.zaj _ _ _ _;have g2:(w5.setCell ⟨w.heap.size,0,none⟩ (.slice vo t.length vc)).grownBy (((w5.setCell ⟨w.heap.size,0,none⟩ (.slice vo t.length vc)).setCell ⟨w.heap.size+1,0,none⟩ (.int .i64 0)).setCell ⟨w.heap.size+1,1,none⟩ (.int .i64 0)) (some (w.heap.size+1)):=S.zaa (R.zaj _ _ _ _) (R.zaj _ _ _ _);have R3:=R.Row.cur (R.Row.cur HR5.out g1 (by omega)) g2 (by omega);have hF1:(w5.setCell ⟨w.heap.size,0,none⟩ (.slice vo t.length vc)).heap[w.heap.size+1]?=some (.cells #[.int .i64 0,.int .i64 0] 38):=by rw[heap_setCell_other _ ⟨w.heap.size,0,none⟩ _ _ (Ne.symm hne)];exact HF5.out
   have hF2:=zdf _ (w.heap.size+1) _ _ (.int .i64 0) (.int .i64 0) 38 hF1
   have hA2:S.Bx (((w5.setCell ⟨w.heap.size,0,none⟩ (.slice vo t.length vc)).setCell ⟨w.heap.size+1,0,none⟩ (.int .i64 0)).setCell ⟨w.heap.size+1,1,none⟩ (.int .i64 0)) w.heap.size 71 (.slice vo t.length vc):=by
    show _=_;rw[heap_setCell_other _ ⟨w.heap.size+1,1,none⟩ _ _ hne,heap_setCell_other _ ⟨w.heap.size+1,0,none⟩ _ _ hne];exact HX5.out.set (.slice vo t.length vc)
   have hB2:Below w.heap.size w (((w5.setCell ⟨w.heap.size,0,none⟩ (.slice vo t.length vc)).setCell ⟨w.heap.size+1,0,none⟩ (.int .i64 0)).setCell ⟨w.heap.size+1,1,none⟩ (.int .i64 0)):=((HB5.out.setCell (p:=⟨w.heap.size,0,none⟩) qN _).setCell (p:=⟨w.heap.size+1,0,none⟩) (Nat.le_succ _) _).setCell (p:=⟨w.heap.size+1,1,none⟩) (Nat.le_succ _) _;generalize ((w5.setCell ⟨w.heap.size,0,none⟩ (.slice vo t.length vc)).setCell ⟨w.heap.size+1,0,none⟩ (.int .i64 0)).setCell ⟨w.heap.size+1,1,none⟩ (.int .i64 0)=X at R3 hF2 hA2 hB2 ⊢;refine leaves_cons (f:=59) (args:=#[.pointer (some ⟨w.heap.size,0,none⟩),.pointer (some ⟨w.heap.size+1,0,none⟩)]) (by simp) (by simp[go_sem]) ?_;refine(zi8 ⟨w.heap.size,0,none⟩ ⟨w.heap.size+1,0,none⟩ _).mono ?_;rintro e u' w6 ⟨rfl,rfl,ob,rfl⟩;have bX:=(qR X).alloc qN ob;refine⟨_,zet (by rfl) _ _ w.heap.size (w.heap.size+1) _ _ _ (hA2.below bX hA2.lt) (by rw[bX.block _ (qA.1 hF2).1];exact hF2) rfl rfl,?_⟩;rw[<- HO.out];unfold R.read;rw[if_neg hbig,HHc.out];exact⟨_,rfl,R.Row.down (R.Row.below R3 bX) (by omega),hl5,hB2.trans (bX.mono hB2.size)⟩
end Go.Proofs.YtamfgmaipajodaaGreatDoor
namespace Go.Proofs.YtamfgmaipajodaaGreatDoor.R
open S (Sp)
open T (Out see skipW cut)
end Go.Proofs.YtamfgmaipajodaaGreatDoor.R
