/-
 A script that is being made, in its box.
-/
import Derived.Test.YteagjpnbiceafaaGreatDoorVRule2
import Derived.Test.YteagjpnbiceafaaGreatDoorVLook
import Derived.Test.YteagjpnbiceafaaGreatDoorRParse
import Derived.Laws.EntriesVeiled
set_option maxHeartbeats 0
set_option maxRecDepth 20000
set_option linter.unusedSimpArgs false
set_option linter.unusedVariables false
namespace Go.Proofs.YteagjpnbiceafaaGreatDoor
open Go.RowKit
namespace V
theorem Moves.store {tops:List Nat}(w:World){b:Nat}(i:Nat)(v:Value)(hb:b∈tops):Moves tops w tops (w.setCell ⟨b,i,none⟩ v) :=
 ⟨(R.zaj w b i v).size,fun k hk hn=>heap_setCell_other w ⟨b,i,none⟩ k v fun e=>hn (e▸hb),fun k hk=> .inl hk,fun k hk=>hk⟩
theorem PS.store {F:Nat}{tops:List Nat}{w:World}{vp:Value}{ps:List Pass}{rvs:List Value}(h:PS F tops w vp ps rvs){b:Nat}(i:Nat)(v:Value)(hb:b∈tops)(hF:b<F):PS F tops (w.setCell ⟨b,i,none⟩ v) vp ps rvs:=by
 have hm:=Moves.store w i v hb;have ho:∀k,F<=k->(w.setCell ⟨b,i,none⟩ v).heap[k]?=w.heap[k]?:=fun k hk=>heap_setCell_other w ⟨b,i,none⟩ k v (by simp;omega)
 exact⟨h.len,zde h.own fun g hg=>ho g (h.own.lt g hg).1,fun j p rv h1 h2=>⟨(h.rows j p rv h1 h2).1.step hm.1 hm.2.1 hm.2.2.1 fun g hg=>ho g (h.rvlt (List.mem_of_getElem? h2) g hg).1,(h.rows j p rv h1 h2).2⟩,h.top,h.apart,h.diff,fun k hk=>Nat.lt_of_lt_of_le (h.lt k hk) hm.1⟩
structure SS (F bs:Nat) (tops:List Nat) (w:World) (s:Script) (vo vp:Value) (rvs:List Value):Prop where
 mem:bs∈tops
 lt:bs<F
 box:w.heap[bs]?=some (.cells #[.bool s.has,vo,vp] 30)
 only:Leaf tops w fun W=>S.Rd W vo s.only
 few:s.only.length<=17592186044160
 one:vo.oneCell'=true
 pas:PS F tops w vp s.passes rvs
 nil:s.passes= []->vp= .slice none 0 0
theorem SS.below {F bs:Nat}{tops:List Nat}{w w':World}{s:Script}{vo vp:Value}{rvs:List Value}(h:SS F bs tops w s vo vp rvs)(hb:Below w.heap.size w w'):SS F bs tops w' s vo vp rvs :=
 ⟨h.mem,h.lt,(hb.block bs (h.pas.lt bs h.mem)).trans h.box,h.only.moves (Moves.of_below hb),h.few,h.one,h.pas.below hb,h.nil⟩
theorem SS.start (F bs:Nat)(tops:List Nat)(w:World)(hF:bs<F)(hb:w.heap[bs]?=some (.cells #[.bool false,.slice none 0 0,.slice none 0 0] 30))(hm:bs∈tops)(ht:∀k∈tops,k<w.heap.size):SS F bs tops w ⟨false,[],[]⟩ (.slice none 0 0) (.slice none 0 0) [] :=
 ⟨hm,hF,hb,fun W _ _=>S.Rd.nil W,by simp,rfl,PS.start F w tops ht,fun _=>rfl⟩
theorem SS.filter {F bs:Nat}{tops:List Nat}{w:World}{s:Script}{vo vp:Value}{rvs:List Value}(h:SS F bs tops w s vo vp rvs)(vo':Value)(l:List S.Sp)(hl:Leaf tops w fun W=>S.Rd W vo' l)(hn:l.length<=17592186044160)(h1:vo'.oneCell'=true) :
  SS F bs tops ((w.setCell ⟨bs,0,none⟩ (.bool true)).setCell ⟨bs,1,none⟩ vo') ⟨true,l,s.passes⟩ vo' vp rvs:=by
 have b1:=heap_setCell_same w bs 0 _ _ (.bool true) h.box;have b2:=heap_setCell_same _ bs 1 _ _ vo' b1;exact⟨h.mem,h.lt,b2,(hl.moves (Moves.store w 0 _ h.mem)).moves (Moves.store _ 1 _ h.mem),hn,h1,(h.pas.store 0 _ h.mem h.lt).store 1 _ h.mem h.lt,h.nil⟩
theorem SS.passes {F bs:Nat}{tops tops':List Nat}{w w':World}{s:Script}{vo vp vp':Value}{rvs rvs':List Value}{ps:List Pass}(h:SS F bs tops w s vo vp rvs)(hm:Moves tops w tops' w')(hb:Below F w w')(hp:PS F tops' w' vp' ps rvs')(hne:ps≠ []) :
  SS F bs tops' (w'.setCell ⟨bs,2,none⟩ vp') ⟨s.has,s.only,ps⟩ vo vp' rvs':=by
 have hmem:=hm.2.2.2 bs h.mem;have bx:w'.heap[bs]?=some (.cells #[.bool s.has,vo,vp] 30):=(hb.block bs h.lt).trans h.box;have b1:=heap_setCell_same w' bs 2 _ _ vp' bx;exact⟨hmem,h.lt,b1,(h.only.moves hm).moves (Moves.store w' 2 _ hmem),h.few,h.one,hp.store 2 _ hmem h.lt,fun e=>absurd e hne⟩
theorem zr7 (ps:List Pass)(r:K.Rule):putP ps r≠ []:=by
 unfold putP;split
 ·split <;> simp
 ·simp
theorem Leaf.zgq {tops:List Nat}{w w':World}{Q:World->Prop}(h:R.Stays w.heap.size none w' Q)(ht:∀k∈tops,k<w.heap.size)(hs:w.heap.size<=w'.heap.size):Leaf tops w' Q :=
 fun W h1 h2=>h W fun b hb1 hb2 _=>h2 b hb2 fun hm=>by have:=ht b hm;omega
end V
end Go.Proofs.YteagjpnbiceafaaGreatDoor
namespace Go.Proofs.YteagjpnbiceafaaGreatDoor
open Go.RowKit Go.Lib
def V.unk (f:ByteArray->Option Value) (x:R.Item):Bool:=decide (x.kind=3)&& !(f x.name).isSome
def V.MapBox (w:World) (bm:Nat) (f:ByteArray->Option Value):Prop:=∃B n,w.cell? ⟨bm,0,none⟩=some (.map (some B))/\V.MapIs w B n f
theorem V.MapBox.below {w w':World}{bm:Nat}{f:ByteArray->Option Value}(h:V.MapBox w bm f)(hb:Below w.heap.size w w'):V.MapBox w' bm f:=by
 obtain⟨B,n,h1,h2⟩:=h;refine⟨B,n,?_,h2.below hb h2.lt⟩;rw[hb.cell (p:=⟨bm,0,none⟩) (L.block_lt h1)];exact h1
theorem zrs (w:World)(x:R.Item)(so:Option Addr)(sc bm:Nat)(f:ByteArray->Option Value)(HV:V.MapBox w bm f)(hn:x.name.size<=140737488355328) :
  Calls Tryz.prog 92 #[.agg #[.int .i64 x.kind,.int .i32 x.rune,.slice so x.set.length sc,.string x.name],.pointer (some ⟨bm,0,none⟩)] w fun e w'=>e= .returned (.bool (V.unk f x))/\Below w.heap.size w w':=by
 obtain⟨B,n,hm,hM⟩:=HV;obtain⟨xk,xr,xs,xn⟩:=x;simp only at hn ⊢;have bA:Below w.heap.size w (w.alloc (.cells #[.int .i64 xk,.int .i32 xr,.slice so xs.length sc,.string xn] 145)):=(qR w).alloc qN _;have hlook:=(hM.below bA hM.lt).look_ok xn hn;have hbm:bm<w.heap.size:=L.block_lt hm;have HbA:Hid _:=bA;clear hM bA;have hV:V.unk f ⟨xk,xr,xs,xn⟩=(decide (xk=3)&& !(f xn).isSome):=rfl;rw[hV];clear hV;generalize (f xn).getD (.slice none 0 0)=gv at hlook;generalize (f xn).isSome=gb at hlook
 by_cases h3:xk=3
 ·subst h3
  go_enter Tryz.func92,Tryz.ntmps92
  go_wp2;go_ret
  exact⟨by simp,HbA.out⟩
 ·go_enter Tryz.func92,Tryz.ntmps92
  go_wp2;go_ret
  exact⟨by simp[h3],HbA.out⟩
theorem zm5 (w:World)(v:Value)(l:List R.Item)(bm:Nat)(f:ByteArray->Option Value)(HV:V.MapBox w bm f)(RR:R.Its w v l)(hl:l.length<=140737488355328) :
  Calls Tryz.prog 144 #[v,.func (.func 92) #[] #[.pointer (some ⟨bm,0,none⟩)]] w fun e w'=>∃i:Int,e= .returned (.int .i64 i)/\decide (0<=i)=l.any (V.unk f)/\Below w.heap.size w w':=by
 have HR:Hid (R.Its w v l):=RR;have HVs:Hid (V.MapBox w bm f):=HV;obtain⟨ao,ca,rfl⟩:=RR.len;clear RR HV
 go_enter Tryz.func144,Tryz.ntmps144
 go_wp2
 go_loopw [8] (fun i wr=>∃k:Nat,k<=l.length/\i= .int .i64 k/\Hid ((l.take k).any (V.unk f)=false/\Below w.heap.size w wr)) (fun i _=>l.length - (RowKit.intOf i).toNat)
 case atStart=>exact⟨0,Nat.zero_le _,rfl,by simp,qR w⟩
 case round =>
  obtain⟨k,hk,rfl,HB⟩:=hrel
  by_cases hlt:k<l.length
  ·obtain⟨x,hx⟩:∃x,l[k]?=some x:=⟨l[k],by simp[hlt]⟩;obtain⟨ao',ca',e',hcs⟩:=HR.out.below HB.out.2;cases e';obtain⟨b,off,rfl,hcell⟩:=hcs (by intro h;subst h;simp at hlt);obtain⟨c0,c1,c3,⟨so,sc,c2,r2⟩,hf,hnm⟩:=hcell k x hx;have HL:Hid (Calls Tryz.prog 92 #[.agg #[.int .i64 x.kind,.int .i32 x.rune,.slice so x.set.length sc,.string x.name],.pointer (some ⟨bm,0,none⟩)] wr fun e w'=>e= .returned (.bool (V.unk f x))/\Below wr.heap.size wr w'):=zrs wr x so sc bm f (HVs.out.below HB.out.2) hnm;clear hcell hcs r2 hf hnm
   have HT:Hid ((l.take (k+1)).any (V.unk f)=V.unk f x/\(V.unk f x=true->l.any (V.unk f)=true)):=by
    refine⟨?_,fun h=>List.any_eq_true.2 ⟨x,List.mem_of_getElem? hx,h⟩⟩;rw[List.take_add_one,hx,List.any_append,HB.out.1];simp
   clear hx;generalize V.unk f x=ub at HL HT;obtain⟨xk,xr,xs,xn⟩:=x;simp only at c0 c1 c2 c3 HL
   go_wp2_with fail
   refine HL.out.mono ?_;rintro e w5 ⟨rfl,b5⟩;have HB5:Hid (Below w.heap.size w w5):=HB.out.2.trans (b5.mono HB.out.2.size);clear b5 c0 c1 c2 c3;cases ub
   ·have HT2:Hid ((l.take (k+1)).any (V.unk f)=false):=HT.out.1;clear HT;go_wp2
    go_roundw
    case rel=>exact⟨k+1,by omega,by go_num,HT2.out,HB5.out⟩
    case measure=>simp[RowKit.intOf];omega
   ·have HT2:Hid (l.any (V.unk f)=true):=HT.out.2 rfl;clear HT;go_wp2;go_ret;exact⟨k,rfl,by rw[HT2.out];simp,HB5.out⟩
  ·have hkl:k=l.length:=by omega
   subst hkl;go_wp2;go_ret;exact⟨-1,rfl,by have:=HB.out.1;rw[List.take_length] at this;rw[this];rfl,HB.out.2⟩
theorem zeb (w:World)(v:Value)(l:List R.Item)(bm:Nat)(f:ByteArray->Option Value)(HV:V.MapBox w bm f)(RR:R.Its w v l)(hl:l.length<=140737488355328) :
  Calls Tryz.prog 120 #[v,.func (.func 92) #[] #[.pointer (some ⟨bm,0,none⟩)]] w fun e w'=>e= .returned (.bool (l.any (V.unk f)))/\Below w.heap.size w w':=by
 have h:=zm5 w v l bm f HV RR hl;obtain⟨aa,ca,rfl⟩:=RR.len;clear RR HV
 go_enter Tryz.func120,Tryz.ntmps120
 go_wp2_with fail
 refine h.mono ?_;rintro e w1 ⟨i,rfl,hi,hb⟩;have HI:Hid _:=hi;clear hi;go_wp2;go_ret;exact⟨L.zak HI.out,hb⟩
def V.unkS (f:ByteArray->Option Value) (s:R.Side):Bool:=s.before.any (V.unk f)||s.source.any (V.unk f)||s.after.any (V.unk f)
theorem zew (w:World)(v:Value)(s:R.Side)(bm:Nat)(f:ByteArray->Option Value)(HV:V.MapBox w bm f)(RR:R.SdIs w v s)(hl:s.before.length<=140737488355328/\s.source.length<=140737488355328/\s.after.length<=140737488355328) :
  Calls Tryz.prog 94 #[v,.func (.func 92) #[] #[.pointer (some ⟨bm,0,none⟩)]] w fun e w'=>e= .returned (.bool (V.unkS f s))/\Below w.heap.size w w':=by
 obtain⟨bo,bc,so,sc,ao,ac,rfl,i1,i2,i3,_⟩:=RR;have H1:Hid (∀W,Below w.heap.size w W->Calls Tryz.prog 120 #[.slice bo s.before.length bc,.func (.func 92) #[] #[.pointer (some ⟨bm,0,none⟩)]] W fun e w'=>e= .returned (.bool (s.before.any (V.unk f)))/\Below W.heap.size W w'):=fun W hW=>zeb W _ s.before bm f (HV.below hW) (i1.below hW) hl.1
 have H2:Hid (∀W,Below w.heap.size w W->Calls Tryz.prog 120 #[.slice so s.source.length sc,.func (.func 92) #[] #[.pointer (some ⟨bm,0,none⟩)]] W fun e w'=>e= .returned (.bool (s.source.any (V.unk f)))/\Below W.heap.size W w'):=fun W hW=>zeb W _ s.source bm f (HV.below hW) (i2.below hW) hl.2.1
 have H3:Hid (∀W,Below w.heap.size w W->Calls Tryz.prog 120 #[.slice ao s.after.length ac,.func (.func 92) #[] #[.pointer (some ⟨bm,0,none⟩)]] W fun e w'=>e= .returned (.bool (s.after.any (V.unk f)))/\Below W.heap.size W w'):=fun W hW=>zeb W _ s.after bm f (HV.below hW) (i3.below hW) hl.2.2
 have hV:V.unkS f s=(s.before.any (V.unk f)||s.source.any (V.unk f)||s.after.any (V.unk f)):=rfl;rw[hV];clear hV i1 i2 i3 hl HV;generalize s.before.any (V.unk f)=u1 at *;generalize s.source.any (V.unk f)=u2 at *;generalize s.after.any (V.unk f)=u3 at *;obtain⟨st,fi,be,sr,af,cu⟩:=s;simp only at H1 H2 H3;have hX:=K.zay (qR (w.alloc (.cells #[.bool st,.bool fi,.slice bo be.length bc,.slice so sr.length sc,.slice ao af.length ac,.int .i64 cu] 105)));have HX:Hid _:=hX;clear hX
 go_enter Tryz.func94,Tryz.ntmps94
 go_wp2_with fail
 refine(H1.out _ HX.out.2.1).mono ?_;rintro e w1 ⟨rfl,b1⟩;have B1:=HX.out.2.1.trans (b1.mono HX.out.2.1.size);have y1:=K.zae HX.out.1 b1;have p3:=K.zaf (i:=3) y1 rfl;have HY:Hid _:=And.intro y1 B1;clear y1 B1 b1;cases u1
 ·go_wp2_with fail
  refine(H2.out _ HY.out.2).mono ?_;rintro e w2 ⟨rfl,b2⟩;have B2:=HY.out.2.trans (b2.mono HY.out.2.size);have y1:=K.zae HY.out.1 b2;have p4:=K.zaf (i:=4) y1 rfl;have HZ:Hid (Below w.heap.size w w2):=B2;clear y1 B2 b2 p3;cases u2
  ·go_wp2_with fail
   refine(H3.out _ HZ.out).mono ?_;rintro e w3 ⟨rfl,b3⟩;have HB3:Hid (Below w.heap.size w w3):=HZ.out.trans (b3.mono HZ.out.size);clear b3;go_wp2;go_ret;exact⟨by simp,HB3.out⟩
  ·go_wp2;go_ret
   exact⟨by simp,HZ.out⟩
 ·have HB1:Hid (Below w.heap.size w w1):=HY.out.2;go_wp2;go_ret;exact⟨by simp,HB1.out⟩
end Go.Proofs.YteagjpnbiceafaaGreatDoor
namespace Go.Proofs.YteagjpnbiceafaaGreatDoor
open Go.RowKit Go.Lib
def V.Env (w:World) (bm bf bu B n:Nat) (f:ByteArray->Option Value) (flt:Bool):Prop :=
 w.cell? ⟨bm,0,none⟩=some (.map (some B))/\w.heap[bf]?=some (.cells #[.bool flt] 4)/\w.cell? ⟨bu,0,none⟩=some (.func (.func 92) #[] #[.pointer (some ⟨bm,0,none⟩)])/\V.MapIs w B n f/\bm≠bf/\bu≠bf/\bm≠B/\bu≠B/\bf≠B
theorem V.Env.below {w w':World}{bm bf bu B n:Nat}{f:ByteArray->Option Value}{flt:Bool}(h:V.Env w bm bf bu B n f flt)(hb:Below w.heap.size w w'):V.Env w' bm bf bu B n f flt:=by
 obtain⟨h1,h2,h3,h4,h5⟩:=h;refine⟨?_,K.zae h2 hb,?_,h4.below hb h4.lt,h5⟩
 ·rw[hb.cell (p:=⟨bm,0,none⟩) (L.block_lt h1)];exact h1
 ·rw[hb.cell (p:=⟨bu,0,none⟩) (L.block_lt h3)];exact h3
theorem V.Env.put {w w':World}{bm bf bu B n:Nat}{f g:ByteArray->Option Value}{flt:Bool}(h:V.Env w bm bf bu B n f flt)(hg:w.grownBy w' (some B))(hm:V.MapIs w' B (n+1) g):V.Env w' bm bf bu B (n+1) g flt:=by
 obtain⟨h1,h2,h3,h4,h5,h6,h7,h8,h9⟩:=h;refine⟨?_,?_,?_,hm,h5,h6,h7,h8,h9⟩
 ·rw[World.cell?_of_block (a:=⟨bm,0,none⟩) (hg.block bm (L.block_lt h1) (by simpa using h7))];exact h1
 ·rw[hg.block bf (qA.1 h2).1 (by simpa using h9)];exact h2
 ·rw[World.cell?_of_block (a:=⟨bu,0,none⟩) (hg.block bu (L.block_lt h3) (by simpa using h8))];exact h3
def V.setVal:Value->Value
 | .agg cs=>(cs[2]?).getD undef
 | _=>undef
theorem zqc (w:World)(v:Value)(p:R.Part)(bm bf bu B n:Nat)(f:ByteArray->Option Value)(flt:Bool)(HE:V.Env w bm bf bu B n f flt)(RR:R.PtIs w v p)(hk:p.kind=1)(hn:n<=140737488355327)(F:Nat)(hF:F<=B/\F<=w.heap.size) :
  Calls Tryz.prog 93 #[v,.pointer (some ⟨bm,0,none⟩),.pointer (some ⟨bf,0,none⟩),.pointer (some ⟨bu,0,none⟩)] w fun e w' =>
   (((f p.name).isSome=true/\e= .returned (.int .i64 7)/\V.Env w' bm bf bu B n f flt)∨((f p.name).isSome=false/\e= .returned (.int .i64 0)/\∃so sc,V.setVal v= .slice so p.set.length sc/\S.Rd w (.slice so p.set.length sc) p.set/\V.Env w' bm bf bu B (n+1) (fun t=>if t=p.name then some (.slice so p.set.length sc) else f t) flt))/\Below F w w':=by
 obtain⟨so,sc,lbo,lbc,lso,lsc,lao,lac,rbo,rbc,rso,rsc,rao,rac,rfl,RS,_,_,_,hnm,_⟩:=RR.open;obtain⟨pk,pn,ps,pd,⟨lst,lfi,lbe,lsr,laf,lcu⟩,⟨rst,rfi,rbe,rsr,raf,rcu⟩⟩:=p;simp only at hk hnm RS ⊢;subst hk;have bA:Below w.heap.size w (w.alloc (.cells #[.int .i64 1,.string pn,.slice so ps.length sc,.int .i64 pd,.bool lst,.bool lfi,.slice lbo lbe.length lbc,.slice lso lsr.length lsc,.slice lao laf.length lac,.int .i64 lcu,.bool rst,.bool rfi,.slice rbo rbe.length rbc,.slice rso rsr.length rsc,.slice rao raf.length rac,.int .i64 rcu] 107)):=(qR w).alloc qN _;have HE0:Hid (V.Env (w.alloc (.cells #[.int .i64 1,.string pn,.slice so ps.length sc,.int .i64 pd,.bool lst,.bool lfi,.slice lbo lbe.length lbc,.slice lso lsr.length lsc,.slice lao laf.length lac,.int .i64 lcu,.bool rst,.bool rfi,.slice rbo rbe.length rbc,.slice rso rsr.length rsc,.slice rao raf.length rac,.int .i64 rcu] 107)) bm bf bu B n f flt/\Below w.heap.size w (w.alloc (.cells #[.int .i64 1,.string pn,.slice so ps.length sc,.int .i64 pd,.bool lst,.bool lfi,.slice lbo lbe.length lbc,.slice lso lsr.length lsc,.slice lao laf.length lac,.int .i64 lcu,.bool rst,.bool rfi,.slice rbo rbe.length rbc,.slice rso rsr.length rsc,.slice rao raf.length rac,.int .i64 rcu] 107))):=⟨HE.below bA,bA⟩;have hcm:=HE.1;have hbm:bm<w.heap.size:=L.block_lt hcm;have hlook:=HE0.out.1.2.2.2.1.look_ok pn hnm;obtain⟨W1,hrun,hM1,hg1⟩:=HE0.out.1.2.2.2.1.put pn hnm (by omega) (.slice so ps.length sc);have HM1:Hid (V.MapIs W1 B (n+1) (fun t=>if t=pn then some (.slice so ps.length sc) else f t)/\(w.alloc (.cells #[.int .i64 1,.string pn,.slice so ps.length sc,.int .i64 pd,.bool lst,.bool lfi,.slice lbo lbe.length lbc,.slice lso lsr.length lsc,.slice lao laf.length lac,.int .i64 lcu,.bool rst,.bool rfi,.slice rbo rbe.length rbc,.slice rso rsr.length rsc,.slice rao raf.length rac,.int .i64 rcu] 107)).grownBy W1 (some B)):=⟨hM1,hg1⟩;have HRS:Hid (S.Rd w (.slice so ps.length sc) ps):=RS;clear bA RS hM1 hg1 RR HE;generalize (f pn).getD (.slice none 0 0)=gv at hlook;cases hfs:(f pn).isSome with
 | true =>
  rw[hfs] at hlook;have HF:Hid ((f pn).isSome=true):=hfs;clear hrun hfs
  go_enter Tryz.func93,Tryz.ntmps93
  go_wp2;go_ret
  exact⟨⟨rfl,HE0.out.1⟩,HE0.out.2.mono hF.2⟩
 | false =>
  rw[hfs] at hlook;have HF:Hid ((f pn).isSome=false):=hfs;clear hfs
  go_enter Tryz.func93,Tryz.ntmps93
  go_wp2;go_ret
  exact⟨⟨rfl,so,sc,rfl,HRS.out,HE0.out.1.put HM1.out.2 HM1.out.1⟩,Below.grown (HE0.out.2.mono hF.2) HM1.out.2 (Nat.le_trans hF.2 HE0.out.2.size) (fun j hj=>by have h2:B=j:=Option.some.inj hj;omega)⟩
theorem V.Env.set {w:World}{bm bf bu B n:Nat}{f:ByteArray->Option Value}{flt:Bool}(h:V.Env w bm bf bu B n f flt)(b:Bool):V.Env (w.setCell ⟨bf,0,none⟩ (.bool b)) bm bf bu B n f b/\w.grownBy (w.setCell ⟨bf,0,none⟩ (.bool b)) (some bf):=by
 obtain⟨h1,h2,h3,h4,h5,h6,h7,h8,h9⟩:=h;have hg:=R.zaj w bf 0 (.bool b);refine⟨⟨?_,heap_setCell_same w bf 0 _ _ _ h2,?_,h4.block (hg.block B h4.lt (by simpa using Ne.symm h9)),h5,h6,h7,h8,h9⟩,hg⟩
 ·rw[World.cell?_of_block (a:=⟨bm,0,none⟩) (hg.block bm (L.block_lt h1) (by simpa using h5))];exact h1
 ·rw[World.cell?_of_block (a:=⟨bu,0,none⟩) (hg.block bu (L.block_lt h3) (by simpa using h6))];exact h3
theorem zi3 (w:World)(v:Value)(p:R.Part)(bm bf bu B n:Nat)(f:ByteArray->Option Value)(flt:Bool)(HE:V.Env w bm bf bu B n f flt)(RR:R.PtIs w v p)(hk:p.kind=3)(F:Nat)(hF:F<=bf/\F<=w.heap.size) :
  Calls Tryz.prog 93 #[v,.pointer (some ⟨bm,0,none⟩),.pointer (some ⟨bf,0,none⟩),.pointer (some ⟨bu,0,none⟩)] w fun e w' =>
   e= .returned (.int .i64 (if flt=true then 5 else 0))/\V.Env w' bm bf bu B n f true/\Below F w w':=by
 obtain⟨so,sc,lbo,lbc,lso,lsc,lao,lac,rbo,rbc,rso,rsc,rao,rac,rfl,RS,_,hL,hR,hnm,_⟩:=RR.open;obtain⟨pk,pn,ps,pd,⟨lst,lfi,lbe,lsr,laf,lcu⟩,⟨rst,rfi,rbe,rsr,raf,rcu⟩⟩:=p;simp only at hk;subst hk;have bA:Below w.heap.size w (w.alloc (.cells #[.int .i64 3,.string pn,.slice so ps.length sc,.int .i64 pd,.bool lst,.bool lfi,.slice lbo lbe.length lbc,.slice lso lsr.length lsc,.slice lao laf.length lac,.int .i64 lcu,.bool rst,.bool rfi,.slice rbo rbe.length rbc,.slice rso rsr.length rsc,.slice rao raf.length rac,.int .i64 rcu] 107)):=(qR w).alloc qN _;have HE0:Hid (V.Env (w.alloc (.cells #[.int .i64 3,.string pn,.slice so ps.length sc,.int .i64 pd,.bool lst,.bool lfi,.slice lbo lbe.length lbc,.slice lso lsr.length lsc,.slice lao laf.length lac,.int .i64 lcu,.bool rst,.bool rfi,.slice rbo rbe.length rbc,.slice rso rsr.length rsc,.slice rao raf.length rac,.int .i64 rcu] 107)) bm bf bu B n f flt/\Below w.heap.size w (w.alloc (.cells #[.int .i64 3,.string pn,.slice so ps.length sc,.int .i64 pd,.bool lst,.bool lfi,.slice lbo lbe.length lbc,.slice lso lsr.length lsc,.slice lao laf.length lac,.int .i64 lcu,.bool rst,.bool rfi,.slice rbo rbe.length rbc,.slice rso rsr.length rsc,.slice rao raf.length rac,.int .i64 rcu] 107))):=⟨HE.below bA,bA⟩;have hcf:w.cell? ⟨bf,0,none⟩=some (.bool flt):=R.zab HE.2.1 rfl;have hff:w.frozen? ⟨bf,0,none⟩=false:=R.zac HE.2.1;have hbf:bf<w.heap.size:=L.block_lt hcf;have HEw:Hid (V.Env w bm bf bu B n f flt):=HE;clear bA RS RR HE hL hR;cases flt
 ·go_enter Tryz.func93,Tryz.ntmps93
  go_wp2;go_ret
  have h:=HEw.out.set true;have hb:=Below.grown (Below.refl F w) h.2 hF.2 (fun j hj=>by have h2:bf=j:=Option.some.inj hj;omega);exact⟨rfl,h.1.below ((qR _).alloc qN _),hb.alloc (Nat.le_trans hF.2 h.2.size) _⟩
 ·go_enter Tryz.func93,Tryz.ntmps93
  go_wp2;go_ret
  exact⟨rfl,HE0.out.1,HE0.out.2.mono hF.2⟩
theorem zn6 (w:World)(v:Value)(p:R.Part)(bm bf bu B n:Nat)(f:ByteArray->Option Value)(flt:Bool)(HE:V.Env w bm bf bu B n f flt)(RR:R.PtIs w v p)(hk:p.kind≠1/\p.kind≠2/\p.kind≠3) :
  Calls Tryz.prog 93 #[v,.pointer (some ⟨bm,0,none⟩),.pointer (some ⟨bf,0,none⟩),.pointer (some ⟨bu,0,none⟩)] w fun e w' =>
   e= .returned (.int .i64 0)/\V.Env w' bm bf bu B n f flt/\Below w.heap.size w w':=by
 obtain⟨so,sc,lbo,lbc,lso,lsc,lao,lac,rbo,rbc,rso,rsc,rao,rac,rfl,RS,_,hL,hR,hnm,_⟩:=RR.open;obtain⟨pk,pn,ps,pd,⟨lst,lfi,lbe,lsr,laf,lcu⟩,⟨rst,rfi,rbe,rsr,raf,rcu⟩⟩:=p;simp only at hk;obtain⟨k1,k2,k3⟩:=hk;have bA:Below w.heap.size w (w.alloc (.cells #[.int .i64 pk,.string pn,.slice so ps.length sc,.int .i64 pd,.bool lst,.bool lfi,.slice lbo lbe.length lbc,.slice lso lsr.length lsc,.slice lao laf.length lac,.int .i64 lcu,.bool rst,.bool rfi,.slice rbo rbe.length rbc,.slice rso rsr.length rsc,.slice rao raf.length rac,.int .i64 rcu] 107)):=(qR w).alloc qN _;have HE0:Hid (V.Env (w.alloc (.cells #[.int .i64 pk,.string pn,.slice so ps.length sc,.int .i64 pd,.bool lst,.bool lfi,.slice lbo lbe.length lbc,.slice lso lsr.length lsc,.slice lao laf.length lac,.int .i64 lcu,.bool rst,.bool rfi,.slice rbo rbe.length rbc,.slice rso rsr.length rsc,.slice rao raf.length rac,.int .i64 rcu] 107)) bm bf bu B n f flt/\Below w.heap.size w (w.alloc (.cells #[.int .i64 pk,.string pn,.slice so ps.length sc,.int .i64 pd,.bool lst,.bool lfi,.slice lbo lbe.length lbc,.slice lso lsr.length lsc,.slice lao laf.length lac,.int .i64 lcu,.bool rst,.bool rfi,.slice rbo rbe.length rbc,.slice rso rsr.length rsc,.slice rao raf.length rac,.int .i64 rcu] 107))):=⟨HE.below bA,bA⟩;clear bA RS RR HE hL hR
 go_enter Tryz.func93,Tryz.ntmps93
 go_wp2;go_ret
 exact⟨rfl,HE0.out.1,HE0.out.2⟩
def V.Few (s:R.Side):Prop:=s.before.length<=140737488355328/\s.source.length<=140737488355328/\s.after.length<=140737488355328
theorem zn5 (w:World)(v:Value)(p:R.Part)(bm bf bu B n:Nat)(f:ByteArray->Option Value)(flt:Bool)(HE:V.Env w bm bf bu B n f flt)(RR:R.PtIs w v p)(hk:p.kind=2)(hl:V.Few p.left/\V.Few p.right) :
  Calls Tryz.prog 93 #[v,.pointer (some ⟨bm,0,none⟩),.pointer (some ⟨bf,0,none⟩),.pointer (some ⟨bu,0,none⟩)] w fun e w' =>
   e= .returned (.int .i64 (if (V.unkS f p.left||V.unkS f p.right)=true then 7 else 0))/\V.Env w' bm bf bu B n f flt/\Below w.heap.size w w':=by
 obtain⟨so,sc,lbo,lbc,lso,lsc,lao,lac,rbo,rbc,rso,rsc,rao,rac,rfl,RS,_,hL,hR,hnm,_⟩:=RR.open;have H1:Hid (∀W,Below w.heap.size w W->Calls Tryz.prog 94 #[.agg #[.bool p.left.start,.bool p.left.fin,.slice lbo p.left.before.length lbc,.slice lso p.left.source.length lsc,.slice lao p.left.after.length lac,.int .i64 p.left.cursor],.func (.func 92) #[] #[.pointer (some ⟨bm,0,none⟩)]] W fun e w'=>e= .returned (.bool (V.unkS f p.left))/\Below W.heap.size W w'):=fun W hW=>zew W _ p.left bm f (V.MapBox.below ⟨B,n,HE.1,HE.2.2.2.1⟩ hW) (hL.below hW) hl.1
 have H2:Hid (∀W,Below w.heap.size w W->Calls Tryz.prog 94 #[.agg #[.bool p.right.start,.bool p.right.fin,.slice rbo p.right.before.length rbc,.slice rso p.right.source.length rsc,.slice rao p.right.after.length rac,.int .i64 p.right.cursor],.func (.func 92) #[] #[.pointer (some ⟨bm,0,none⟩)]] W fun e w'=>e= .returned (.bool (V.unkS f p.right))/\Below W.heap.size W w'):=fun W hW=>zew W _ p.right bm f (V.MapBox.below ⟨B,n,HE.1,HE.2.2.2.1⟩ hW) (hR.below hW) hl.2
 generalize V.unkS f p.left=u1 at *;generalize V.unkS f p.right=u2 at *;obtain⟨pk,pn,ps,pd,⟨lst,lfi,lbe,lsr,laf,lcu⟩,⟨rst,rfi,rbe,rsr,raf,rcu⟩⟩:=p;simp only at hk H1 H2;subst hk;have bA:Below w.heap.size w (w.alloc (.cells #[.int .i64 2,.string pn,.slice so ps.length sc,.int .i64 pd,.bool lst,.bool lfi,.slice lbo lbe.length lbc,.slice lso lsr.length lsc,.slice lao laf.length lac,.int .i64 lcu,.bool rst,.bool rfi,.slice rbo rbe.length rbc,.slice rso rsr.length rsc,.slice rao raf.length rac,.int .i64 rcu] 107)):=(qR w).alloc qN _;have HX:Hid ((w.alloc (.cells #[.int .i64 2,.string pn,.slice so ps.length sc,.int .i64 pd,.bool lst,.bool lfi,.slice lbo lbe.length lbc,.slice lso lsr.length lsc,.slice lao laf.length lac,.int .i64 lcu,.bool rst,.bool rfi,.slice rbo rbe.length rbc,.slice rso rsr.length rsc,.slice rao raf.length rac,.int .i64 rcu] 107)).heap[w.heap.size]?=some (.cells #[.int .i64 2,.string pn,.slice so ps.length sc,.int .i64 pd,.bool lst,.bool lfi,.slice lbo lbe.length lbc,.slice lso lsr.length lsc,.slice lao laf.length lac,.int .i64 lcu,.bool rst,.bool rfi,.slice rbo rbe.length rbc,.slice rso rsr.length rsc,.slice rao raf.length rac,.int .i64 rcu] 107)/\Below w.heap.size w (w.alloc (.cells #[.int .i64 2,.string pn,.slice so ps.length sc,.int .i64 pd,.bool lst,.bool lfi,.slice lbo lbe.length lbc,.slice lso lsr.length lsc,.slice lao laf.length lac,.int .i64 lcu,.bool rst,.bool rfi,.slice rbo rbe.length rbc,.slice rso rsr.length rsc,.slice rao raf.length rac,.int .i64 rcu] 107))):=⟨heap_alloc_new w _,bA⟩;have HEw:Hid (V.Env w bm bf bu B n f flt):=HE;have hcu:=HE.2.2.1;have hbu:bu<w.heap.size:=L.block_lt hcu;clear bA RS RR HE hL hR hl
 go_enter Tryz.func93,Tryz.ntmps93
 go_wp2_with fail
 refine(H1.out _ HX.out.2).mono ?_;rintro e w1 ⟨rfl,b1⟩;have y1:=K.zae HX.out.1 b1;have B1:=HX.out.2.trans (b1.mono HX.out.2.size);have p10:=K.zaf (i:=10) y1 rfl;have p11:=K.zaf (i:=11) y1 rfl;have p12:=K.zaf (i:=12) y1 rfl;have p13:=K.zaf (i:=13) y1 rfl;have p14:=K.zaf (i:=14) y1 rfl;have p15:=K.zaf (i:=15) y1 rfl;have hcu1:w1.cell? ⟨bu,0,none⟩=some (.func (.func 92) #[] #[.pointer (some ⟨bm,0,none⟩)]):=by rw[B1.cell (p:=⟨bu,0,none⟩) hbu];exact hcu
 have HB1:Hid (Below w.heap.size w w1):=B1;clear y1 b1 B1 hcu HX;cases u1
 ·go_wp2_with fail
  refine(H2.out _ HB1.out).mono ?_;rintro e w2 ⟨rfl,b2⟩;have HB2:Hid (Below w.heap.size w w2):=HB1.out.trans (b2.mono HB1.out.size);clear b2 p10 p11 p12 p13 p14 p15 hcu1;cases u2
  ·go_wp2;go_ret
   exact⟨rfl,HEw.out.below HB2.out,HB2.out⟩
  ·go_wp2;go_ret
   exact⟨rfl,HEw.out.below HB2.out,HB2.out⟩
 ·clear p10 p11 p12 p13 p14 p15 hcu1;go_wp2;go_ret;exact⟨rfl,HEw.out.below HB1.out,HB1.out⟩
end Go.Proofs.YteagjpnbiceafaaGreatDoor
namespace Go.Proofs.YteagjpnbiceafaaGreatDoor
open Go.RowKit Go.Lib
theorem zlz (w:World)(B:Nat):Calls Tryz.prog 59 #[.map (some B)] w fun e w'=>e= .returned (.func (.func 95) #[] #[.pointer (some ⟨w.heap.size,0,none⟩)])/\w'=w.alloc (.cells #[.map (some B)] 70):=by
 go_enter Tryz.func59,Tryz.ntmps59
 go_wp2;go_ret
 exact⟨rfl,rfl⟩
theorem zn2 (w:World)(B n:Nat)(f:ByteArray->Option Value)(HM:V.MapIs w B n f) :
  Calls Tryz.prog 58 #[.map (some B)] w fun e w'=>e= .returned (.func (.func 93) #[] #[.pointer (some ⟨w.heap.size,0,none⟩),.pointer (some ⟨w.heap.size+1,0,none⟩),.pointer (some ⟨w.heap.size+2,0,none⟩)]) /\
   V.Env w' w.heap.size (w.heap.size+1) (w.heap.size+2) B n f false/\Below w.heap.size w w'/\w'.heap.size=w.heap.size+3:=by
 have HMs:Hid (V.MapIs w B n f):=HM;clear HM
 go_enter Tryz.func58,Tryz.ntmps58
 go_wp2;go_ret
 have hlt:=HMs.out.lt;have b1:Below w.heap.size w (w.alloc (.cells #[.map (some B)] 70)):=(qR w).alloc qN _;have x:=K.zba (qR (((w.alloc (.cells #[.map (some B)] 70)).alloc (.cells #[.bool false] 4)).alloc (.cells #[.func (.func 92) #[] #[.pointer (some ⟨w.heap.size,0,none⟩)]] 147)));have hs1:(w.alloc (.cells #[.map (some B)] 70)).heap.size=w.heap.size+1:=by simp
 rw[hs1] at x;have hbb:Below w.heap.size w (((w.alloc (.cells #[.map (some B)] 70)).alloc (.cells #[.bool false] 4)).alloc (.cells #[.func (.func 92) #[] #[.pointer (some ⟨w.heap.size,0,none⟩)]] 147)):=b1.trans (x.2.2.1.mono (by omega));have h0:=(x.2.2.1.block w.heap.size (by omega)).trans (heap_alloc_new w (.cells #[.map (some B)] 70));refine⟨rfl,⟨K.zaf (i:=0) h0 rfl,x.1,K.zaf (i:=0) x.2.1 rfl,HMs.out.below hbb hlt,by omega,by omega,by omega,by omega,by omega⟩,hbb,by simp⟩
end Go.Proofs.YteagjpnbiceafaaGreatDoor
