import Derived.Test.YtcadaallpiekiaaGreatDoorVHas
import Derived.Laws.EntriesVeiled
import Derived.Test.YtcadaallpiekiaaGreatDoorRWrong3
set_option maxHeartbeats 0
set_option maxRecDepth 20000
set_option linter.unusedSimpArgs false
set_option linter.unusedVariables false
namespace Go.Proofs.YtcadaallpiekiaaGreatDoor
open Go.Proofs.Tryz
section
open Go.RowKit Go.Lib
def V.Env (w:World) (bm bf bu B n:Nat) (f:ByteArray->Option Value) (flt:Bool):Prop :=
 w.cell? ⟨bm,0,none⟩=some (.map (some B))/\w.heap[bf]?=some (.cells #[.bool flt] 4)/\w.cell? ⟨bu,0,none⟩=some (.func (.func 88) #[] #[.pointer (some ⟨bm,0,none⟩)])/\V.MapIs w B n f/\bm≠bf/\bu≠bf/\bm≠B/\bu≠B/\bf≠B
theorem V.Env.below {w w':World}{bm bf bu B n:Nat}{f:ByteArray->Option Value}{flt:Bool}(h:V.Env w bm bf bu B n f flt)(hb:Bl w w'):V.Env w' bm bf bu B n f flt:=by
 obtain⟨h1,h2,h3,h4,h5⟩:=h;refine⟨?_,K.zae h2 hb,?_,h4.below hb h4.lt,h5⟩
 ·rw[hb.cell (p:=⟨bm,0,none⟩) (L.block_lt h1)];exact h1
 ·rw[hb.cell (p:=⟨bu,0,none⟩) (L.block_lt h3)];exact h3
theorem V.Env.put {w w':World}{bm bf bu B n:Nat}{f g:ByteArray->Option Value}{flt:Bool}(h:V.Env w bm bf bu B n f flt)(hg:w.grownBy w' (some B))(hm:V.MapIs w' B (n+1) g):V.Env w' bm bf bu B (n+1) g flt:=by
 obtain⟨h1,h2,h3,h4,h5,h6,h7,h8,h9⟩:=h;refine⟨?_,?_,?_,hm,h5,h6,h7,h8,h9⟩
 ·rw[World.cell?_of_block (a:=⟨bm,0,none⟩) (hg.block bm (L.block_lt h1) (by simpa using h7))];exact h1
 ·rw[hg.block bf (qA.1 h2).1 (by simpa using h9)];exact h2
 ·rw[World.cell?_of_block (a:=⟨bu,0,none⟩) (hg.block bu (L.block_lt h3) (by simpa using h8))];exact h3
def V.setVal:Value->Value
 | .agg cs=>(cs[2]?).getD undef
 | _=>undef
theorem zsf (w:World)(v:Value)(p:R.Part)(bm bf bu B n:Nat)(f:ByteArray->Option Value)(flt:Bool)(HE:V.Env w bm bf bu B n f flt)(RR:R.PtIs w v p)(hk:p.kind=1)(hn:n<=140737488355327)(F:Nat)(hF:F<=B/\F<=w.heap.size) :
  Calls prog 89 #[v,.pointer (some ⟨bm,0,none⟩),.pointer (some ⟨bf,0,none⟩),.pointer (some ⟨bu,0,none⟩)] w fun e w' =>
   (((f p.name).isSome=true/\e=.returned (.int .i64 7)/\V.Env w' bm bf bu B n f flt)∨((f p.name).isSome=false/\e=.returned (.int .i64 0)/\∃so sc,V.setVal v=.slice so p.set.length sc/\S.Rd w (.slice so p.set.length sc) p.set/\V.Env w' bm bf bu B (n+1) (fun t=>if t=p.name then some (.slice so p.set.length sc) else f t) flt))/\Below F w w':=by
 obtain⟨so,sc,lbo,lbc,lso,lsc,lao,lac,rbo,rbc,rso,rsc,rao,rac,rfl,RS,_,_,_,hnm,_⟩:=RR.open;obtain⟨pk,pn,ps,pd,⟨lst,lfi,lbe,lsr,laf,lcu⟩,⟨rst,rfi,rbe,rsr,raf,rcu⟩⟩:=p;simp only at hk hnm RS ⊢;subst hk;have bA:Bl w (w.alloc (.cells #[.int .i64 1,.string pn,.slice so ps.length sc,.int .i64 pd,.bool lst,.bool lfi,.slice lbo lbe.length lbc,.slice lso lsr.length lsc,.slice lao laf.length lac,.int .i64 lcu,.bool rst,.bool rfi,.slice rbo rbe.length rbc,.slice rso rsr.length rsc,.slice rao raf.length rac,.int .i64 rcu] 104)):=(qR w).alloc qN _;have HE0:Hid (V.Env (w.alloc (.cells #[.int .i64 1,.string pn,.slice so ps.length sc,.int .i64 pd,.bool lst,.bool lfi,.slice lbo lbe.length lbc,.slice lso lsr.length lsc,.slice lao laf.length lac,.int .i64 lcu,.bool rst,.bool rfi,.slice rbo rbe.length rbc,.slice rso rsr.length rsc,.slice rao raf.length rac,.int .i64 rcu] 104)) bm bf bu B n f flt/\Bl w (w.alloc (.cells #[.int .i64 1,.string pn,.slice so ps.length sc,.int .i64 pd,.bool lst,.bool lfi,.slice lbo lbe.length lbc,.slice lso lsr.length lsc,.slice lao laf.length lac,.int .i64 lcu,.bool rst,.bool rfi,.slice rbo rbe.length rbc,.slice rso rsr.length rsc,.slice rao raf.length rac,.int .i64 rcu] 104))):=⟨HE.below bA,bA⟩;have hcm:=HE.1;have hbm:=L.block_lt hcm;have hlook:=HE0.out.1.2.2.2.1.look_ok pn hnm;obtain⟨W1,hrun,hM1,hg1⟩:=HE0.out.1.2.2.2.1.put pn hnm (by omega) (.slice so ps.length sc);have HM1:Hid (V.MapIs W1 B (n+1) (fun t=>if t=pn then some (.slice so ps.length sc) else f t)/\(w.alloc (.cells #[.int .i64 1,.string pn,.slice so ps.length sc,.int .i64 pd,.bool lst,.bool lfi,.slice lbo lbe.length lbc,.slice lso lsr.length lsc,.slice lao laf.length lac,.int .i64 lcu,.bool rst,.bool rfi,.slice rbo rbe.length rbc,.slice rso rsr.length rsc,.slice rao raf.length rac,.int .i64 rcu] 104)).grownBy W1 (some B)):=⟨hM1,hg1⟩;have HRS:=qH RS;clear bA RS hM1 hg1 RR HE;generalize (f pn).getD (.slice none 0 0)=gv at hlook;cases hfs:(f pn).isSome with
 | true =>
  rw[hfs] at hlook;have HF:=qH hfs;clear hrun hfs
  go_enter func89,ntmps89
  go_wp2;go_ret
  exact⟨⟨rfl,HE0.out.1⟩,HE0.out.2.mono hF.2⟩
 | false =>
  rw[hfs] at hlook;have HF:=qH hfs;clear hfs
  go_enter func89,ntmps89
  go_wp2;go_ret
  exact⟨⟨rfl,so,sc,rfl,HRS.out,HE0.out.1.put HM1.out.2 HM1.out.1⟩,Below.grown (HE0.out.2.mono hF.2) HM1.out.2 (Nat.le_trans hF.2 HE0.out.2.size) (fun j hj=>by have h2:B=j:=Option.some.inj hj;omega)⟩
theorem V.Env.set {w:World}{bm bf bu B n:Nat}{f:ByteArray->Option Value}{flt:Bool}(h:V.Env w bm bf bu B n f flt)(b:Bool):V.Env (w.setCell ⟨bf,0,none⟩ (.bool b)) bm bf bu B n f b/\w.grownBy (w.setCell ⟨bf,0,none⟩ (.bool b)) (some bf):=by
 obtain⟨h1,h2,h3,h4,h5,h6,h7,h8,h9⟩:=h;have hg:=R.zak w bf 0 (.bool b);refine⟨⟨?_,heap_setCell_same w bf 0 _ _ _ h2,?_,h4.block (hg.block B h4.lt (by simpa using Ne.symm h9)),h5,h6,h7,h8,h9⟩,hg⟩
 ·rw[World.cell?_of_block (a:=⟨bm,0,none⟩) (hg.block bm (L.block_lt h1) (by simpa using h5))];exact h1
 ·rw[World.cell?_of_block (a:=⟨bu,0,none⟩) (hg.block bu (L.block_lt h3) (by simpa using h6))];exact h3
theorem zkp (w:World)(v:Value)(p:R.Part)(bm bf bu B n:Nat)(f:ByteArray->Option Value)(flt:Bool)(HE:V.Env w bm bf bu B n f flt)(RR:R.PtIs w v p)(hk:p.kind=3)(F:Nat)(hF:F<=bf/\F<=w.heap.size) :
  Calls prog 89 #[v,.pointer (some ⟨bm,0,none⟩),.pointer (some ⟨bf,0,none⟩),.pointer (some ⟨bu,0,none⟩)] w fun e w' =>
   e=.returned (.int .i64 (if flt=true then 5 else 0))/\V.Env w' bm bf bu B n f true/\Below F w w':=by
 obtain⟨so,sc,lbo,lbc,lso,lsc,lao,lac,rbo,rbc,rso,rsc,rao,rac,rfl,RS,_,hL,hR,hnm,_⟩:=RR.open;obtain⟨pk,pn,ps,pd,⟨lst,lfi,lbe,lsr,laf,lcu⟩,⟨rst,rfi,rbe,rsr,raf,rcu⟩⟩:=p;simp only at hk;subst hk;have bA:Bl w (w.alloc (.cells #[.int .i64 3,.string pn,.slice so ps.length sc,.int .i64 pd,.bool lst,.bool lfi,.slice lbo lbe.length lbc,.slice lso lsr.length lsc,.slice lao laf.length lac,.int .i64 lcu,.bool rst,.bool rfi,.slice rbo rbe.length rbc,.slice rso rsr.length rsc,.slice rao raf.length rac,.int .i64 rcu] 104)):=(qR w).alloc qN _;have HE0:Hid (V.Env (w.alloc (.cells #[.int .i64 3,.string pn,.slice so ps.length sc,.int .i64 pd,.bool lst,.bool lfi,.slice lbo lbe.length lbc,.slice lso lsr.length lsc,.slice lao laf.length lac,.int .i64 lcu,.bool rst,.bool rfi,.slice rbo rbe.length rbc,.slice rso rsr.length rsc,.slice rao raf.length rac,.int .i64 rcu] 104)) bm bf bu B n f flt/\Bl w (w.alloc (.cells #[.int .i64 3,.string pn,.slice so ps.length sc,.int .i64 pd,.bool lst,.bool lfi,.slice lbo lbe.length lbc,.slice lso lsr.length lsc,.slice lao laf.length lac,.int .i64 lcu,.bool rst,.bool rfi,.slice rbo rbe.length rbc,.slice rso rsr.length rsc,.slice rao raf.length rac,.int .i64 rcu] 104))):=⟨HE.below bA,bA⟩;have hcf:w.cell? ⟨bf,0,none⟩=some (.bool flt):=R.zab HE.2.1 rfl;have hff:w.frozen? ⟨bf,0,none⟩=false:=R.zac HE.2.1;have hbf:=L.block_lt hcf;have HEw:=qH HE;clear bA RS RR HE hL hR;cases flt
 ·go_enter func89,ntmps89
  go_wp2;go_ret
  have h:=HEw.out.set true;have hb:=Below.grown (Below.refl F w) h.2 hF.2 (fun j hj=>by have h2:bf=j:=Option.some.inj hj;omega);exact⟨rfl,h.1.below ((qR _).alloc qN _),hb.alloc (Nat.le_trans hF.2 h.2.size) _⟩
 ·go_enter func89,ntmps89
  go_wp2;go_ret
  exact⟨rfl,HE0.out.1,HE0.out.2.mono hF.2⟩
theorem zpx (w:World)(v:Value)(p:R.Part)(bm bf bu B n:Nat)(f:ByteArray->Option Value)(flt:Bool)(HE:V.Env w bm bf bu B n f flt)(RR:R.PtIs w v p)(hk:p.kind≠1/\p.kind≠2/\p.kind≠3) :
  Calls prog 89 #[v,.pointer (some ⟨bm,0,none⟩),.pointer (some ⟨bf,0,none⟩),.pointer (some ⟨bu,0,none⟩)] w fun e w' =>
   e=.returned (.int .i64 0)/\V.Env w' bm bf bu B n f flt/\Bl w w':=by
 obtain⟨so,sc,lbo,lbc,lso,lsc,lao,lac,rbo,rbc,rso,rsc,rao,rac,rfl,RS,_,hL,hR,hnm,_⟩:=RR.open;obtain⟨pk,pn,ps,pd,⟨lst,lfi,lbe,lsr,laf,lcu⟩,⟨rst,rfi,rbe,rsr,raf,rcu⟩⟩:=p;simp only at hk;obtain⟨k1,k2,k3⟩:=hk;have bA:Bl w (w.alloc (.cells #[.int .i64 pk,.string pn,.slice so ps.length sc,.int .i64 pd,.bool lst,.bool lfi,.slice lbo lbe.length lbc,.slice lso lsr.length lsc,.slice lao laf.length lac,.int .i64 lcu,.bool rst,.bool rfi,.slice rbo rbe.length rbc,.slice rso rsr.length rsc,.slice rao raf.length rac,.int .i64 rcu] 104)):=(qR w).alloc qN _;have HE0:Hid (V.Env (w.alloc (.cells #[.int .i64 pk,.string pn,.slice so ps.length sc,.int .i64 pd,.bool lst,.bool lfi,.slice lbo lbe.length lbc,.slice lso lsr.length lsc,.slice lao laf.length lac,.int .i64 lcu,.bool rst,.bool rfi,.slice rbo rbe.length rbc,.slice rso rsr.length rsc,.slice rao raf.length rac,.int .i64 rcu] 104)) bm bf bu B n f flt/\Bl w (w.alloc (.cells #[.int .i64 pk,.string pn,.slice so ps.length sc,.int .i64 pd,.bool lst,.bool lfi,.slice lbo lbe.length lbc,.slice lso lsr.length lsc,.slice lao laf.length lac,.int .i64 lcu,.bool rst,.bool rfi,.slice rbo rbe.length rbc,.slice rso rsr.length rsc,.slice rao raf.length rac,.int .i64 rcu] 104))):=⟨HE.below bA,bA⟩;clear bA RS RR HE hL hR
 go_enter func89,ntmps89
 go_wp2;go_ret
 exact⟨rfl,HE0.out.1,HE0.out.2⟩
def V.Few (s:R.Side):Prop:=s.before.length<=140737488355328/\s.source.length<=140737488355328/\s.after.length<=140737488355328
theorem zpw (w:World)(v:Value)(p:R.Part)(bm bf bu B n:Nat)(f:ByteArray->Option Value)(flt:Bool)(HE:V.Env w bm bf bu B n f flt)(RR:R.PtIs w v p)(hk:p.kind=2)(hl:V.Few p.left/\V.Few p.right) :
  Calls prog 89 #[v,.pointer (some ⟨bm,0,none⟩),.pointer (some ⟨bf,0,none⟩),.pointer (some ⟨bu,0,none⟩)] w fun e w' =>
   e=.returned (.int .i64 (if (V.unkS f p.left||V.unkS f p.right)=true then 7 else 0))/\V.Env w' bm bf bu B n f flt/\Bl w w':=by
 obtain⟨so,sc,lbo,lbc,lso,lsc,lao,lac,rbo,rbc,rso,rsc,rao,rac,rfl,RS,_,hL,hR,hnm,_⟩:=RR.open;have H1:=qH<|fun W hW=>zft W _ p.left bm f (V.MapBox.below ⟨B,n,HE.1,HE.2.2.2.1⟩ hW) (hL.below hW) hl.1
 have H2:=qH<|fun W hW=>zft W _ p.right bm f (V.MapBox.below ⟨B,n,HE.1,HE.2.2.2.1⟩ hW) (hR.below hW) hl.2
 generalize V.unkS f p.left=u1 at *;generalize V.unkS f p.right=u2 at *;obtain⟨pk,pn,ps,pd,⟨lst,lfi,lbe,lsr,laf,lcu⟩,⟨rst,rfi,rbe,rsr,raf,rcu⟩⟩:=p;simp only at hk H1 H2;subst hk;have bA:Bl w (w.alloc (.cells #[.int .i64 2,.string pn,.slice so ps.length sc,.int .i64 pd,.bool lst,.bool lfi,.slice lbo lbe.length lbc,.slice lso lsr.length lsc,.slice lao laf.length lac,.int .i64 lcu,.bool rst,.bool rfi,.slice rbo rbe.length rbc,.slice rso rsr.length rsc,.slice rao raf.length rac,.int .i64 rcu] 104)):=(qR w).alloc qN _;have HX:Hid ((w.alloc (.cells #[.int .i64 2,.string pn,.slice so ps.length sc,.int .i64 pd,.bool lst,.bool lfi,.slice lbo lbe.length lbc,.slice lso lsr.length lsc,.slice lao laf.length lac,.int .i64 lcu,.bool rst,.bool rfi,.slice rbo rbe.length rbc,.slice rso rsr.length rsc,.slice rao raf.length rac,.int .i64 rcu] 104)).heap[w.heap.size]?=some (.cells #[.int .i64 2,.string pn,.slice so ps.length sc,.int .i64 pd,.bool lst,.bool lfi,.slice lbo lbe.length lbc,.slice lso lsr.length lsc,.slice lao laf.length lac,.int .i64 lcu,.bool rst,.bool rfi,.slice rbo rbe.length rbc,.slice rso rsr.length rsc,.slice rao raf.length rac,.int .i64 rcu] 104)/\Bl w (w.alloc (.cells #[.int .i64 2,.string pn,.slice so ps.length sc,.int .i64 pd,.bool lst,.bool lfi,.slice lbo lbe.length lbc,.slice lso lsr.length lsc,.slice lao laf.length lac,.int .i64 lcu,.bool rst,.bool rfi,.slice rbo rbe.length rbc,.slice rso rsr.length rsc,.slice rao raf.length rac,.int .i64 rcu] 104))):=⟨heap_alloc_new w _,bA⟩;have HEw:=qH HE;have hcu:=HE.2.2.1;have hbu:=L.block_lt hcu;clear bA RS RR HE hL hR hl
 go_enter func89,ntmps89
 go_wp2_with fail
 refine(H1.out _ HX.out.2).mono ?_;rintro e w1 ⟨rfl,b1⟩;have y1:=K.zae HX.out.1 b1;have B1:=HX.out.2.trans (b1.mono HX.out.2.size);have p10:=K.zad (i:=10) y1 rfl;have p11:=K.zad (i:=11) y1 rfl;have p12:=K.zad (i:=12) y1 rfl;have p13:=K.zad (i:=13) y1 rfl;have p14:=K.zad (i:=14) y1 rfl;have p15:=K.zad (i:=15) y1 rfl;have hcu1:w1.cell? ⟨bu,0,none⟩=some (.func (.func 88) #[] #[.pointer (some ⟨bm,0,none⟩)]):=by rw[B1.cell (p:=⟨bu,0,none⟩) hbu];exact hcu
 have HB1:=qH B1;clear y1 b1 B1 hcu HX;cases u1
 ·go_wp2_with fail
  refine(H2.out _ HB1.out).mono ?_;rintro e w2 ⟨rfl,b2⟩;have HB2:=qH<|HB1.out.trans (b2.mono HB1.out.size);clear b2 p10 p11 p12 p13 p14 p15 hcu1;cases u2
  ·go_wp2;go_ret
   exact⟨rfl,HEw.out.below HB2.out,HB2.out⟩
  ·go_wp2;go_ret
   exact⟨rfl,HEw.out.below HB2.out,HB2.out⟩
 ·clear p10 p11 p12 p13 p14 p15 hcu1;go_wp2;go_ret;exact⟨rfl,HEw.out.below HB1.out,HB1.out⟩
theorem znj (w:World)(B:Nat):Calls prog 55 #[.map (some B)] w fun e w'=>e=.returned (.func (.func 91) #[] #[.pointer (some ⟨w.heap.size,0,none⟩)])/\w'=w.alloc (.cells #[.map (some B)] 66):=by
 go_enter func55,ntmps55
 go_wp2;go_ret
 exact⟨rfl,rfl⟩
theorem zpt (w:World)(B n:Nat)(f:ByteArray->Option Value)(HM:V.MapIs w B n f) :
  Calls prog 54 #[.map (some B)] w fun e w'=>e=.returned (.func (.func 89) #[] #[.pointer (some ⟨w.heap.size,0,none⟩),.pointer (some ⟨w.heap.size+1,0,none⟩),.pointer (some ⟨w.heap.size+2,0,none⟩)]) /\
   V.Env w' w.heap.size (w.heap.size+1) (w.heap.size+2) B n f false/\Bl w w'/\w'.heap.size=w.heap.size+3:=by
 have HMs:=qH HM;clear HM
 go_enter func54,ntmps54
 go_wp2;go_ret
 have hlt:=HMs.out.lt;have b1:Bl w (w.alloc (.cells #[.map (some B)] 66)):=(qR w).alloc qN _;have x:=K.za3 (qR (((w.alloc (.cells #[.map (some B)] 66)).alloc (.cells #[.bool false] 4)).alloc (.cells #[.func (.func 88) #[] #[.pointer (some ⟨w.heap.size,0,none⟩)]] 144)));have hs1:(w.alloc (.cells #[.map (some B)] 66)).heap.size=w.heap.size+1:=by simp
 rw[hs1] at x;have hbb:=b1.trans (x.2.2.1.mono (by omega));have h0:=(x.2.2.1.block w.heap.size (by omega)).trans (heap_alloc_new w (.cells #[.map (some B)] 66));refine⟨rfl,⟨K.zad (i:=0) h0 rfl,x.1,K.zad (i:=0) x.2.1 rfl,HMs.out.below hbb hlt,by omega,by omega,by omega,by omega,by omega⟩,hbb,by simp⟩
namespace V
theorem sides {w:World}{p:R.Part}{so lbo lso lao rbo rso rao:Option Addr}{sc lbc lsc lac rbc rsc rac:Nat}(h:R.PtIs w (.agg #[.int .i64 p.kind,.string p.name,.slice so p.set.length sc,.int .i64 p.dir,.bool p.left.start,.bool p.left.fin,.slice lbo p.left.before.length lbc,.slice lso p.left.source.length lsc,.slice lao p.left.after.length lac,.int .i64 p.left.cursor,.bool p.right.start,.bool p.right.fin,.slice rbo p.right.before.length rbc,.slice rso p.right.source.length rsc,.slice rao p.right.after.length rac,.int .i64 p.right.cursor]) p) :
  R.SdIs w (.agg #[.bool p.left.start,.bool p.left.fin,.slice lbo p.left.before.length lbc,.slice lso p.left.source.length lsc,.slice lao p.left.after.length lac,.int .i64 p.left.cursor]) p.left/\R.SdIs w (.agg #[.bool p.right.start,.bool p.right.fin,.slice rbo p.right.before.length rbc,.slice rso p.right.source.length rsc,.slice rao p.right.after.length rac,.int .i64 p.right.cursor]) p.right:=by
 obtain⟨so',sc',lbo',lbc',lso',lsc',lao',lac',rbo',rbc',rso',rsc',rao',rac',he,_,_,h1,h2,_⟩:=h.open;have he2:=Value.agg.inj he;simp only[Array.mk.injEq,List.cons.injEq,Value.slice.injEq,true_and,and_true] at he2;obtain⟨_,⟨rfl,rfl⟩,⟨rfl,rfl⟩,⟨rfl,rfl⟩,⟨rfl,rfl⟩,⟨rfl,rfl⟩,⟨rfl,rfl⟩⟩:=he2;exact⟨h1,h2⟩
def PartOk (g:ByteArray->List S.Sp) (p:R.Part):Prop :=
 (p.kind=3->p.set.length<=17592186044160)/\(p.kind=4->p.name.size<=140737488355328) /\
 (p.kind=2->¬p.dir=2->(V.Right p.left.before/\V.Right p.left.source/\V.Right p.left.after)/\V.Right p.right.source/\∀x,(x∈p.left.before∨x∈p.left.source∨x∈p.left.after)->S.Fit (V.setOf g x))
theorem zrt {g:ByteArray->List S.Sp}{l:List R.Part}{k:Nat}{p:R.Part}(h:l[k]?=some p):scr g (l.take (k+1))=scrStep g (scr g (l.take k)) p:=by
 have hlt:=(qL.1 h).1;have e:l.take (k+1)=l.take k++ [p]:=by rw[List.take_add_one,h];rfl
 rw[e];unfold scr;rw[List.foldl_append];rfl
def Small (k:Nat) (s:Script):Prop:=s.passes.length<=k/\∀p∈s.passes,p.rules.length<=k
theorem box3 {w:World}{b:Nat}{x y z:Value}{ty:TypeId}(h:w.heap[b]?=some (.cells #[x,y,z] ty)):w.cell? ⟨b,0,none⟩=some x/\w.cell? ⟨b,1,none⟩=some y/\w.cell? ⟨b,2,none⟩=some z/\w.frozen? ⟨b,0,none⟩=false/\w.frozen? ⟨b,1,none⟩=false/\w.frozen? ⟨b,2,none⟩=false :=
 ⟨K.zad h rfl,K.zad h rfl,K.zad h rfl,frozen_of_row w b _ _ _ h,frozen_of_row w b _ _ _ h,frozen_of_row w b _ _ _ h⟩
theorem zcx {w:World}{v:Value}{l:List S.Sp}(h:S.Rd w v l):∃o c,v=.slice o l.length c:=by
 obtain⟨o,c,e,_⟩:=h;exact⟨o,c,e⟩
theorem zfn {F:Nat}{tops:List Nat}{w:World}{vp:Value}{ps:List Pass}{rvs:List Value}(h:PS F tops w vp ps rvs):∃o n c,vp=.slice o n c:=by
 rcases h.own.2 with ⟨e,_⟩|⟨g,cap,cur,e,_⟩
 ·exact⟨_,_,_,e⟩
 ·exact⟨_,_,_,e⟩
end V
theorem zgk (w:World)(v:Value)(l:List R.Part)(R0:R.Pts w v l)(hl:l.length<=1000)(B n:Nat)(f:ByteArray->Option Value)(g:ByteArray->List S.Sp)(hM:V.MapIs w B n f)(hT:∀s,S.Rd w ((f s).getD (.slice none 0 0)) (g s)/\(g s).length<=17592186044160)(hok:∀p∈l,V.PartOk g p)(hsm:∀k,k<=l.length->V.Small k (V.scr g (l.take k))) :
  Calls prog 32 #[v,.map (some B)] w fun e w'=>∃tops vo vp rvs,e=.returned (.agg #[.bool (V.scr g l).has,vo,vp])/\V.Leaf tops w' (fun W=>S.Rd W vo (V.scr g l).only)/\(V.scr g l).only.length<=17592186044160/\V.PS (w.heap.size+2) tops w' vp (V.scr g l).passes rvs/\((V.scr g l).passes= []->vp=.slice none 0 0)/\(∀q,q<=w.heap.size->q∈tops)/\Bl w w':=by
 obtain⟨w1,hw1⟩:=qE ((w.alloc (.cells #[.bool false,.slice none 0 0,.slice none 0 0] 30)).alloc (.cells #[.bool false,.slice none 0 0,.slice none 0 0] 30));have s1:w1.heap.size=w.heap.size+2:=by rw[hw1];simp
 have B1:Bl w w1:=by rw[hw1];exact((qR w).alloc qN _).alloc (by simp) _
 have x1:w1.heap[w.heap.size]?=some (.cells #[.bool false,.slice none 0 0,.slice none 0 0] 30):=by
  rw[hw1,Below.heap_alloc _ _ _ (by simp)];exact heap_alloc_new w _
 have y1:w1.heap[w.heap.size+1]?=some (.cells #[.bool false,.slice none 0 0,.slice none 0 0] 30):=by
  have h:=heap_alloc_new (w.alloc (.cells #[.bool false,.slice none 0 0,.slice none 0 0] 30)) (.cells #[.bool false,.slice none 0 0,.slice none 0 0] 30);rw[hw1];simpa using h
 have HLk:Hid (Calls prog 55 #[.map (some B)] ((w.alloc (.cells #[.bool false,.slice none 0 0,.slice none 0 0] 30)).alloc (.cells #[.bool false,.slice none 0 0,.slice none 0 0] 30)) fun e w'=>e=.returned (.func (.func 91) #[] #[.pointer (some ⟨w1.heap.size,0,none⟩)])/\w'=w1.alloc (.cells #[.map (some B)] 66)):=by
  rw[hw1];exact znj _ _
 have HR:=qH R0;obtain⟨ao,cap,rfl⟩:=R0.len;have HOk:=qH hok;have HSm:=qH hsm;have HM:Hid (V.MapIs w B n f/\∀s,S.Rd w ((f s).getD (.slice none 0 0)) (g s)/\(g s).length<=17592186044160):=⟨hM,hT⟩;clear R0 hok hsm hM hT
 go_enter func32,ntmps32
 go_wp2_with fail
 refine HLk.out.mono ?_;rintro e w2 ⟨rfl,hw2⟩;have b2:Bl w1 w2:=by rw[hw2];exact(qR w1).alloc qN _
 have m2:w2.heap[w1.heap.size]?=some (.cells #[.map (some B)] 66):=by rw[hw2];exact heap_alloc_new w1 _
 have s2:w2.heap.size=w.heap.size+3:=by rw[hw2];simp;omega
 have HS:Hid (V.SS (w.heap.size+2) (w.heap.size+1) (List.range (w.heap.size+2)) w2 (V.scr g (l.take 0)) (.slice none 0 0) (.slice none 0 0) []):=V.SS.start _ _ _ _ (by omega) ((b2.block _ (by omega)).trans y1) (by simp) (fun q hq=>by simp at hq;omega);have HBx:Hid (V.Leaf (List.range (w.heap.size+2)) w2 fun W=>W.heap[w.heap.size+2]?=some (.cells #[.map (some B)] 66)):=fun W h1 h2=>(h2 _ (by omega) (by simp)).trans (by rw[<- s1];exact m2)
 have HRs:Hid ((∀q,q<=w.heap.size->q∈List.range (w.heap.size+2))/\w2.heap[w.heap.size]?=some (.cells #[.bool false,.slice none 0 0,.slice none 0 0] 30)):=⟨fun q hq=>List.mem_range.2 (by omega),(b2.block _ (by omega)).trans x1⟩;have HB2:=qH<|B1.trans (b2.mono (by omega));rw[s1];clear hw2 m2 b2 HLk hw1 s1 B1 x1 y1;go_wp2
 go_loopw [13] (fun i wr=>∃(k:Nat) (tops:List Nat) (vo vp:Value) (rvs:List Value),k<=l.length/\i=.int .i64 k/\Hid (V.SS (w.heap.size+2) (w.heap.size+1) tops wr (V.scr g (l.take k)) vo vp rvs)/\Hid (V.Leaf tops wr fun W=>W.heap[w.heap.size+2]?=some (.cells #[.map (some B)] 66))/\Hid ((∀q,q<=w.heap.size->q∈tops)/\wr.heap[w.heap.size]?=some (.cells #[.bool false,.slice none 0 0,.slice none 0 0] 30))/\Hid (Bl w wr)) (fun i _=>l.length-(RowKit.intOf i).toNat)
 case atStart=>exact⟨0,_,_,_,_,Nat.zero_le _,rfl,HS,HBx,HRs,HB2⟩
 case round =>
  clear HS HBx HRs HB2;obtain⟨k,tops,vo,vp,rvs,hk,rfl,HS,HBx,HRs,HB⟩:=hrel
  by_cases hlt:k<l.length
  ·obtain⟨p,hp⟩:∃x,l[k]?=some x:=⟨l[k],by simp[hlt]⟩;obtain⟨ao',cap',e',hcs⟩:=HR.out;cases e';obtain⟨b,off,rfl,hcell⟩:=hcs (by intro h;subst h;simp at hlt);obtain⟨so,sc,lbo,lbc,lso,lsc,lao,lac,rbo,rbc,rso,rsc,rao,rac,c0,c1,c2,c3,c4,c5,c6,c7,c8,c9,c10,c11,c12,c13,c14,c15,hP⟩:=hcell k p hp;have lb:=L.block_lt c0;rw[<- HB.out.cell (p:=⟨b,off+k*16,none⟩) lb] at c0;rw[<- HB.out.cell (p:=⟨b,off+k*16+1,none⟩) lb] at c1;rw[<- HB.out.cell (p:=⟨b,off+k*16+2,none⟩) lb] at c2;rw[<- HB.out.cell (p:=⟨b,off+k*16+3,none⟩) lb] at c3;rw[<- HB.out.cell (p:=⟨b,off+k*16+4,none⟩) lb] at c4;rw[<- HB.out.cell (p:=⟨b,off+k*16+5,none⟩) lb] at c5;rw[<- HB.out.cell (p:=⟨b,off+k*16+6,none⟩) lb] at c6;rw[<- HB.out.cell (p:=⟨b,off+k*16+7,none⟩) lb] at c7;rw[<- HB.out.cell (p:=⟨b,off+k*16+8,none⟩) lb] at c8;rw[<- HB.out.cell (p:=⟨b,off+k*16+9,none⟩) lb] at c9;rw[<- HB.out.cell (p:=⟨b,off+k*16+10,none⟩) lb] at c10;rw[<- HB.out.cell (p:=⟨b,off+k*16+11,none⟩) lb] at c11;rw[<- HB.out.cell (p:=⟨b,off+k*16+12,none⟩) lb] at c12;rw[<- HB.out.cell (p:=⟨b,off+k*16+13,none⟩) lb] at c13;rw[<- HB.out.cell (p:=⟨b,off+k*16+14,none⟩) lb] at c14;rw[<- HB.out.cell (p:=⟨b,off+k*16+15,none⟩) lb] at c15;have hst:=V.zrt (g:=g) hp;have hsm:=HSm.out k hk;obtain⟨hok3,hok4,hok2⟩:=HOk.out p (List.mem_of_getElem? hp);obtain⟨s,hs⟩:=qE (V.scr g (l.take k));rw[<- hs] at HS hst hsm;clear hs;obtain⟨wb,hwb⟩:=qE (wr.alloc (.cells #[.int .i64 p.kind,.string p.name,.slice so p.set.length sc,.int .i64 p.dir,.bool p.left.start,.bool p.left.fin,.slice lbo p.left.before.length lbc,.slice lso p.left.source.length lsc,.slice lao p.left.after.length lac,.int .i64 p.left.cursor,.bool p.right.start,.bool p.right.fin,.slice rbo p.right.before.length rbc,.slice rso p.right.source.length rsc,.slice rao p.right.after.length rac,.int .i64 p.right.cursor] 104));have bb:Bl wr wb:=by rw[hwb];exact(qR wr).alloc qN _
   have hbx:wb.heap[wr.heap.size]?=some (.cells #[.int .i64 p.kind,.string p.name,.slice so p.set.length sc,.int .i64 p.dir,.bool p.left.start,.bool p.left.fin,.slice lbo p.left.before.length lbc,.slice lso p.left.source.length lsc,.slice lao p.left.after.length lac,.int .i64 p.left.cursor,.bool p.right.start,.bool p.right.fin,.slice rbo p.right.before.length rbc,.slice rso p.right.source.length rsc,.slice rao p.right.after.length rac,.int .i64 p.right.cursor] 104):=by rw[hwb];exact heap_alloc_new wr _
   have hsb:wb.heap.size=wr.heap.size+1:=by rw[hwb];simp
   have hwr:=(qA.1 HBx.out.here).1;have S1:=HS.out.below bb;have X1:=HBx.out.moves (V.Moves.of_below bb);have R1:=(bb.block _ (by omega)).trans HRs.out.2;have hBw:=HB.out.trans (bb.mono HB.out.size);obtain⟨oo,oc,hvo⟩:=V.zcx S1.only.here;obtain⟨po,pn,pc,hvp⟩:=V.zfn S1.pas
   by_cases h3:p.kind=3
   ·as_aux_lemma =>
    have hS:V.scr g (l.take (k+1))=⟨true,p.set,s.passes⟩:=by rw[hst];unfold V.scrStep;rw[if_pos h3]
    obtain⟨so',sc',_,_,_,_,_,_,_,_,_,_,_,_,he,hset,hfit,_⟩:=hP;simp only[Value.agg.injEq,Array.mk.injEq,List.cons.injEq] at he;obtain⟨-,-,he2,-⟩:=he;rw[<- he2] at hset
    have HC:Hid (Calls prog 56 #[.slice so p.set.length sc] (wr.alloc (.cells #[.int .i64 p.kind,.string p.name,.slice so p.set.length sc,.int .i64 p.dir,.bool p.left.start,.bool p.left.fin,.slice lbo p.left.before.length lbc,.slice lso p.left.source.length lsc,.slice lao p.left.after.length lac,.int .i64 p.left.cursor,.bool p.right.start,.bool p.right.fin,.slice rbo p.right.before.length rbc,.slice rso p.right.source.length rsc,.slice rao p.right.after.length rac,.int .i64 p.right.cursor] 104)) fun e w'=>∃v',e=.returned v'/\w'.ownsRow wb.heap.size 113 2 v' p.set.length (S.cellsOf p.set)/\Bl wb w'):=by
     rw[<- hwb];exact zge wb _ p.set (hset.below hBw qN) (hok3 h3)
    rw[h3] at c0 HC;rw[h3] at hwb;have hset3:=hok3 h3;have HX:Hid (V.SS (w.heap.size+2) (w.heap.size+1) tops wb s vo vp rvs/\V.Leaf tops wb (fun W=>W.heap[w.heap.size+2]?=some (.cells #[.map (some B)] 66))/\wb.heap[w.heap.size]?=some (.cells #[.bool false,.slice none 0 0,.slice none 0 0] 30)/\Bl w wb/\V.scr g (l.take (k+1))=⟨true,p.set,s.passes⟩):=⟨S1,X1,R1,hBw,hS⟩;clear hcell hcs hst hsm hok3 hok4 hok2 S1 X1 R1 hBw hS hbx bb HSm HOk hset hfit HS HBx
    go_wp2_with fail
    refine HC.out.mono ?_;rintro e w4 ⟨v',rfl,own,b4⟩;obtain⟨S4,X4,R4,B4,hS⟩:=HX.out;have rd4:=S.Rd.zax own;have L4:=V.Leaf.zhu (w:=wb) (R.zdx rd4 fun g' hg'=>(own.lt g' hg').1) S4.pas.lt b4.size;obtain⟨vo',vc',hv'⟩:=V.zcx rd4;have S5:=S4.below b4;obtain⟨q0,q1,q2,f0,f1,f2⟩:=V.box3 S5.box;have HF:=qH<|S5.filter v' p.set L4 hset3 (by rw[hv'];rfl);have HFx:Hid (V.Leaf tops ((w4.setCell ⟨w.heap.size+1,0,none⟩ (.bool true)).setCell ⟨w.heap.size+1,1,none⟩ v') fun W=>W.heap[w.heap.size+2]?=some (.cells #[.map (some B)] 66)):=((X4.moves (V.Moves.of_below b4)).moves (V.Moves.store w4 0 _ S5.mem)).moves (V.Moves.store _ 1 _ S5.mem)
    have HFr:Hid ((∀q,q<=w.heap.size->q∈tops)/\((w4.setCell ⟨w.heap.size+1,0,none⟩ (.bool true)).setCell ⟨w.heap.size+1,1,none⟩ v').heap[w.heap.size]?=some (.cells #[.bool false,.slice none 0 0,.slice none 0 0] 30)):=⟨HRs.out.1,by
     rw[heap_setCell_other _ ⟨w.heap.size+1,1,none⟩ _ _ (by simp),heap_setCell_other _ ⟨w.heap.size+1,0,none⟩ _ _ (by simp),b4.block _ (by omega)];exact R4⟩
    have HFb:Hid (Bl w ((w4.setCell ⟨w.heap.size+1,0,none⟩ (.bool true)).setCell ⟨w.heap.size+1,1,none⟩ v')):=((B4.trans (b4.mono (by omega))).setCell (p:=⟨w.heap.size+1,0,none⟩) (by simp) _).setCell (p:=⟨w.heap.size+1,1,none⟩) (by simp) _;have HSt:=qH hS;have l4:=L.block_lt q0;subst hv';clear S4 X4 R4 B4 hS S5 own rd4 L4 b4 HX HC HRs HB;go_wp2
    go_roundw
    case rel=>exact⟨k+1,tops,_,vp,rvs,by omega,by go_num,by rw[HSt.out];exact HF,HFx,HFr,HFb⟩
    case measure=>simp[RowKit.intOf];omega
   ·by_cases h4:p.kind=4
    ·as_aux_lemma =>
     have hS:V.scr g (l.take (k+1))=⟨s.has,s.only,s.passes++ [⟨p.name,[]⟩]⟩:=by rw[hst];unfold V.scrStep;rw[if_neg h3,if_pos h4]
     obtain⟨wc,hwc⟩:=qE (wb.alloc (.cells #[.string p.name,.slice none 0 0] 74));have bc:Bl wb wc:=by rw[hwc];exact(qR wb).alloc qN _
     have hnp:wc.heap[wb.heap.size]?=some (.cells #[.string p.name,.slice none 0 0] 74):=by rw[hwc];exact heap_alloc_new wb _
     have hsc:wc.heap.size=wr.heap.size+2:=by rw[hwc];simp;omega
     have S2:=S1.below bc;obtain⟨vp',wq,hrunP,ownP,grP,hvP⟩:=R.zfh V.elemP wc 0 (w.heap.size+2) vp s.passes.length (V.pcells s.passes rvs) S2.pas.own ⟨wb.heap.size,0,none⟩ 1 1 [.string p.name,.slice none 0 0] rfl (fun q u hq=>by rw[L.addr_add,Nat.zero_add];exact K.zad hnp (by simpa using hq)) (fun u hu=>by simp at hu;rcases hu with rfl|rfl <;> rfl) (by have:=hsm.1;omega) (by omega);obtain⟨tq,PQ,hmq⟩:=S2.pas.more p.name (hok4 h4) ownP grP hvP;have bq:=(qR wc).grown grP (by omega) fun k hk=>(S2.pas.own.lt k hk).1
     obtain⟨X,cq,hvp'⟩:=PQ.slice (by simp);rw[show (s.passes++ [(⟨p.name,[]⟩:V.Pass)]).length=s.passes.length+1 by simp] at hvp';have HF:=qH<|S2.passes hmq bq PQ (by simp);have HFx:Hid (V.Leaf tq (wq.setCell ⟨w.heap.size+1,2,none⟩ vp') fun W=>W.heap[w.heap.size+2]?=some (.cells #[.map (some B)] 66)):=((X1.moves (V.Moves.of_below bc)).moves hmq).moves (V.Moves.store wq 2 _ (hmq.2.2.2 _ S2.mem))
     have HFr:Hid ((∀q,q<=w.heap.size->q∈tq)/\(wq.setCell ⟨w.heap.size+1,2,none⟩ vp').heap[w.heap.size]?=some (.cells #[.bool false,.slice none 0 0,.slice none 0 0] 30)):=⟨fun q hq=>hmq.2.2.2 q (HRs.out.1 q hq),by
      rw[heap_setCell_other _ ⟨w.heap.size+1,2,none⟩ _ _ (by simp),bq.block _ (by omega),bc.block _ (by omega)];exact R1⟩
     have HFb:Hid (Bl w (wq.setCell ⟨w.heap.size+1,2,none⟩ vp')):=((hBw.trans (bc.mono (by omega))).trans (bq.mono (by omega))).setCell (p:=⟨w.heap.size+1,2,none⟩) (by simp) _;have HSt:=qH hS
     have HRP:Hid (∀ty,(Builtin.append_ #[28,28] ty #[vp,.slice (some ⟨wr.heap.size+1,0,none⟩) 1 1]).run prog ((wr.alloc (.cells #[.int .i64 p.kind,.string p.name,.slice so p.set.length sc,.int .i64 p.dir,.bool p.left.start,.bool p.left.fin,.slice lbo p.left.before.length lbc,.slice lso p.left.source.length lsc,.slice lao p.left.after.length lac,.int .i64 p.left.cursor,.bool p.right.start,.bool p.right.fin,.slice rbo p.right.before.length rbc,.slice rso p.right.source.length rsc,.slice rao p.right.after.length rac,.int .i64 p.right.cursor] 104)).alloc (.cells #[.string p.name,.slice none 0 0] 74))=.ok vp' wq):=by
      rw[<- hsb,<- hwb,<- hwc];exact fun ty=>hrunP
     obtain⟨_,_,q2,_⟩:=V.box3 HS.out.box;obtain⟨_,_,z2,_,_,f2⟩:=V.box3 ((bq.block _ (by omega)).trans S2.box);have lq:=L.block_lt z2;rw[h4] at c0 HRP;rw[hvp'] at HRP HF HFx HFr HFb;rw[hvp] at HRP q2 z2;have hlq:w.heap.size+1<wr.heap.size:=by omega
     clear hcell hcs hst hsm hok3 hok4 hok2 S1 X1 R1 hBw hS hbx bb HSm HOk HS HBx hP hwb hwc bc hnp S2 hrunP ownP grP hvP PQ hmq bq hvp' hvp HRs HB
     go_wp2_with (at_builtin;first|refine Lib.wpList_append_run _ rfl _ _ _ _ rfl _ _ rfl rfl _ _ (HRP.out _) ?_)
     go_roundw
     case rel=>exact⟨k+1,tq,vo,_,_,by omega,by go_num,by rw[HSt.out];exact HF,HFx,HFr,HFb⟩
     case measure=>simp[RowKit.intOf];omega
    ·by_cases h2:p.kind=2
     ·by_cases hd:p.dir=2
      ·as_aux_lemma =>
       have hS:V.scr g (l.take (k+1))=s:=by rw[hst];unfold V.scrStep;rw[if_neg h3,if_neg h4,if_pos h2,if_pos hd]
       have HF:Hid (V.SS (w.heap.size+2) (w.heap.size+1) tops (wr.alloc (.cells #[.int .i64 p.kind,.string p.name,.slice so p.set.length sc,.int .i64 p.dir,.bool p.left.start,.bool p.left.fin,.slice lbo p.left.before.length lbc,.slice lso p.left.source.length lsc,.slice lao p.left.after.length lac,.int .i64 p.left.cursor,.bool p.right.start,.bool p.right.fin,.slice rbo p.right.before.length rbc,.slice rso p.right.source.length rsc,.slice rao p.right.after.length rac,.int .i64 p.right.cursor] 104)) s vo vp rvs):=by rw[<- hwb];exact S1
       have HFx:Hid (V.Leaf tops (wr.alloc (.cells #[.int .i64 p.kind,.string p.name,.slice so p.set.length sc,.int .i64 p.dir,.bool p.left.start,.bool p.left.fin,.slice lbo p.left.before.length lbc,.slice lso p.left.source.length lsc,.slice lao p.left.after.length lac,.int .i64 p.left.cursor,.bool p.right.start,.bool p.right.fin,.slice rbo p.right.before.length rbc,.slice rso p.right.source.length rsc,.slice rao p.right.after.length rac,.int .i64 p.right.cursor] 104)) fun W=>W.heap[w.heap.size+2]?=some (.cells #[.map (some B)] 66)):=by rw[<- hwb];exact X1
       have HFr:Hid ((∀q,q<=w.heap.size->q∈tops)/\(wr.alloc (.cells #[.int .i64 p.kind,.string p.name,.slice so p.set.length sc,.int .i64 p.dir,.bool p.left.start,.bool p.left.fin,.slice lbo p.left.before.length lbc,.slice lso p.left.source.length lsc,.slice lao p.left.after.length lac,.int .i64 p.left.cursor,.bool p.right.start,.bool p.right.fin,.slice rbo p.right.before.length rbc,.slice rso p.right.source.length rsc,.slice rao p.right.after.length rac,.int .i64 p.right.cursor] 104)).heap[w.heap.size]?=some (.cells #[.bool false,.slice none 0 0,.slice none 0 0] 30)):=by rw[<- hwb];exact⟨HRs.out.1,R1⟩
       have HFb:Hid (Bl w (wr.alloc (.cells #[.int .i64 p.kind,.string p.name,.slice so p.set.length sc,.int .i64 p.dir,.bool p.left.start,.bool p.left.fin,.slice lbo p.left.before.length lbc,.slice lso p.left.source.length lsc,.slice lao p.left.after.length lac,.int .i64 p.left.cursor,.bool p.right.start,.bool p.right.fin,.slice rbo p.right.before.length rbc,.slice rso p.right.source.length rsc,.slice rao p.right.after.length rac,.int .i64 p.right.cursor] 104))):=by rw[<- hwb];exact hBw
       have HSt:=qH hS;rw[h2] at c0 HF HFx HFr HFb;rw[hd] at c3 HF HFx HFr HFb;clear hcell hcs hst hsm hok3 hok4 hok2 S1 X1 R1 hBw hS hbx bb HSm HOk HS HBx hP hwb hvp hvo HRs HB;go_wp2
       go_roundw
       case rel=>exact⟨k+1,tops,vo,vp,rvs,by omega,by go_num,by rw[HSt.out];exact HF,HFx,HFr,HFb⟩
       case measure=>simp[RowKit.intOf];omega
      ·as_aux_lemma =>
       have hS:V.scr g (l.take (k+1))=⟨s.has,s.only,V.putP s.passes (V.ruleOf g p.left p.right)⟩:=by rw[hst];unfold V.scrStep;rw[if_neg h3,if_neg h4,if_pos h2,if_neg hd]
       obtain⟨⟨o1,o2,o3⟩,o4,o5⟩:=hok2 h2 hd;have hSd:=V.sides hP
       have HRule:Hid (∀W,Bl wb W->Calls prog 58 #[.agg #[.bool p.left.start,.bool p.left.fin,.slice lbo p.left.before.length lbc,.slice lso p.left.source.length lsc,.slice lao p.left.after.length lac,.int .i64 p.left.cursor],.agg #[.bool p.right.start,.bool p.right.fin,.slice rbo p.right.before.length rbc,.slice rso p.right.source.length rsc,.slice rao p.right.after.length rac,.int .i64 p.right.cursor],.func (.func 91) #[] #[.pointer (some ⟨w.heap.size+2,0,none⟩)]] W fun e w'=>∃r1 r2 r3 r4 r5 r6 r7 r8,e=.returned (.agg #[.bool p.left.start,.bool p.left.fin,.slice r1 p.left.before.length r2,.slice r3 p.left.source.length r4,.slice r5 p.left.after.length r6,.slice r7 p.right.source.length r8,.int .i64 (V.ruleOf g p.left p.right).cursor]) /\
         R.Stays W.heap.size none w' (fun W=>K.RuIs W (.agg #[.bool p.left.start,.bool p.left.fin,.slice r1 p.left.before.length r2,.slice r3 p.left.source.length r4,.slice r5 p.left.after.length r6,.slice r7 p.right.source.length r8,.int .i64 (V.ruleOf g p.left p.right).cursor]) (V.ruleOf g p.left p.right))/\Bl W w'):=fun W hW=>zrv W _ _ p.left p.right (w.heap.size+2) g
        ⟨B,n,f,K.zad (i:=0) (K.zae X1.here hW) rfl,HM.out.1.below (hBw.trans (hW.mono hBw.size)) HM.out.1.lt,fun s=>⟨(HM.out.2 s).1.below (hBw.trans (hW.mono hBw.size)) qN,(HM.out.2 s).2⟩⟩ (hSd.1.below (hBw.trans (hW.mono hBw.size))) (hSd.2.below (hBw.trans (hW.mono hBw.size))) ⟨o1,o2,o3⟩ o4 o5
       have HPut:Hid (∀W r1 r2 r3 r4 r5 r6 r7 r8,Bl wb W->V.Leaf tops W (fun W=>K.RuIs W (.agg #[.bool p.left.start,.bool p.left.fin,.slice r1 p.left.before.length r2,.slice r3 p.left.source.length r4,.slice r5 p.left.after.length r6,.slice r7 p.right.source.length r8,.int .i64 (V.ruleOf g p.left p.right).cursor]) (V.ruleOf g p.left p.right))->Calls prog 57 #[vp,.agg #[.bool p.left.start,.bool p.left.fin,.slice r1 p.left.before.length r2,.slice r3 p.left.source.length r4,.slice r5 p.left.after.length r6,.slice r7 p.right.source.length r8,.int .i64 (V.ruleOf g p.left p.right).cursor]] W fun e w'=>(∃vp' tops' rvs',e=.returned vp'/\V.PS (w.heap.size+2) tops' w' vp' (V.putP s.passes (V.ruleOf g p.left p.right)) rvs'/\V.Moves tops W tops' w')/\Below (w.heap.size+2) W w'):=fun W r1 r2 r3 r4 r5 r6 r7 r8 hW hL=>by
        have e1:(V.ruleOf g p.left p.right).before.length=p.left.before.length:=List.length_map ..;have e2:(V.ruleOf g p.left p.right).source.length=p.left.source.length:=List.length_map ..;have e3:(V.ruleOf g p.left p.right).after.length=p.left.after.length:=List.length_map ..;have e4:(V.ruleOf g p.left p.right).target.length=p.right.source.length:=List.length_map ..;have S2:=S1.below hW;have h:=zt5 (w.heap.size+2) W tops vp s.passes rvs S2.pas S2.nil (V.ruleOf g p.left p.right) r1 r2 r3 r4 r5 r6 r7 r8 (by rw[e1,e2,e3,e4];exact hL) (by have:=hW.size;omega) (by have:=hsm.1;omega) (fun q hq=>by have:=hsm.2 q hq;omega);rw[e1,e2,e3,e4] at h;exact h
       obtain⟨_,_,x2,_⟩:=V.box3 S1.box;have HX2:Hid (∀W,Bl wb W->W.cell? ⟨w.heap.size+1,2,none⟩=some vp):=fun W hW=>(V.box3 (S1.below hW).box).2.2.1
       have HFi:Hid (∀W W' vp' tops' rvs',Bl wb W->V.PS (w.heap.size+2) tops' W' vp' (V.putP s.passes (V.ruleOf g p.left p.right)) rvs'->V.Moves tops W tops' W'->Below (w.heap.size+2) W W' ->
         V.SS (w.heap.size+2) (w.heap.size+1) tops' (W'.setCell ⟨w.heap.size+1,2,none⟩ vp') (V.scr g (l.take (k+1))) vo vp' rvs'/\V.Leaf tops' (W'.setCell ⟨w.heap.size+1,2,none⟩ vp') (fun W=>W.heap[w.heap.size+2]?=some (.cells #[.map (some B)] 66))/\((∀q,q<=w.heap.size->q∈tops')/\(W'.setCell ⟨w.heap.size+1,2,none⟩ vp').heap[w.heap.size]?=some (.cells #[.bool false,.slice none 0 0,.slice none 0 0] 30))/\Bl w (W'.setCell ⟨w.heap.size+1,2,none⟩ vp')/\(W'.cell? ⟨w.heap.size+1,2,none⟩=some vp/\W'.frozen? ⟨w.heap.size+1,2,none⟩=false)):=fun W W' vp' tops' rvs' hW hPS hMv hBl=>by
        have S2:=S1.below hW;rw[hS];have hbx5:=(hBl.block (w.heap.size+1) (by omega)).trans S2.box;refine⟨S2.passes hMv hBl hPS (V.zt6 _ _),((X1.moves (V.Moves.of_below hW)).moves hMv).moves (V.Moves.store W' 2 _ (hMv.2.2.2 _ S2.mem)),⟨fun q hq=>hMv.2.2.2 q (HRs.out.1 q hq),?_⟩,?_,(V.box3 hbx5).2.2.1,(V.box3 hbx5).2.2.2.2.2⟩
        ·rw[heap_setCell_other _ ⟨w.heap.size+1,2,none⟩ _ _ (by simp),hBl.block _ (by omega),hW.block _ (by omega)];exact R1
        ·exact((hBw.trans (hW.mono hBw.size)).trans (hBl.mono (by omega))).setCell (p:=⟨w.heap.size+1,2,none⟩) (by simp) _
       have HQ0:Hid (Bl wb wb.drew):=(qR wb).drew;have HLt:=qH S1.pas.lt;have HTw:=qH HS.out.pas.lt;have p4:=K.zad (i:=4) hbx rfl;have p5:=K.zad (i:=5) hbx rfl;have p6:=K.zad (i:=6) hbx rfl;have p7:=K.zad (i:=7) hbx rfl;have p8:=K.zad (i:=8) hbx rfl;have p9:=K.zad (i:=9) hbx rfl;have p10:=K.zad (i:=10) hbx rfl;have p11:=K.zad (i:=11) hbx rfl;have p12:=K.zad (i:=12) hbx rfl;have p13:=K.zad (i:=13) hbx rfl;have p14:=K.zad (i:=14) hbx rfl;have p15:=K.zad (i:=15) hbx rfl
       have HKp:Hid (∀W:World,W.heap[wr.heap.size]?=wb.heap[wr.heap.size]?->W.cell? ⟨wr.heap.size,4,none⟩=some (.bool p.left.start)/\W.cell? ⟨wr.heap.size,5,none⟩=some (.bool p.left.fin)/\W.cell? ⟨wr.heap.size,6,none⟩=some (.slice lbo p.left.before.length lbc)/\W.cell? ⟨wr.heap.size,7,none⟩=some (.slice lso p.left.source.length lsc)/\W.cell? ⟨wr.heap.size,8,none⟩=some (.slice lao p.left.after.length lac)/\W.cell? ⟨wr.heap.size,9,none⟩=some (.int .i64 p.left.cursor)/\W.cell? ⟨wr.heap.size,10,none⟩=some (.bool p.right.start)/\W.cell? ⟨wr.heap.size,11,none⟩=some (.bool p.right.fin)/\W.cell? ⟨wr.heap.size,12,none⟩=some (.slice rbo p.right.before.length rbc)/\W.cell? ⟨wr.heap.size,13,none⟩=some (.slice rso p.right.source.length rsc)/\W.cell? ⟨wr.heap.size,14,none⟩=some (.slice rao p.right.after.length rac)/\W.cell? ⟨wr.heap.size,15,none⟩=some (.int .i64 p.right.cursor)):=fun W hW=>by
        have e:=fun o=>World.cell?_of_block (a:=⟨wr.heap.size,o,none⟩) hW
        simp only[e];exact⟨p4,p5,p6,p7,p8,p9,p10,p11,p12,p13,p14,p15⟩
       rw[h2] at c0;have hwb2:=hwb;rw[h2] at hwb2;have hdd:=beq_eq_false_iff_ne.2 hd;clear hcell hcs hst hsm hok3 hok4 hok2 S1 X1 R1 hBw hS hbx bb HSm HOk HS HBx hP hwb HRs HB o1 o2 o3 o4 o5 hSd HM HR;subst hvp;clear hvo;go_wp2;rw[<- hwb2];clear hwb2 c0 c1 c2 c3 c4 c5 c6 c7 c8 c9 c10 c11 c12 c13 c14 c15 hdd p4 p5 p6 p7 p8 p9 p10 p11 p12 p13 p14 p15;refine wp_region_held_drew (S:=fun w'=>w'.cell? ⟨wr.heap.size,4,none⟩=some (.bool p.left.start)/\w'.cell? ⟨wr.heap.size,5,none⟩=some (.bool p.left.fin)/\w'.cell? ⟨wr.heap.size,6,none⟩=some (.slice lbo p.left.before.length lbc)/\w'.cell? ⟨wr.heap.size,7,none⟩=some (.slice lso p.left.source.length lsc)/\w'.cell? ⟨wr.heap.size,8,none⟩=some (.slice lao p.left.after.length lac)/\w'.cell? ⟨wr.heap.size,9,none⟩=some (.int .i64 p.left.cursor)/\w'.cell? ⟨wr.heap.size,10,none⟩=some (.bool p.right.start)/\w'.cell? ⟨wr.heap.size,11,none⟩=some (.bool p.right.fin)/\w'.cell? ⟨wr.heap.size,12,none⟩=some (.slice rbo p.right.before.length rbc)/\w'.cell? ⟨wr.heap.size,13,none⟩=some (.slice rso p.right.source.length rsc)/\w'.cell? ⟨wr.heap.size,14,none⟩=some (.slice rao p.right.after.length rac)/\w'.cell? ⟨wr.heap.size,15,none⟩=some (.int .i64 p.right.cursor)) (by kernel_rfl) (HKp.out _ rfl) (fun hHeld=> ?_);refine wpAnyH_take (i:=0) (oi:=_) (v:=.pointer (some ⟨w.heap.size+1,2,none⟩)) rfl (by kernel_rfl) (by kernel_rfl) (by kernel_rfl) (fun _ _ _ h=>h) (Or.inl ⟨by rfl,?_⟩) hHeld ?_
       ·intro wz hSw
        go_simp
       simp only[Act.put,List.setIfInBounds_toArray,List.set_cons_zero,List.set_cons_succ];refine wpAnyH_take (i:=2) (oi:=_) (v:=.pointer (some ⟨wr.heap.size,4,none⟩)) rfl (by kernel_rfl) (by kernel_rfl) (by kernel_rfl) (fun _ _ _ h=>h) (Or.inl ⟨by rfl,?_⟩) hHeld ?_
       ·intro wz hSw
        go_simp
       simp only[Act.put,List.setIfInBounds_toArray,List.set_cons_zero,List.set_cons_succ];refine wpAnyH_take (i:=3) (oi:=_) (v:=.agg #[.bool p.left.start,.bool p.left.fin,.slice lbo p.left.before.length lbc,.slice lso p.left.source.length lsc,.slice lao p.left.after.length lac,.int .i64 p.left.cursor]) rfl (by kernel_rfl) (by kernel_rfl) (by kernel_rfl) (fun _ _ _ h=>h) (Or.inl ⟨by rfl,?_⟩) hHeld ?_
       ·intro wz hSw
        go_simp
       simp only[Act.put,List.setIfInBounds_toArray,List.set_cons_zero,List.set_cons_succ];refine wpAnyH_take (i:=4) (oi:=_) (v:=.pointer (some ⟨wr.heap.size,10,none⟩)) rfl (by kernel_rfl) (by kernel_rfl) (by kernel_rfl) (fun _ _ _ h=>h) (Or.inl ⟨by rfl,?_⟩) hHeld ?_
       ·intro wz hSw
        go_simp
       simp only[Act.put,List.setIfInBounds_toArray,List.set_cons_zero,List.set_cons_succ];refine wpAnyH_take (i:=5) (oi:=_) (v:=.agg #[.bool p.right.start,.bool p.right.fin,.slice rbo p.right.before.length rbc,.slice rso p.right.source.length rsc,.slice rao p.right.after.length rac,.int .i64 p.right.cursor]) rfl (by kernel_rfl) (by kernel_rfl) (by kernel_rfl) (fun _ _ _ h=>h) (Or.inl ⟨by rfl,?_⟩) hHeld ?_
       ·intro wz hSw
        go_simp
       simp only[Act.put,List.setIfInBounds_toArray,List.set_cons_zero,List.set_cons_succ];refine wpAnyH_take (i:=6) (oi:=_) (v:=.func (.func 91) #[] #[.pointer (some ⟨w.heap.size+2,0,none⟩)]) rfl (by kernel_rfl) (by kernel_rfl) (by kernel_rfl) (fun _ _ _ h=>h) (Or.inl ⟨by rfl,?_⟩) hHeld ?_
       ·intro wz hSw
        go_simp
       simp only[Act.put,List.setIfInBounds_toArray,List.set_cons_zero,List.set_cons_succ];refine wpAnyH_ready (rs:= [1,7]) (by kernel_rfl) (by simp) ?_;refine AllReadyH.cons (o:=_) rfl (fun KK hK=> ?_) (AllReadyH.cons (o:=_) rfl (fun KK hK=> ?_) AllReadyH.nil)
       ·as_aux_lemma =>
        go_simp
        refine hK.out _ _ hHeld (fun hHeld=> ?_);clear hK
        try simp only[Act.put,List.setIfInBounds_toArray,List.set_cons_zero,List.set_cons_succ]
        refine wpAnyH_ready (rs:= [7]) (by kernel_rfl) (by simp) ?_;refine AllReadyH.cons (o:=_) rfl (fun KK hK=> ?_) AllReadyH.nil
        go_simp
        refine(HRule.out _ HQ0.out).mono ?_;rintro e w5 ⟨r1,r2,r3,r4,r5,r6,r7,r8,rfl,st5,z5⟩;have q5:=HQ0.out.trans (z5.mono qN);have H5:Hid (Bl wb w5/\V.Leaf tops w5 (fun W=>K.RuIs W (.agg #[.bool p.left.start,.bool p.left.fin,.slice r1 p.left.before.length r2,.slice r3 p.left.source.length r4,.slice r5 p.left.after.length r6,.slice r7 p.right.source.length r8,.int .i64 (V.ruleOf g p.left p.right).cursor]) (V.ruleOf g p.left p.right))):=⟨q5,V.Leaf.zhu (w:=wb) st5 HLt.out z5.size⟩;have x5:=HX2.out _ q5;have hk5:=HKp.out w5 (q5.block _ (by omega));clear st5 z5 q5 hHeld HRule HQ0 HX2;refine hK.out _ _ hk5 (fun hHeld=> ?_);clear hK hk5
        try simp only[Act.put,List.setIfInBounds_toArray,List.set_cons_zero,List.set_cons_succ]
        refine wpAnyH_ready (rs:= [8]) (by kernel_rfl) (by simp) ?_;refine AllReadyH.cons (o:=_) rfl (fun KK hK=> ?_) AllReadyH.nil
        go_simp
        refine(HPut.out _ _ _ _ _ _ _ _ _ H5.out.1 H5.out.2).mono ?_;rintro e w6 ⟨⟨vp',tops',rvs',rfl,ps6,mv6⟩,bl6⟩;obtain⟨o6,n6,c6',rfl⟩:=V.zfn ps6;obtain⟨S6,X6,R6,B6,k6,f6⟩:=HFi.out _ _ _ _ _ H5.out.1 ps6 mv6 bl6;have HS6:=qH S6;have HX6:=qH X6;have HR6:=qH R6;have HB6:=qH B6;have blk6:=(mv6.2.1 wr.heap.size (by have:=H5.out.1.size;omega) (fun hm=>by have:=HLt.out _ hm;have:=HTw.out _ hm;omega)).trans (H5.out.1.block _ (by omega));have blk7:(w6.setCell ⟨w.heap.size+1,2,none⟩ (.slice o6 n6 c6')).heap[wr.heap.size]?=wb.heap[wr.heap.size]?:=(heap_setCell_other w6 ⟨w.heap.size+1,2,none⟩ wr.heap.size _ (by show wr.heap.size≠w.heap.size+1;omega)).trans blk6;have HK7:=qH<|HKp.out _ blk7;have hk6:=HKp.out _ blk6;clear S6 X6 R6 B6 ps6 mv6 bl6 blk6 blk7 H5 HPut HFi HKp hHeld;refine hK.out _ _ hk6 (fun hHeld=> ?_);clear hK hk6
        try simp only[Act.put,List.setIfInBounds_toArray,List.set_cons_zero,List.set_cons_succ]
        refine wpAnyH_take (i:=9) (oi:=_) (v:=.pointer (some ⟨w.heap.size+1,2,none⟩)) rfl (by kernel_rfl) (by kernel_rfl) (by kernel_rfl) (fun _ _ _ h=>h) (Or.inl ⟨by rfl,?_⟩) hHeld ?_
        ·intro wz hSw
         go_simp
        simp only[Act.put,List.setIfInBounds_toArray,List.set_cons_zero,List.set_cons_succ];refine wpAnyH_ready (rs:= [10]) (by kernel_rfl) (by simp) ?_;refine AllReadyH.cons (o:=_) rfl (fun KK hK=> ?_) AllReadyH.nil
        go_simp
        refine hK.out _ _ HK7.out (fun hHeld=> ?_);clear hK hHeld k6 f6;refine wpAnyH_done (by kernel_rfl) ?_ _;go_wp2
        go_roundw
        case rel=>exact⟨k+1,tops',vo,_,rvs',by omega,by go_num,HS6,HX6,HR6,HB6⟩
        case measure=>simp[RowKit.intOf];omega
       ·as_aux_lemma =>
        go_simp
        refine(HRule.out _ HQ0.out).mono ?_;rintro e w5 ⟨r1,r2,r3,r4,r5,r6,r7,r8,rfl,st5,z5⟩;have q5:=HQ0.out.trans (z5.mono qN);have H5:Hid (Bl wb w5/\V.Leaf tops w5 (fun W=>K.RuIs W (.agg #[.bool p.left.start,.bool p.left.fin,.slice r1 p.left.before.length r2,.slice r3 p.left.source.length r4,.slice r5 p.left.after.length r6,.slice r7 p.right.source.length r8,.int .i64 (V.ruleOf g p.left p.right).cursor]) (V.ruleOf g p.left p.right))):=⟨q5,V.Leaf.zhu (w:=wb) st5 HLt.out z5.size⟩;have x5:=HX2.out _ q5;have hk5:=HKp.out w5 (q5.block _ (by omega));clear st5 z5 q5 hHeld HRule HQ0 HX2;refine hK.out _ _ hk5 (fun hHeld=> ?_);clear hK hk5
        try simp only[Act.put,List.setIfInBounds_toArray,List.set_cons_zero,List.set_cons_succ]
        refine wpAnyH_ready (rs:= [1]) (by kernel_rfl) (by simp) ?_;refine AllReadyH.cons (o:=_) rfl (fun KK hK=> ?_) AllReadyH.nil
        go_simp
        refine hK.out _ _ hHeld (fun hHeld=> ?_);clear hK
        try simp only[Act.put,List.setIfInBounds_toArray,List.set_cons_zero,List.set_cons_succ]
        refine wpAnyH_ready (rs:= [8]) (by kernel_rfl) (by simp) ?_;refine AllReadyH.cons (o:=_) rfl (fun KK hK=> ?_) AllReadyH.nil
        go_simp
        refine(HPut.out _ _ _ _ _ _ _ _ _ H5.out.1 H5.out.2).mono ?_;rintro e w6 ⟨⟨vp',tops',rvs',rfl,ps6,mv6⟩,bl6⟩;obtain⟨o6,n6,c6',rfl⟩:=V.zfn ps6;obtain⟨S6,X6,R6,B6,k6,f6⟩:=HFi.out _ _ _ _ _ H5.out.1 ps6 mv6 bl6;have HS6:=qH S6;have HX6:=qH X6;have HR6:=qH R6;have HB6:=qH B6;have blk6:=(mv6.2.1 wr.heap.size (by have:=H5.out.1.size;omega) (fun hm=>by have:=HLt.out _ hm;have:=HTw.out _ hm;omega)).trans (H5.out.1.block _ (by omega));have blk7:(w6.setCell ⟨w.heap.size+1,2,none⟩ (.slice o6 n6 c6')).heap[wr.heap.size]?=wb.heap[wr.heap.size]?:=(heap_setCell_other w6 ⟨w.heap.size+1,2,none⟩ wr.heap.size _ (by show wr.heap.size≠w.heap.size+1;omega)).trans blk6;have HK7:=qH<|HKp.out _ blk7;have hk6:=HKp.out _ blk6;clear S6 X6 R6 B6 ps6 mv6 bl6 blk6 blk7 H5 HPut HFi HKp hHeld;refine hK.out _ _ hk6 (fun hHeld=> ?_);clear hK hk6
        try simp only[Act.put,List.setIfInBounds_toArray,List.set_cons_zero,List.set_cons_succ]
        refine wpAnyH_take (i:=9) (oi:=_) (v:=.pointer (some ⟨w.heap.size+1,2,none⟩)) rfl (by kernel_rfl) (by kernel_rfl) (by kernel_rfl) (fun _ _ _ h=>h) (Or.inl ⟨by rfl,?_⟩) hHeld ?_
        ·intro wz hSw
         go_simp
        simp only[Act.put,List.setIfInBounds_toArray,List.set_cons_zero,List.set_cons_succ];refine wpAnyH_ready (rs:= [10]) (by kernel_rfl) (by simp) ?_;refine AllReadyH.cons (o:=_) rfl (fun KK hK=> ?_) AllReadyH.nil
        go_simp
        refine hK.out _ _ HK7.out (fun hHeld=> ?_);clear hK hHeld k6 f6;refine wpAnyH_done (by kernel_rfl) ?_ _;go_wp2
        go_roundw
        case rel=>exact⟨k+1,tops',vo,_,rvs',by omega,by go_num,HS6,HX6,HR6,HB6⟩
        case measure=>simp[RowKit.intOf];omega
     ·as_aux_lemma =>
      have hS:V.scr g (l.take (k+1))=s:=by rw[hst];unfold V.scrStep;rw[if_neg h3,if_neg h4,if_neg h2]
      have HF:Hid (V.SS (w.heap.size+2) (w.heap.size+1) tops (wr.alloc (.cells #[.int .i64 p.kind,.string p.name,.slice so p.set.length sc,.int .i64 p.dir,.bool p.left.start,.bool p.left.fin,.slice lbo p.left.before.length lbc,.slice lso p.left.source.length lsc,.slice lao p.left.after.length lac,.int .i64 p.left.cursor,.bool p.right.start,.bool p.right.fin,.slice rbo p.right.before.length rbc,.slice rso p.right.source.length rsc,.slice rao p.right.after.length rac,.int .i64 p.right.cursor] 104)) s vo vp rvs):=by rw[<- hwb];exact S1
      have HFx:Hid (V.Leaf tops (wr.alloc (.cells #[.int .i64 p.kind,.string p.name,.slice so p.set.length sc,.int .i64 p.dir,.bool p.left.start,.bool p.left.fin,.slice lbo p.left.before.length lbc,.slice lso p.left.source.length lsc,.slice lao p.left.after.length lac,.int .i64 p.left.cursor,.bool p.right.start,.bool p.right.fin,.slice rbo p.right.before.length rbc,.slice rso p.right.source.length rsc,.slice rao p.right.after.length rac,.int .i64 p.right.cursor] 104)) fun W=>W.heap[w.heap.size+2]?=some (.cells #[.map (some B)] 66)):=by rw[<- hwb];exact X1
      have HFr:Hid ((∀q,q<=w.heap.size->q∈tops)/\(wr.alloc (.cells #[.int .i64 p.kind,.string p.name,.slice so p.set.length sc,.int .i64 p.dir,.bool p.left.start,.bool p.left.fin,.slice lbo p.left.before.length lbc,.slice lso p.left.source.length lsc,.slice lao p.left.after.length lac,.int .i64 p.left.cursor,.bool p.right.start,.bool p.right.fin,.slice rbo p.right.before.length rbc,.slice rso p.right.source.length rsc,.slice rao p.right.after.length rac,.int .i64 p.right.cursor] 104)).heap[w.heap.size]?=some (.cells #[.bool false,.slice none 0 0,.slice none 0 0] 30)):=by rw[<- hwb];exact⟨HRs.out.1,R1⟩
      have HFb:Hid (Bl w (wr.alloc (.cells #[.int .i64 p.kind,.string p.name,.slice so p.set.length sc,.int .i64 p.dir,.bool p.left.start,.bool p.left.fin,.slice lbo p.left.before.length lbc,.slice lso p.left.source.length lsc,.slice lao p.left.after.length lac,.int .i64 p.left.cursor,.bool p.right.start,.bool p.right.fin,.slice rbo p.right.before.length rbc,.slice rso p.right.source.length rsc,.slice rao p.right.after.length rac,.int .i64 p.right.cursor] 104))):=by rw[<- hwb];exact hBw
      have HSt:=qH hS;clear hcell hcs hst hsm hok3 hok4 hok2 S1 X1 R1 hBw hS hbx bb HSm HOk HS HBx hP hwb hvp hvo HRs HB;go_wp2
      go_roundw
      case rel=>exact⟨k+1,tops,vo,vp,rvs,by omega,by go_num,by rw[HSt.out];exact HF,HFx,HFr,HFb⟩
      case measure=>simp[RowKit.intOf];omega
  ·as_aux_lemma =>
   have hkl:l.take k=l:=List.take_of_length_le (by omega);rw[hkl] at HS;obtain⟨oo,oc,hvo⟩:=V.zcx HS.out.only.here;obtain⟨po,pn,pc,hvp⟩:=V.zfn HS.out.pas;subst hvo hvp;obtain⟨q0,q1,q2,_⟩:=V.box3 HS.out.box;obtain⟨r0,r1,r2,f0,f1,f2⟩:=V.box3 HRs.out.2;have lr:=L.block_lt r0;have lq:=L.block_lt q0;clear hkl;go_wp2;refine bodyPost_ret (v:=.agg #[.bool (V.scr g l).has,.slice oo (V.scr g l).only.length oc,.slice po pn pc]) (by simp[results,results32,go_sem, *]) rfl ?_;have hm:=HRs.out.1 _ qN;have o:=HS.out;refine⟨tops,_,_,rvs,rfl,((o.only.moves (V.Moves.store wr 0 _ hm)).moves (V.Moves.store _ 1 _ hm)).moves (V.Moves.store _ 2 _ hm),o.few,((o.pas.store 0 _ hm (by omega)).store 1 _ hm (by omega)).store 2 _ hm (by omega),o.nil,HRs.out.1,((HB.out.setCell (p:=⟨w.heap.size,0,none⟩) qN _).setCell (p:=⟨w.heap.size,1,none⟩) qN _).setCell (p:=⟨w.heap.size,2,none⟩) qN _⟩
end
section
open Go.RowKit Go.Shelf
theorem V.zal {w:World}{g:Nat}{c:Array Value}{t:TypeId}(h:w.heap[g]?=some (.cells c t))(o:Obj)(i:Nat):(w.alloc o).frozen? ⟨g,i,none⟩=false:=by
 have e:=Below.heap_alloc w o g (qA.1 h).1;rw[World.frozen?,show (w.alloc o).heap[(⟨g,i,none⟩:Addr).block]?=w.heap[g]? from e,h];simp
theorem V.zai {w:World}{a:Addr}{v:Value}(h:w.cell? a=some v)(o:Obj):(w.alloc o).cell? a=some v:=by
 have e:=Below.heap_alloc w o a.block (World.block_lt_of_cell? w a h);rw[World.cell?_of_block e];exact h
theorem V.box2 {w:World}{g:Nat}{a b:Value}{t:TypeId}(hg:w.heap[g]?=some (.cells #[a,b] t)):w.cell? ⟨g,0,none⟩=some a/\w.cell? ⟨g,1,none⟩=some b/\w.frozen? ⟨g,0,none⟩=false/\w.frozen? ⟨g,1,none⟩=false:=by
 refine⟨?_,?_,?_,?_⟩
 ·rw[World.cell?];simp[hg]
 ·rw[World.cell?];simp[hg]
 ·rw[World.frozen?];simp[hg]
 ·rw[World.frozen?];simp[hg]
namespace V
def Tells (w:World) (f:ByteArray->Option Value) (kn:Known):Prop :=
 ∀s:ByteArray,(f s).isSome=(kn s).isSome/\S.Rd w ((f s).getD (.slice none 0 0)) ((kn s).getD [])/\((kn s).getD []).length<=200/\S.Fit ((kn s).getD [])
theorem Tells.none (w:World):Tells w (fun _=>none) (fun _=>none):=fun _=>⟨rfl,S.Rd.nil w,by simp,fun x hx=>by cases hx⟩
theorem Tells.below {w w':World}{f:ByteArray->Option Value}{kn:Known}{B:Nat}(h:Tells w f kn)(hb:Below B w w')(hB:w.heap.size<=B):Tells w' f kn:=fun s=>⟨(h s).1,(h s).2.1.below hb hB,(h s).2.2⟩
theorem Tells.unk {w:World}{f:ByteArray->Option Value}{kn:Known}(h:Tells w f kn):V.unk f=unkP kn:=by
 funext x;unfold V.unk unkP;rw[(h x.name).1]
theorem Tells.unkS {w:World}{f:ByteArray->Option Value}{kn:Known}(h:Tells w f kn)(s:R.Side):V.unkS f s=unkSP kn s:=by
 unfold V.unkS unkSP;rw[h.unk]
def VarsIs (w:World) (B:Nat) (kn:Known):Prop:=∃n f,V.MapIs w B n f/\Tells w f kn
end V
theorem zhc (w:World)(v:Value)(l:List R.Part)(R0:R.Pts w v l)(hbad:¬(R.wrong l).1=0) :
  Calls prog 31 #[v] w fun e w'=>e=.returned (.tuple #[.map none,.agg #[.int .i64 (R.wrong l).1,.int .i64 (R.wrong l).2]])/\Bl w w':=by
 have HA:=qH<|fun o=>(qR w).alloc qN o
 have HW:=qH<|fun o=>zjn _ _ l (R0.below (HA.out o))
 obtain⟨ao,cap,rfl⟩:=R0.len;obtain⟨⟨e1,e2⟩,he⟩:∃o,R.wrong l=o:=⟨_,rfl⟩;rw[he] at HW hbad ⊢;simp only at HW hbad ⊢;clear he R0
 go_enter func31,ntmps31
 go_wp2_with fail
 refine(HW.out _).mono ?_;rintro e w1 ⟨rfl,b1⟩;obtain⟨h1,B1,s1⟩:=K.zau b1;have HB2:=qH<|fun o=>B1.alloc (by omega) o
 have k0:∀o,(w1.alloc o).cell? ⟨w.heap.size,0,none⟩=some (.int .i64 0):=fun o=>V.zai (K.zad h1 rfl) o
 have k1:∀o,(w1.alloc o).cell? ⟨w.heap.size,1,none⟩=some (.int .i64 0):=fun o=>V.zai (K.zad h1 rfl) o
 have g0:=fun o i=>V.zal h1 o i
 clear b1 B1 HW h1;go_wp2
 go_region
 go_wp2;refine bodyPost_ret (v:=.tuple #[.map none,.agg #[.int .i64 e1,.int .i64 e2]]) (by simp[results,results31,go_sem, *]) rfl ?_
 exact⟨rfl,(((HB2.out _).setCell (p:=⟨w.heap.size,0,none⟩) qN _).setCell (p:=⟨w.heap.size,1,none⟩) qN _).drew⟩
theorem V.zpn {p:R.Part}(hE:R.partE p=0):(p.kind=1∨p.kind=3->S.wrongE p.set=0)/\(p.kind=2->R.ruleE p=0)/\(p.kind=1∨p.kind=2∨p.kind=3∨p.kind=4):=by
 unfold R.partE at hE
 by_cases h1:p.kind=1
 ·rw[if_pos h1] at hE;refine⟨fun _=> ?_,fun h=>by omega,.inl h1⟩;split at hE
  ·exact hE
  ·exact absurd hE (by decide)
 ·rw[if_neg h1] at hE
  by_cases h3:p.kind=3
  ·rw[if_pos h3] at hE;exact⟨fun _=>hE,fun h=>by omega,by omega⟩
  ·rw[if_neg h3] at hE
   by_cases h4:p.kind=4
   ·exact⟨fun h=>by omega,fun h=>by omega,by omega⟩
   ·rw[if_neg h4] at hE
    by_cases h2:p.kind=2
    ·rw[if_pos h2] at hE;exact⟨fun h=>by omega,fun _=>hE,by omega⟩
    ·rw[if_neg h2] at hE;exact absurd hE (by decide)
theorem zsg (w0 w:World)(hX:Bl w0 w)(v:Value)(p:R.Part)(bm bf bu B n:Nat)(f:ByteArray->Option Value)(kn:V.Known)(flt:Bool)(HE:V.Env w bm bf bu B n f flt)(HT:V.Tells w0 f kn)(RR:R.PtIs w0 v p)(hp:R.partE p=0)(hn:n<=1000)(F:Nat)(hF:F<=B/\F<=bf/\F<=w.heap.size) :
  Calls prog 89 #[v,.pointer (some ⟨bm,0,none⟩),.pointer (some ⟨bf,0,none⟩),.pointer (some ⟨bu,0,none⟩)] w fun e w' =>
   e=.returned (.int .i64 (V.stepE kn flt p))/\(V.stepE kn flt p=0->∃n' f',n'<=n+1/\V.Env w' bm bf bu B n' f' (V.stepF flt p)/\V.Tells w0 f' (V.stepK kn p))/\Below F w w':=by
 have RR':=RR.keeps (R.Keeps.of_below hX qN);obtain⟨hset,hrule,hkind⟩:=V.zpn hp;unfold V.stepE V.stepF V.stepK
 by_cases h1:p.kind=1
 ·simp only[if_pos h1,if_neg (show ¬p.kind=3 by omega)];refine(zsf w v p bm bf bu B n f flt HE RR' h1 (by omega) F ⟨hF.1,hF.2.2⟩).mono ?_;rintro e w' ⟨h,hb⟩;rw[(HT p.name).1] at h;rcases h with ⟨hs,he,henv⟩|⟨hs,he,so,sc,hv,hr,henv⟩
  ·rw[if_pos hs];exact⟨he,fun h=>absurd h (by decide),hb⟩
  ·rw[if_neg (by rw[hs];decide)];refine⟨he,fun _=>⟨n+1,_,qN,henv,fun t=> ?_⟩,hb⟩
   by_cases ht:t=p.name
   ·simp only[if_pos ht];have hz:=hset (.inl h1);obtain⟨so',sc',v4,v5,v6,v7,v8,v9,v10,v11,v12,v13,v14,v15,hv',hr',hf',_⟩:=RR;rw[hv'] at hv;have hv2:Value.slice so' p.set.length sc'=.slice so p.set.length sc:=by simpa [V.setVal] using hv
    rw[<- hv2];exact⟨rfl,hr',(S.zan.1 hz).1,hf'⟩
   ·simp only[if_neg ht];exact HT t
 ·by_cases h3:p.kind=3
  ·simp only[if_neg h1,if_pos h3];refine(zkp w v p bm bf bu B n f flt HE RR' h3 F ⟨hF.2.1,hF.2.2⟩).mono ?_;rintro e w' ⟨he,henv,hb⟩;exact⟨he,fun _=>⟨n,f,by omega,henv,HT⟩,hb⟩
  ·by_cases h2:p.kind=2
   ·simp only[if_neg h1,if_neg h3,if_pos h2];obtain⟨_,hl,hr,_⟩:=R.zas (hrule h2)
    have hfew:∀(s:R.Side) m,R.sideE s m=0->V.Few s:=fun s m h=>by
     obtain⟨a,b,c,_⟩:=R.zbx h;have h1:=(R.zb1.1 a).1;have h2:=(R.zb1.1 b).1;have h3:=(R.zb1.1 c).1;exact⟨by omega,by omega,by omega⟩
    refine(zpw w v p bm bf bu B n f flt HE RR' h2 ⟨hfew _ _ hl,hfew _ _ hr⟩).mono ?_;rintro e w' ⟨he,henv,hb⟩;rw[HT.unkS,HT.unkS] at he;exact⟨he,fun _=>⟨n,f,by omega,henv,HT⟩,hb.mono hF.2.2⟩
   ·simp only[if_neg h1,if_neg h3,if_neg h2];refine(zpx w v p bm bf bu B n f flt HE RR' ⟨h1,h2,h3⟩).mono ?_;rintro e w' ⟨he,henv,hb⟩;exact⟨he,fun _=>⟨n,f,by omega,henv,HT⟩,hb.mono hF.2.2⟩
theorem zh8 (w:World)(v:Value)(l:List R.Part)(R0:R.Pts w v l)(hgood:(R.wrong l).1=0)(o1:Int)(o2:Nat)(okn:V.Known)(hO:V.ordF 0 (fun _=>none) false l=((o1,o2),okn)) :
  Calls prog 31 #[v] w fun e w'=>((o1=0/\∃B,e=.returned (.tuple #[.map (some B),.agg #[.int .i64 0,.int .i64 0]])/\V.VarsIs w' B okn)∨(o1≠0/\e=.returned (.tuple #[.map none,.agg #[.int .i64 o1,.int .i64 o2]])))/\Bl w w':=by
 obtain⟨hl,hE,hck⟩:=R.zgb hgood;have HO:=qH hO;have HE:=qH hE;have HA:=qH<|fun o=>(qR w).alloc qN o
 have HW:Hid (∀o,Calls prog 53 #[v] (w.alloc o) fun e w'=>e=.returned (.agg #[.int .i64 0,.int .i64 0])/\Below (w.alloc o).heap.size (w.alloc o) w'):=fun o=>by
  have h:=zjn _ _ l (R0.below (HA.out o));rw[hck] at h;exact h
 have HR:=qH R0;obtain⟨ao,cap,rfl⟩:=R0.len;have eg:∀args w,(callFunc 89 args).run prog w=.ok (.enter 89 args) w:=enters_of func89 (by kernel_rfl) rfl;have hmm:=@run_makeMap prog;clear R0 hO hE hck hgood
 go_enter func31,ntmps31
 go_wp2_with fail
 refine(HW.out _).mono ?_;rintro e w1 ⟨rfl,b1⟩;obtain⟨h1,B1,s1⟩:=K.zau b1;obtain⟨w2,hw2⟩:=qE (w1.alloc (.cells #[.int .i64 0,.int .i64 0] 36));have hB2:Bl w w2:=by rw[hw2];exact B1.alloc (by omega) _
 have hX2:w2.heap[w.heap.size]?=some (.cells #[.int .i64 0,.int .i64 0] 36):=by rw[hw2];exact(Below.heap_alloc w1 _ _ (by omega)).trans h1
 have hs2:=(qA.1 hX2).1;have hb3:Bl w2 (w2.alloc (.map #[] 0)):=(qR w2).alloc qN _
 have HOr:Hid (Calls prog 54 #[.map (some w2.heap.size)] (w2.alloc (.map #[] 0)) fun e w'=>e=.returned (.func (.func 89) #[] #[.pointer (some ⟨(w2.alloc (.map #[] 0)).heap.size,0,none⟩),.pointer (some ⟨(w2.alloc (.map #[] 0)).heap.size+1,0,none⟩),.pointer (some ⟨(w2.alloc (.map #[] 0)).heap.size+2,0,none⟩)]) /\
   V.Env w' (w2.alloc (.map #[] 0)).heap.size ((w2.alloc (.map #[] 0)).heap.size+1) ((w2.alloc (.map #[] 0)).heap.size+2) w2.heap.size 0 (fun _=>none) false/\Below (w2.alloc (.map #[] 0)).heap.size (w2.alloc (.map #[] 0)) w'/\w'.heap.size=(w2.alloc (.map #[] 0)).heap.size+3):=zpt _ _ _ _ (V.MapIs.made w2)
 have hsz3:(w2.alloc (.map #[] 0)).heap.size=w2.heap.size+1:=by simp
 rw[hsz3] at HOr;have hsz2:w2.heap.size=w1.heap.size+1:=by rw[hw2];simp
 have HB2:=qH hB2;have HX2:=qH hX2;clear b1 B1 HW h1 hB2 hX2 HA
 go_wp2_with fail
 rw[<- hw2,<- hsz2];refine HOr.out.mono ?_;rintro e w3 ⟨rfl,env3,b3,s3⟩;have HEnv:=qH env3;have HB3:=qH<|hb3.trans (b3.mono (by omega));obtain⟨Q,hQ⟩:=qE w2.heap.size;rw[<- hQ];clear b3 s3 env3 HOr hw2 hsz2 hsz3 hb3;go_wp2
 go_loopw [21] (fun i wr=>∃(k n:Nat) (f:ByteArray->Option Value) (kn:V.Known) (flt:Bool),k<=l.length/\i=.int .i64 k/\n<=k/\Hid (V.ordF k kn flt (l.drop k)=((o1,o2),okn))/\Hid (V.Env wr (w2.heap.size+1) (w2.heap.size+1+1) (w2.heap.size+1+2) w2.heap.size n f flt)/\Hid (V.Tells w f kn)/\Hid (Bl w2 wr)) (fun i _=>l.length-(RowKit.intOf i).toNat)
 case atStart=>exact⟨0,0,_,_,_,Nat.zero_le _,rfl,qN,HO,HEnv,V.Tells.none w,HB3⟩
 case round =>
  clear HO HEnv HB3;obtain⟨k,n,f,kn,flt,hk,rfl,hnk,HP,HV,HT,HB⟩:=hrel;have HBW:=qH<|HB2.out.trans (HB.out.mono (by omega))
  have HXr:Hid (wr.heap[w.heap.size]?=some (.cells #[.int .i64 0,.int .i64 0] 36)):=by
   show _=_;rw[HB.out.block _ hs2];exact HX2.out
  by_cases hlt:k<l.length
  ·obtain⟨p,hp⟩:∃x,l[k]?=some x:=⟨l[k],by simp[hlt]⟩;obtain⟨ao',cap',e',hcs⟩:=HR.out;cases e';obtain⟨b,off,rfl,hcell⟩:=hcs (by intro h;subst h;simp at hlt);obtain⟨so,sc,lbo,lbc,lso,lsc,lao,lac,rbo,rbc,rso,rsc,rao,rac,c0,c1,c2,c3,c4,c5,c6,c7,c8,c9,c10,c11,c12,c13,c14,c15,hP⟩:=hcell k p hp;have lb:=L.block_lt c0;rw[<- HBW.out.cell (p:=⟨b,off+k*16,none⟩) lb] at c0;rw[<- HBW.out.cell (p:=⟨b,off+k*16+1,none⟩) lb] at c1;rw[<- HBW.out.cell (p:=⟨b,off+k*16+2,none⟩) lb] at c2;rw[<- HBW.out.cell (p:=⟨b,off+k*16+3,none⟩) lb] at c3;rw[<- HBW.out.cell (p:=⟨b,off+k*16+4,none⟩) lb] at c4;rw[<- HBW.out.cell (p:=⟨b,off+k*16+5,none⟩) lb] at c5;rw[<- HBW.out.cell (p:=⟨b,off+k*16+6,none⟩) lb] at c6;rw[<- HBW.out.cell (p:=⟨b,off+k*16+7,none⟩) lb] at c7;rw[<- HBW.out.cell (p:=⟨b,off+k*16+8,none⟩) lb] at c8;rw[<- HBW.out.cell (p:=⟨b,off+k*16+9,none⟩) lb] at c9;rw[<- HBW.out.cell (p:=⟨b,off+k*16+10,none⟩) lb] at c10;rw[<- HBW.out.cell (p:=⟨b,off+k*16+11,none⟩) lb] at c11;rw[<- HBW.out.cell (p:=⟨b,off+k*16+12,none⟩) lb] at c12;rw[<- HBW.out.cell (p:=⟨b,off+k*16+13,none⟩) lb] at c13;rw[<- HBW.out.cell (p:=⟨b,off+k*16+14,none⟩) lb] at c14;rw[<- HBW.out.cell (p:=⟨b,off+k*16+15,none⟩) lb] at c15;have HE2:Hid (V.ordF k kn flt (l.drop k)=if V.stepE kn flt p=0 then V.ordF (k+1) (V.stepK kn p) (V.stepF flt p) (l.drop (k+1)) else ((V.stepE kn flt p,k),fun _=>none)):=V.zpu hp;have hEp:=HE.out p (List.mem_of_getElem? hp)
   have HN:Hid (∀o,Calls prog 89 #[.agg #[.int .i64 p.kind,.string p.name,.slice so p.set.length sc,.int .i64 p.dir,.bool p.left.start,.bool p.left.fin,.slice lbo p.left.before.length lbc,.slice lso p.left.source.length lsc,.slice lao p.left.after.length lac,.int .i64 p.left.cursor,.bool p.right.start,.bool p.right.fin,.slice rbo p.right.before.length rbc,.slice rso p.right.source.length rsc,.slice rao p.right.after.length rac,.int .i64 p.right.cursor],.pointer (some ⟨w2.heap.size+1,0,none⟩),.pointer (some ⟨w2.heap.size+1+1,0,none⟩),.pointer (some ⟨w2.heap.size+1+2,0,none⟩)] (wr.alloc o) fun e w' =>
     e=.returned (.int .i64 (V.stepE kn flt p))/\(V.stepE kn flt p=0->∃n' f',n'<=n+1/\V.Env w' (w2.heap.size+1) (w2.heap.size+1+1) (w2.heap.size+1+2) w2.heap.size n' f' (V.stepF flt p)/\V.Tells w f' (V.stepK kn p))/\Below w2.heap.size (wr.alloc o) w'):=fun o =>
    zsg w (wr.alloc o) (HBW.out.alloc HBW.out.size o) _ p _ _ _ _ n f kn flt (HV.out.below ((qR wr).alloc qN o)) HT.out hP hEp (by omega) w2.heap.size ⟨qN,by omega,by have:=HB.out.size;simp;omega⟩
   obtain⟨z,HZ⟩:∃z,Hid (V.stepE kn flt p=z):=⟨_,rfl⟩;rw[HZ.out] at HN HE2;generalize V.stepK kn p=kn' at HN HE2;generalize V.stepF flt p=flt' at HN HE2;have HAl:=qH<|fun o=>HB.out.alloc HB.out.size o
   have hw2r:=HB.out.size;clear hp hcell hcs hP hEp HZ HV HT;obtain⟨pk,pn,ps,pd,⟨lst,lfi,lbe,lsr,laf,lcu⟩,⟨rst,rfi,rbe,rsr,raf,rcu⟩⟩:=p;simp only at c0 c1 c2 c3 c4 c5 c6 c7 c8 c9 c10 c11 c12 c13 c14 c15 HN
   go_wp2_with fail
   refine(HN.out _).mono ?_;rintro e w4 ⟨rfl,hst,b4⟩;have HB4:=qH<|(HAl.out _).trans b4
   have hX4:w4.heap[w.heap.size]?=some (.cells #[.int .i64 0,.int .i64 0] 36):=by
    rw[HB4.out.block _ hs2];exact HX2.out
   clear b4 HN HAl c0 c1 c2 c3 c4 c5 c6 c7 c8 c9 c10 c11 c12 c13 c14 c15
   by_cases hz:z=0
   ·subst hz;obtain⟨n',f',hn',env',tells'⟩:=hst rfl;have HV':=qH env';have HT':=qH tells';clear hst env' tells' hX4;go_wp2
    go_roundw
    case rel=>exact⟨k+1,n',f',kn',flt',by omega,by go_num,by omega,by show _=_;rw[<- HP.out,HE2.out];simp,HV',HT',HB4⟩
    case measure=>simp[RowKit.intOf];omega
   ·obtain⟨x0,x1,f0,f1⟩:=V.box2 hX4;have HBW4:=qH<|HB2.out.trans (HB4.out.mono (by omega));clear hst hX4;go_wp2;refine bodyPost_ret (v:=.tuple #[.map none,.agg #[.int .i64 z,.int .i64 k]]) (by simp[results,results31,go_sem, *]) rfl ?_;have h:=HE2.out;rw[HP.out,if_neg hz] at h;cases h;exact⟨.inr ⟨hz,rfl⟩,(HBW4.out.setCell (p:=⟨w.heap.size,0,none⟩) qN _).setCell (p:=⟨w.heap.size,1,none⟩) qN _⟩
  ·have h:=HP.out;rw[List.drop_eq_nil_of_le (by omega)] at h;have HP2:Hid ((((0:Int),(0:Nat)),kn)=((o1,o2),okn)):=h;obtain⟨x0,x1,f0,f1⟩:=V.box2 HXr.out;clear h HP;go_wp2;refine bodyPost_ret (v:=.tuple #[.map (some w2.heap.size),.agg #[.int .i64 0,.int .i64 0]]) (by simp[results,results31,go_sem, *]) rfl ?_;have he:=HP2.out;simp only[Prod.mk.injEq] at he;obtain⟨⟨rfl,rfl⟩,rfl⟩:=he;have hbb:=HB.out;refine⟨.inl ⟨rfl,w2.heap.size,rfl,n,f,HV.out.2.2.2.1.block ?_,fun s=> ?_⟩,(HBW.out.setCell (p:=⟨w.heap.size,0,none⟩) qN _).setCell (p:=⟨w.heap.size,1,none⟩) qN _⟩
   ·rw[heap_setCell_other _ ⟨w.heap.size,1,none⟩ _ _ (by simp;omega),heap_setCell_other _ ⟨w.heap.size,0,none⟩ _ _ (by simp;omega)]
   ·have hfin:=(HBW.out.setCell (p:=⟨w.heap.size,0,none⟩) qN (.int .i64 0)).setCell (p:=⟨w.heap.size,1,none⟩) qN (.int .i64 0);exact HT.out.below hfin qN s
theorem zbr (w:World)(v:Value)(l:List R.Part)(R0:R.Pts w v l) :
  Calls prog 31 #[v] w fun e w'=>(((V.varsF l).1.1=0/\∃B,e=.returned (.tuple #[.map (some B),.agg #[.int .i64 0,.int .i64 0]])/\V.VarsIs w' B (V.varsF l).2)∨((V.varsF l).1.1≠0/\e=.returned (.tuple #[.map none,.agg #[.int .i64 (V.varsF l).1.1,.int .i64 (V.varsF l).1.2]])))/\Bl w w':=by
 unfold V.varsF
 by_cases hg:(R.wrong l).1=0
 ·rw[if_pos hg];obtain⟨⟨⟨o1,o2⟩,okn⟩,hO⟩:∃o,V.ordF 0 (fun _=>none) false l=o:=⟨_,rfl⟩;rw[hO];exact zh8 w v l R0 hg o1 o2 okn hO
 ·rw[if_neg hg];exact(zhc w v l R0 hg).mono fun e w' ⟨h1,h2⟩=>⟨.inr ⟨hg,h1⟩,h2⟩
end
section
open Go.RowKit
namespace V
theorem zfo:∀ {ps:List Pass} {rvs:List Value} {j:Nat} {p:Pass} {rv:Value},ps[j]?=some p->rvs[j]?=some rv->(pcells ps rvs)[j*2]?=some (.string p.name)/\(pcells ps rvs)[j*2+1]?=some rv
 | [],_,j,p,rv,h,_=>by simp at h
 | _::_,[],j,p,rv,_,h=>by simp at h
 | q::ps,sv::rvs,0,p,rv,h1,h2=>by
  cases h1;cases h2;exact⟨rfl,rfl⟩
 | q::ps,sv::rvs,j+1,p,rv,h1,h2=>by
  have h:=zfo (ps:=ps) (rvs:=rvs) (j:=j) (p:=p) (rv:=rv) (by simpa using h1) (by simpa using h2);have e1:(j+1)*2=j*2+1+1:=by omega
  have e2:(j+1)*2+1=j*2+1+1+1:=by omega
  have e:pcells (q::ps) (sv::rvs)=.string q.name::sv::pcells ps rvs:=rfl;rw[e,e2,e1];simpa using h
theorem RuRow.rus {F:Nat}{tops:List Nat}{w:World}{rv:Value}{rs:List K.Rule}(h:RuRow F tops w rv rs)(hl:rs.length<=1000):Rus w rv rs:=by
 obtain⟨cs,own,hcl,hcs,hm⟩:=h;rcases own.2 with ⟨e,h0⟩|⟨g,cap,cur,e,_⟩
 ·have:rs= []:=List.length_eq_zero_iff.1 h0;subst this;subst e;exact Rus.nil w
 ·subst e;refine⟨some ⟨g,0,none⟩,cap,rfl,by omega,fun _=>⟨g,0,rfl,fun j r hj=> ?_⟩⟩;have hcell:=World.ownsRow.cells own (g:=g) rfl
  obtain⟨c,hc⟩:∃c,cs[j]?=some c:=by
   have:j<cs.length:=by rw[hcl];exact(qL.1 hj).1
   exact⟨cs[j],by simp[this]⟩
  have hr:=(hm j r c hj hc).here;obtain⟨bo,bc,so,sc,ao,ac,to',tc,he,hrest⟩:=hr
  have he2:c= [.bool r.start,.bool r.fin,.slice bo r.before.length bc,.slice so r.source.length sc,.slice ao r.after.length ac,.slice to' r.target.length tc,.int .i64 r.cursor]:=by
   have h2:=Value.agg.inj he;simpa using congrArg Array.toList h2
  have at':∀(q:Nat) u,c[q]?=some u->w.cell? ⟨g,0+j*7+q,none⟩=some u:=fun q u hq=>by
   have h1:=hcell (j*7+q) u (R.flat_get (k:=7) (fun c hc=>(hcs c hc).1) j q c u hc hq);rw[L.addr_add] at h1;simpa [Nat.add_assoc] using h1
  subst he2;exact⟨bo,bc,so,sc,ao,ac,to',tc,at' 0 _ rfl,at' 1 _ rfl,at' 2 _ rfl,at' 3 _ rfl,at' 4 _ rfl,at' 5 _ rfl,at' 6 _ rfl,⟨bo,bc,so,sc,ao,ac,to',tc,rfl,hrest⟩⟩
theorem PS.pas {F:Nat}{tops:List Nat}{w:World}{vp:Value}{ps:List Pass}{rvs:List Value}(h:PS F tops w vp ps rvs)(hl:ps.length<=1000)(hr:∀p∈ps,p.rules.length<=1000):Pas w vp ps:=by
 rcases h.own.2 with ⟨e,h0⟩|⟨g,cap,cur,e,_⟩
 ·have:ps= []:=List.length_eq_zero_iff.1 h0;subst this;subst e;exact Pas.nil w
 ·subst e;refine⟨some ⟨g,0,none⟩,cap,rfl,by omega,fun _=>⟨g,0,rfl,fun j p hj=> ?_⟩⟩
  obtain⟨rv,hrv⟩:∃rv,rvs[j]?=some rv:=by
   have:j<rvs.length:=by rw[h.len];exact(qL.1 hj).1
   exact⟨rvs[j],by simp[this]⟩
  have hcell:=World.ownsRow.cells h.own (g:=g) rfl;obtain⟨a1,a2⟩:=zfo hj hrv;have c1:=hcell _ _ a1;have c2:=hcell _ _ a2;rw[L.addr_add] at c1 c2;obtain⟨hrow,hn⟩:=h.rows j p rv hj hrv;have hrus:=hrow.rus (hr p (List.mem_of_getElem? hj));obtain⟨ro,rc,rfl⟩:=hrus.len;exact⟨c1,hn,ro,rc,by simpa [Nat.add_assoc] using c2,hrus⟩
theorem zk0 {l:List S.Sp}(h:S.wrongE l=0):S.Fit l:=S.Fit.zdh (S.zan.1 h).2 (by decide)
theorem zb4 {l:List R.Item}(h:R.itemsE l=0):Right l:=R.zb1.1 h
theorem zg1 {g:ByteArray->List S.Sp}(hg:∀s,S.Fit (g s)){x:R.Item}(h:R.itemE x=0):S.Fit (setOf g x):=by
 rcases R.zkv h with ⟨h1,h2⟩|⟨h1,h2⟩|⟨h1,h2⟩
 ·have h3:0<=x.rune/\x.rune<=1114111:=by
   simp only[M.right,decide_eq_true_eq] at h2;omega
  unfold setOf;simp only[h1];intro y hy;simp at hy;subst hy;simp only;omega
 ·unfold setOf;simp only[h1];simpa using zk0 h2
 ·unfold setOf;simp only[h1];simpa using hg _
theorem zm3 {ps:List Pass}{r:K.Rule}{k:Nat}(h:ps.length<=k/\∀p∈ps,p.rules.length<=k):(putP ps r).length<=k+1/\∀p∈putP ps r,p.rules.length<=k+1:=by
 unfold putP;cases hl:ps.getLast? with
 | none =>
  have:ps= []:=List.getLast?_eq_none_iff.1 hl;subst this;simp
 | some q =>
  obtain⟨init,rfl⟩:=List.getLast?_eq_some_iff.1 hl;have hq:=h.2 q (by simp);have hi:∀p∈init,p.rules.length<=k:=fun p hp=>h.2 p (by simp[hp])
  have hlen:=h.1;simp at hlen;simp only;split
  ·refine⟨by simp;omega,fun p hp=> ?_⟩;simp at hp;rcases hp with hp|rfl
   ·have:=hi p hp;omega
   ·simp;omega
  ·refine⟨by simp;omega,fun p hp=> ?_⟩;simp at hp;rcases hp with hp|rfl|rfl
   ·have:=hi p hp;omega
   ·omega
   ·simp
theorem zhl {g:ByteArray->List S.Sp}{s:Script}{p:R.Part}{k:Nat}(h:s.passes.length<=k/\∀p∈s.passes,p.rules.length<=k):(scrStep g s p).passes.length<=k+1/\∀q∈(scrStep g s p).passes,q.rules.length<=k+1:=by
 have h':s.passes.length<=k+1/\∀p∈s.passes,p.rules.length<=k+1:=⟨by have:=h.1;omega,fun p hp=>by have:=h.2 p hp;omega⟩;unfold scrStep;split
 ·exact h'
 ·split
  ·refine⟨by have:=h.1;simp;omega,fun q hq=> ?_⟩;simp at hq;rcases hq with hq|rfl
   ·exact h'.2 q hq
   ·simp
  ·split
   ·split
    ·exact h'
    ·exact zm3 h
   ·exact h'
theorem zdu (g:ByteArray->List S.Sp)(l:List R.Part):∀k,k<=l.length->(scr g (l.take k)).passes.length<=k/\∀p∈(scr g (l.take k)).passes,p.rules.length<=k:=by
 intro k
 induction k with
 | zero=>intro _;simp[scr]
 | succ k ih =>
  intro hk;have e:l.take (k+1)=l.take k++ [l[k]]:=by rw[List.take_add_one,List.getElem?_eq_getElem (by omega)];rfl
  have h:=zhl (g:=g) (p:=l[k]) (ih (by omega));rw[e];unfold scr at h ⊢;rw[List.foldl_append];exact h
end V
