import Derived.Test.YtcadaallpiekiaaGreatDoorTMath
namespace Go.Proofs.YtcadaallpiekiaaGreatDoor
open Go.Proofs.Tryz
namespace R
open S (Sp)
structure Item where
 kind:Int
 rune:Int
 set:List Sp
 name:ByteArray
structure Side where
 start:Bool
 fin:Bool
 before:List Item
 source:List Item
 after:List Item
 cursor:Int
structure Part where
 kind:Int
 name:ByteArray
 set:List Sp
 dir:Int
 left:Side
 right:Side
def letter (r:Int):Bool:=(decide (97<=r)&&decide (r<=122))||decide (r=95)
def digit (r:Int):Bool:=decide (48<=r)&&decide (r<=57)
def good (i:Nat) (b:UInt8):Bool:=letter b.toNat||(decide (i≠0)&&digit b.toNat)
def goodFrom:Nat->List UInt8->Bool
 | _,[]=>true
 | i,b::l=>good i b&&goodFrom (i+1) l
def named (s:ByteArray):Bool:=goodFrom 0 s.data.toList&&decide (0<s.size)&&decide (s.size<=20)
def passes (s:ByteArray):Bool:=decide (s.toList= [108,111,119,101,114]∨s.toList= [110,117,108,108]∨s.toList= [114,101,109,111,118,101]∨s.toList= [117,112,112,101,114])
def itemE (x:Item):Int :=
 if x.kind=1 then (if M.right x.rune=true then 0 else 3)
 else if x.kind=2 then S.wrongE x.set
 else if x.kind=3 then (if named x.name=true then 0 else 7)
 else 1
def firstE:List Int->Int
 | []=>0
 | e::l=>if e=0 then firstE l else e
def itemsE (l:List Item):Int:=if 20<l.length then 5 else firstE (l.map itemE)
def sideE (s:Side) (must:Bool):Int :=
 if itemsE s.before≠0 then itemsE s.before
 else if itemsE s.source≠0 then itemsE s.source
 else if itemsE s.after≠0 then itemsE s.after
 else if s.cursor< -1∨(s.source.length:Int)<s.cursor then 3
 else if must=true/\s.source.length=0 then 6
 else 0
def gives (s:Side):Bool:=s.source.all fun x=>decide (x.kind=1)
def around (s:Side):Bool:=s.start||s.fin||decide (0<s.before.length)||decide (0<s.after.length)
def fits (p:Part):Bool :=
 if p.dir=1 then gives p.right&& !around p.right&&decide (p.left.cursor<0)
 else if p.dir=2 then gives p.left&& !around p.left&&decide (p.right.cursor<0)
 else gives p.left&&gives p.right
def ruleE (p:Part):Int :=
 if p.dir≠1/\p.dir≠2/\p.dir≠3 then 1
 else if sideE p.left (decide (p.dir≠2))≠0 then sideE p.left (decide (p.dir≠2))
 else if sideE p.right (decide (p.dir≠1))≠0 then sideE p.right (decide (p.dir≠1))
 else if fits p=true then 0 else 8
def partE (p:Part):Int :=
 if p.kind=1 then (if named p.name=true then S.wrongE p.set else 7)
 else if p.kind=3 then S.wrongE p.set
 else if p.kind=4 then (if passes p.name=true then 0 else 7)
 else if p.kind=2 then ruleE p
 else 1
def firstW:Nat->List Part->Int×Nat
 | _,[]=>(0,0)
 | i,p::l=>if partE p=0 then firstW (i+1) l else (partE p,i)
def wrong (l:List Part):Int×Nat:=if 200<l.length then (5,0) else firstW 0 l
def setB (s:List Sp):List UInt8:=if S.wrongE s=0 then T.prt s else []
def itemB (x:Item):List UInt8 :=
 if x.kind=2 then setB x.set
 else if x.kind=3 then 36::x.name.data.toList
 else T.quo x.rune
def bar:List UInt8:= [124,32]
def itemsB:List Item->Int->List UInt8
 | [],c=>if c=0 then bar else []
 | x::l,c=>(if c=0 then bar else [])++(itemB x++ [32])++itemsB l (c-1)
def sideB (s:Side):List UInt8 :=
 (if s.start=true then [94,32] else [])++itemsB s.before (-1)++(if s.start=true∨0<s.before.length then [123,32] else []) ++
  itemsB s.source s.cursor++(if s.fin=true∨0<s.after.length then [125,32] else [])++itemsB s.after (-1)++(if s.fin=true then [36,32] else [])
def arrowB (d:Int):List UInt8:=if d=1 then [62] else if d=2 then [60] else [60,62]
def wordsB (p:Part):List UInt8 :=
 if p.kind=1 then (36::p.name.data.toList)++ [32]++ [61,32]++(setB p.set++ [32])
 else if p.kind=3 then [58,58,32]++(setB p.set++ [32])
 else if p.kind=4 then [58,58,32]++(p.name.data.toList++ [32])
 else if p.kind=2 then sideB p.left++(arrowB p.dir++ [32])++sideB p.right
 else []
def partB (p:Part):List UInt8:=wordsB p++ [59,10]
def printB (l:List Part):List UInt8:=l.flatMap partB
theorem zdk {l:List Int}:firstE l=0↔∀e∈l,e=0:=by
 induction l with
 | nil=>simp[firstE]
 | cons e l ih =>
  rw[firstE]
  by_cases h:e=0
  ·simp[h,ih]
  ·simp[h]
theorem zb1 {l:List Item}:itemsE l=0↔l.length<=20/\∀x∈l,itemE x=0:=by
 unfold itemsE
 by_cases h:20<l.length
 ·rw[if_pos h];constructor
  ·intro h;cases h
  ·intro h;omega
 ·rw[if_neg h,zdk];constructor
  ·intro h';exact⟨by omega,fun x hx=>h' _ (List.mem_map.2 ⟨x,hx,rfl⟩)⟩
  ·rintro ⟨_,h'⟩ e he;obtain⟨x,hx,rfl⟩:=List.mem_map.1 he;exact h' x hx
theorem zku {l:List Item}{k:Nat}{x:Item}(hx:l[k]?=some x):firstE ((l.drop k).map itemE)=if itemE x=0 then firstE ((l.drop (k+1)).map itemE) else itemE x:=by
 have hlt:=(qL.1 hx).1;rw[List.drop_eq_getElem_cons hlt];have:l[k]=x:=by rw[List.getElem?_eq_getElem hlt] at hx;exact Option.some.inj hx
 rw[this];rfl
theorem zk2 {l:List Part}{k:Nat}{x:Part}(hx:l[k]?=some x):firstW k (l.drop k)=if partE x=0 then firstW (k+1) (l.drop (k+1)) else (partE x,k):=by
 have hlt:=(qL.1 hx).1;rw[List.drop_eq_getElem_cons hlt];have:l[k]=x:=by rw[List.getElem?_eq_getElem hlt] at hx;exact Option.some.inj hx
 rw[this];rfl
theorem zk1 {l:List Part}:∀ {i:Nat},(firstW i l).1=0->(∀p∈l,partE p=0)/\firstW i l=(0,0):=by
 induction l with
 | nil=>intro i _;exact⟨by simp,rfl⟩
 | cons p l ih =>
  intro i h;rw[firstW] at h ⊢
  by_cases hp:partE p=0
  ·rw[if_pos hp] at h ⊢;have:=ih h;exact⟨fun q hq=>by rcases List.mem_cons.1 hq with rfl|hq;exact hp;exact this.1 q hq,this.2⟩
  ·rw[if_neg hp] at h;exact absurd h hp
theorem zgb {l:List Part}(h:(wrong l).1=0):l.length<=200/\(∀p∈l,partE p=0)/\wrong l=(0,0):=by
 unfold wrong at h ⊢
 by_cases hb:200<l.length
 ·rw[if_pos hb] at h;cases h
 ·rw[if_neg hb] at h ⊢;have:=zk1 h;exact⟨by omega,this.1,this.2⟩
theorem zbx {s:Side}{m:Bool}(h:sideE s m=0):itemsE s.before=0/\itemsE s.source=0/\itemsE s.after=0/\ -1<=s.cursor/\s.cursor<=s.source.length:=by
 unfold sideE at h
 by_cases h1:itemsE s.before=0
 ·rw[if_neg (by simp[h1])] at h
  by_cases h2:itemsE s.source=0
  ·rw[if_neg (by simp[h2])] at h
   by_cases h3:itemsE s.after=0
   ·rw[if_neg (by simp[h3])] at h
    by_cases h4:s.cursor< -1∨(s.source.length:Int)<s.cursor
    ·rw[if_pos h4] at h;cases h
    ·exact⟨h1,h2,h3,by omega,by omega⟩
   ·rw[if_pos h3] at h;exact absurd h h3
  ·rw[if_pos h2] at h;exact absurd h h2
 ·rw[if_pos h1] at h;exact absurd h h1
theorem zas {p:Part}(h:ruleE p=0):(p.dir=1∨p.dir=2∨p.dir=3)/\sideE p.left (decide (p.dir≠2))=0/\sideE p.right (decide (p.dir≠1))=0/\fits p=true:=by
 unfold ruleE at h
 by_cases h1:p.dir≠1/\p.dir≠2/\p.dir≠3
 ·rw[if_pos h1] at h;cases h
 ·rw[if_neg h1] at h
  by_cases h2:sideE p.left (decide (p.dir≠2))=0
  ·rw[if_neg (by rw[h2];simp)] at h
   by_cases h3:sideE p.right (decide (p.dir≠1))=0
   ·rw[if_neg (by rw[h3];simp)] at h
    by_cases h4:fits p=true
    ·exact⟨by omega,h2,h3,h4⟩
    ·rw[if_neg h4] at h;cases h
   ·rw[if_pos h3] at h;exact absurd h h3
  ·rw[if_pos h2] at h;exact absurd h h2
end R
namespace R
open Go.RowKit
def I64 (n:Int):Prop:= -9223372036854775808<=n/\n<=9223372036854775807
def Its (w:World) (v:Value) (l:List Item):Prop :=
 ∃ao cap,v=.slice ao l.length cap/\(l≠ []->∃b off,ao=some ⟨b,off,none⟩/\∀j x,l[j]?=some x ->
  w.cell? ⟨b,off+j*4,none⟩=some (.int .i64 x.kind)/\w.cell? ⟨b,off+j*4+1,none⟩=some (.int .i32 x.rune)/\w.cell? ⟨b,off+j*4+3,none⟩=some (.string x.name) /\
  (∃so sc,w.cell? ⟨b,off+j*4+2,none⟩=some (.slice so x.set.length sc)/\S.Rd w (.slice so x.set.length sc) x.set)/\S.Fit x.set/\x.name.size<=140737488355328)
def SdIs (w:World) (v:Value) (s:Side):Prop :=
 ∃bo bc so sc ao ac,v=.agg #[.bool s.start,.bool s.fin,.slice bo s.before.length bc,.slice so s.source.length sc,.slice ao s.after.length ac,.int .i64 s.cursor] /\
  Its w (.slice bo s.before.length bc) s.before/\Its w (.slice so s.source.length sc) s.source/\Its w (.slice ao s.after.length ac) s.after/\I64 s.cursor
def PtIs (w:World) (v:Value) (p:Part):Prop :=
 ∃so sc v4 v5 v6 v7 v8 v9 v10 v11 v12 v13 v14 v15,v=.agg #[.int .i64 p.kind,.string p.name,.slice so p.set.length sc,.int .i64 p.dir,v4,v5,v6,v7,v8,v9,v10,v11,v12,v13,v14,v15] /\
  S.Rd w (.slice so p.set.length sc) p.set/\S.Fit p.set/\SdIs w (.agg #[v4,v5,v6,v7,v8,v9]) p.left/\SdIs w (.agg #[v10,v11,v12,v13,v14,v15]) p.right/\p.name.size<=140737488355328/\I64 p.dir
def Pts (w:World) (v:Value) (l:List Part):Prop :=
 ∃ao cap,v=.slice ao l.length cap/\(l≠ []->∃b off,ao=some ⟨b,off,none⟩/\∀j p,l[j]?=some p ->
  ∃so sc lbo lbc lso lsc lao lac rbo rbc rso rsc rao rac,
   w.cell? ⟨b,off+j*16,none⟩=some (.int .i64 p.kind) /\
   w.cell? ⟨b,off+j*16+1,none⟩=some (.string p.name) /\
   w.cell? ⟨b,off+j*16+2,none⟩=some (.slice so p.set.length sc) /\
   w.cell? ⟨b,off+j*16+3,none⟩=some (.int .i64 p.dir) /\
   w.cell? ⟨b,off+j*16+4,none⟩=some (.bool p.left.start) /\
   w.cell? ⟨b,off+j*16+5,none⟩=some (.bool p.left.fin) /\
   w.cell? ⟨b,off+j*16+6,none⟩=some (.slice lbo p.left.before.length lbc) /\
   w.cell? ⟨b,off+j*16+7,none⟩=some (.slice lso p.left.source.length lsc) /\
   w.cell? ⟨b,off+j*16+8,none⟩=some (.slice lao p.left.after.length lac) /\
   w.cell? ⟨b,off+j*16+9,none⟩=some (.int .i64 p.left.cursor) /\
   w.cell? ⟨b,off+j*16+10,none⟩=some (.bool p.right.start) /\
   w.cell? ⟨b,off+j*16+11,none⟩=some (.bool p.right.fin) /\
   w.cell? ⟨b,off+j*16+12,none⟩=some (.slice rbo p.right.before.length rbc) /\
   w.cell? ⟨b,off+j*16+13,none⟩=some (.slice rso p.right.source.length rsc) /\
   w.cell? ⟨b,off+j*16+14,none⟩=some (.slice rao p.right.after.length rac) /\
   w.cell? ⟨b,off+j*16+15,none⟩=some (.int .i64 p.right.cursor) /\
   PtIs w (.agg #[.int .i64 p.kind,.string p.name,.slice so p.set.length sc,.int .i64 p.dir,.bool p.left.start,.bool p.left.fin,.slice lbo p.left.before.length lbc,.slice lso p.left.source.length lsc,.slice lao p.left.after.length lac,.int .i64 p.left.cursor,.bool p.right.start,.bool p.right.fin,.slice rbo p.right.before.length rbc,.slice rso p.right.source.length rsc,.slice rao p.right.after.length rac,.int .i64 p.right.cursor]) p)
theorem Its.nil (w:World):Its w (.slice none 0 0) []:=⟨none,0,rfl,fun h=>absurd rfl h⟩
theorem Its.len {w:World}{v:Value}{l:List Item}(h:Its w v l):∃ao cap,v=.slice ao l.length cap:=by
 obtain⟨ao,cap,rfl,_⟩:=h;exact⟨ao,cap,rfl⟩
theorem Pts.len {w:World}{v:Value}{l:List Part}(h:Pts w v l):∃ao cap,v=.slice ao l.length cap:=by
 obtain⟨ao,cap,rfl,_⟩:=h;exact⟨ao,cap,rfl⟩
def Keeps (w w':World):Prop:=∀b o u,w.cell? ⟨b,o,none⟩=some u->w'.cell? ⟨b,o,none⟩=some u
theorem Keeps.of_below {w w':World}{B:Nat}(hb:Below B w w')(hB:w.heap.size<=B):Keeps w w':=fun b o u hu=>by
 have:=L.block_lt hu;rw[hb.cell (p:=⟨b,o,none⟩) (by show b<B;omega)];exact hu
theorem Keeps.trans {w w1 w2:World}(h:Keeps w w1)(h':Keeps w1 w2):Keeps w w2:=fun b o u hu=>h' b o u (h b o u hu)
theorem zc4 {w w':World}{v:Value}{l:List S.Sp}(h:S.Rd w v l)(k:Keeps w w'):S.Rd w' v l:=h.cells fun b o u hu _=>k b o u hu
theorem Its.keeps {w w':World}{v:Value}{l:List Item}(h:Its w v l)(k:Keeps w w'):Its w' v l:=by
 obtain⟨ao,cap,rfl,h⟩:=h;refine⟨ao,cap,rfl,fun hz=> ?_⟩;obtain⟨b,off,rfl,hc⟩:=h hz;refine⟨b,off,rfl,fun j x hj=> ?_⟩;obtain⟨h1,h2,h3,⟨so,sc,h4,h5⟩,h6⟩:=hc j x hj;exact⟨k _ _ _ h1,k _ _ _ h2,k _ _ _ h3,⟨so,sc,k _ _ _ h4,zc4 h5 k⟩,h6⟩
theorem SdIs.keeps {w w':World}{v:Value}{s:Side}(h:SdIs w v s)(k:Keeps w w'):SdIs w' v s:=by
 obtain⟨bo,bc,so,sc,ao,ac,rfl,h1,h2,h3,h4⟩:=h;exact⟨bo,bc,so,sc,ao,ac,rfl,h1.keeps k,h2.keeps k,h3.keeps k,h4⟩
theorem PtIs.keeps {w w':World}{v:Value}{p:Part}(h:PtIs w v p)(k:Keeps w w'):PtIs w' v p:=by
 obtain⟨so,sc,v4,v5,v6,v7,v8,v9,v10,v11,v12,v13,v14,v15,rfl,h1,h2,h3,h4,h5⟩:=h;exact⟨so,sc,v4,v5,v6,v7,v8,v9,v10,v11,v12,v13,v14,v15,rfl,zc4 h1 k,h2,h3.keeps k,h4.keeps k,h5⟩
theorem Pts.keeps {w w':World}{v:Value}{l:List Part}(h:Pts w v l)(k:Keeps w w'):Pts w' v l:=by
 obtain⟨ao,cap,rfl,h⟩:=h;refine⟨ao,cap,rfl,fun hz=> ?_⟩;obtain⟨b,off,rfl,hc⟩:=h hz;refine⟨b,off,rfl,fun j p hj=> ?_⟩;obtain⟨so,sc,lbo,lbc,lso,lsc,lao,lac,rbo,rbc,rso,rsc,rao,rac,c0,c1,c2,c3,c4,c5,c6,c7,c8,c9,c10,c11,c12,c13,c14,c15,hp⟩:=hc j p hj;exact⟨so,sc,lbo,lbc,lso,lsc,lao,lac,rbo,rbc,rso,rsc,rao,rac,k _ _ _ c0,k _ _ _ c1,k _ _ _ c2,k _ _ _ c3,k _ _ _ c4,k _ _ _ c5,k _ _ _ c6,k _ _ _ c7,k _ _ _ c8,k _ _ _ c9,k _ _ _ c10,k _ _ _ c11,k _ _ _ c12,k _ _ _ c13,k _ _ _ c14,k _ _ _ c15,hp.keeps k⟩
theorem Its.below {w w':World}{v:Value}{l:List Item}(h:Its w v l)(hb:Bl w w'):Its w' v l:=h.keeps (Keeps.of_below hb qN)
theorem SdIs.below {w w':World}{v:Value}{s:Side}(h:SdIs w v s)(hb:Bl w w'):SdIs w' v s:=h.keeps (Keeps.of_below hb qN)
theorem PtIs.below {w w':World}{v:Value}{p:Part}(h:PtIs w v p)(hb:Bl w w'):PtIs w' v p:=h.keeps (Keeps.of_below hb qN)
theorem Pts.below {w w':World}{v:Value}{l:List Part}(h:Pts w v l)(hb:Bl w w'):Pts w' v l:=h.keeps (Keeps.of_below hb qN)
theorem Keeps.alloc (w:World)(o:Obj):Keeps w (w.alloc o):=Keeps.of_below ((qR w).alloc qN o) qN
theorem PtIs.open {w:World}{v:Value}{p:Part}(h:PtIs w v p):∃so sc lbo lbc lso lsc lao lac rbo rbc rso rsc rao rac,
  v=.agg #[.int .i64 p.kind,.string p.name,.slice so p.set.length sc,.int .i64 p.dir,.bool p.left.start,.bool p.left.fin,.slice lbo p.left.before.length lbc,.slice lso p.left.source.length lsc,.slice lao p.left.after.length lac,.int .i64 p.left.cursor,
   .bool p.right.start,.bool p.right.fin,.slice rbo p.right.before.length rbc,.slice rso p.right.source.length rsc,.slice rao p.right.after.length rac,.int .i64 p.right.cursor] /\
  S.Rd w (.slice so p.set.length sc) p.set/\S.Fit p.set /\
  SdIs w (.agg #[.bool p.left.start,.bool p.left.fin,.slice lbo p.left.before.length lbc,.slice lso p.left.source.length lsc,.slice lao p.left.after.length lac,.int .i64 p.left.cursor]) p.left /\
  SdIs w (.agg #[.bool p.right.start,.bool p.right.fin,.slice rbo p.right.before.length rbc,.slice rso p.right.source.length rsc,.slice rao p.right.after.length rac,.int .i64 p.right.cursor]) p.right /\
  p.name.size<=140737488355328/\I64 p.dir:=by
 obtain⟨so,sc,v4,v5,v6,v7,v8,v9,v10,v11,v12,v13,v14,v15,rfl,h1,h2,h3,h4,h5,h6⟩:=h;have k3:=h3;have k4:=h4;obtain⟨lbo,lbc,lso,lsc,lao,lac,he,_⟩:=k3;obtain⟨rbo,rbc,rso,rsc,rao,rac,hf,_⟩:=k4;simp only[Value.agg.injEq,Array.mk.injEq,List.cons.injEq,and_true] at he hf;obtain⟨rfl,rfl,rfl,rfl,rfl,rfl⟩:=he;obtain⟨rfl,rfl,rfl,rfl,rfl,rfl⟩:=hf;exact⟨so,sc,lbo,lbc,lso,lsc,lao,lac,rbo,rbc,rso,rsc,rao,rac,rfl,h1,h2,h3,h4,h5,h6⟩
end R
section
open Go.RowKit
namespace R
def Stays (F:Nat) (X:Option Nat) (w:World) (Q:World->Prop):Prop:=∀w',(∀b,F<=b->b<w.heap.size->some b≠X->w'.heap[b]?=w.heap[b]?)->Q w'
theorem Stays.here {F:Nat}{X:Option Nat}{w:World}{Q:World->Prop}(h:Stays F X w Q):Q w:=h w fun _ _ _ _=>rfl
theorem Stays.step {F:Nat}{X:Option Nat}{w w':World}{Q:World->Prop}(h:Stays F X w Q)(hs:w.heap.size<=w'.heap.size)(hk:∀b,F<=b->b<w.heap.size->some b≠X->w'.heap[b]?=w.heap[b]?):Stays F X w' Q :=
 fun w'' h2=>h w'' fun b h3 h4 h5=>(h2 b h3 (by omega) h5).trans (hk b h3 h4 h5)
theorem Stays.cur {F cb:Nat}{X:Option Nat}{w w':World}{Q:World->Prop}(h:Stays F X w Q)(hg:w.grownBy w' (some cb))(hc:cb<F):Stays F X w' Q :=
 h.step hg.size fun b h1 h2 _=>hg.block b h2 (by simp;omega)
theorem Stays.below {F:Nat}{X:Option Nat}{w w':World}{Q:World->Prop}(h:Stays F X w Q)(hb:Bl w w'):Stays F X w' Q :=
 h.step hb.size fun b _ h2 _=>hb.block b h2
theorem Stays.mono {F F':Nat}{X X':Option Nat}{w:World}{Q:World->Prop}(h:Stays F X w Q)(hF:F'<=F)(hX:∀b,F<=b->some b≠X->some b≠X'):Stays F' X' w Q :=
 fun w' h2=>h w' fun b h3 h4 h5=>h2 b (by omega) h4 (hX b h3 h5)
theorem Stays.down {F F':Nat}{w:World}{Q:World->Prop}(h:Stays F none w Q)(hF:F'<=F):Stays F' none w Q:=h.mono hF fun _ _ h=>h
theorem Stays.imp {F:Nat}{X:Option Nat}{w:World}{Q Q':World->Prop}(h:Stays F X w Q)(hi:∀w,Q w->Q' w):Stays F X w Q':=fun w' h2=>hi _ (h w' h2)
theorem Stays.and {F:Nat}{X:Option Nat}{w:World}{Q Q':World->Prop}(h:Stays F X w Q)(h':Stays F X w Q'):Stays F X w fun w=>Q w/\Q' w:=fun w' h2=>⟨h w' h2,h' w' h2⟩
theorem zah {w w':World}{b cb:Nat}{o:Obj}(h:w.heap[b]?=some o)(hg:w.grownBy w' (some cb))(hne:b≠cb):w'.heap[b]?=some o:=by
 rw[hg.block b (qA.1 h).1 (by simpa using hne)];exact h
theorem zae {w w':World}{b:Nat}{o:Obj}(h:w.heap[b]?=some o)(hb:Bl w w'):w'.heap[b]?=some o:=by
 rw[hb.block b (qA.1 h).1];exact h
theorem zjk {w w':World}{b o:Nat}(h:w'.heap[b]?=w.heap[b]?):w'.cell? ⟨b,o,none⟩=w.cell? ⟨b,o,none⟩:=World.cell?_of_block (a:=⟨b,o,none⟩) h
theorem zdx {F:Nat}{w:World}{v:Value}{s:List S.Sp}(h:S.Rd w v s)(hf:∀g,v.ownBlock=some g->F<=g):Stays F none w fun w'=>S.Rd w' v s:=fun w' hk=>by
 refine h.cells fun b o u hu he=> ?_
 obtain⟨ao,n,c,rfl,a,rfl,rfl⟩:=he;rw[zjk (hk _ (hf _ rfl) (L.block_lt hu) (by simp))];exact hu
/-! rows -/
structure Elem (t e:TypeId) (k:Nat):Prop where
 ht:prog.underlying t=some (.slice e)
 hi:∃z bytes,(prog.info? e).map (fun i=>(i.zero,i.size,i.bytes))=some (some z,k,bytes)/\bytes<=1024/\z.cells.size=k
 hk:0<k
theorem zfh {t e:TypeId}{k:Nat}(E:Elem t e k)(w:World)(ty:TypeId)(base:Nat)(v:Value)(n:Nat)(xs:List Value)(hown:w.ownsRow base e k v n xs)
  (a:Addr) (m c:Nat) (news:List Value) (hl:news.length=m*k) (hnews:∀j u,news[j]?=some u->w.cell? (a.add j)=some u) (h1:∀u∈news,u.oneCell'=true) (hs:n+m<=100000000) (hbase:base<=w.heap.size) :
  ∃v' w',(Builtin.append_ #[t,t] ty #[v,.slice (some a) m c]).run prog w=.ok v' w'/\w'.ownsRow base e k v' (n+m) (xs++news)/\w.grownBy w' v.ownBlock/\(∀g,v'.ownBlock=some g->v.ownBlock=some g∨w.heap.size<=g):=by
 obtain⟨z,bytes,hinfo,hby,hzs⟩:=E.hi;obtain⟨i,hi,hz,hsz,hb⟩:=info_parts hinfo
 have hbytes:(n+m)*bytes<=140737488355328:=by
  have:(n+m)*bytes<=100000000*1024:=Nat.mul_le_mul hs hby;omega
 have h63:n+m<=maxLen:=by unfold maxLen;omega
 obtain⟨v',w',hr,h2,h3,_⟩:=run_append_own (P:=prog) w base t ty e i z k bytes E.ht hi hz hsz hb hzs E.hk v n xs hown a m c news hl hnews h1 h63 hbytes hbase;refine⟨v',w',hr,h2,h3,fun g hg=> ?_⟩;rcases hown.2 with ⟨rfl,rfl⟩|⟨g0,cap,cur,rfl,hbg,hgg,hnc,hcm,hcs,htake⟩
 ·have hx:=List.eq_nil_of_length_eq_zero (by simpa using hown.1);subst hx;obtain⟨v2,w2,hr2,h22,_,_⟩:=run_append_own (P:=prog) w w.heap.size t ty e i z k bytes E.ht hi hz hsz hb hzs E.hk (.slice none 0 0) 0 [] (World.ownsRow_nil _ _ _ _) a m c news hl hnews h1 h63 hbytes qN;rw[hr] at hr2;cases hr2;exact .inr (World.ownsRow.lt h22 g hg).1
 ·by_cases hroom:n+m<=cap
  ·have hfit:n*i.size+news.length<=cur.size:=by rw[hl,hcs,hsz,<- Nat.add_mul];exact Nat.mul_le_mul_right _ hroom
   have hr2:=run_append_room (P:=prog) w t ty e i E.ht hi g0 n cap cur hgg a m c news (by rw[hsz];exact hl) hnews h1 hroom hfit;rw[hr] at hr2;cases hr2;exact .inl hg
  ·have holds:=hown.cells (g:=g0) rfl;have hr2:=run_append_grow (P:=prog) w t ty e i z E.ht hi hz ⟨g0,0,none⟩ n cap xs (by rw[hsz];exact hown.1) holds a m c news (by rw[hsz];exact hl) hnews (by omega) (by omega) (growslice_fits (by omega) (by rw[hb];exact hbytes));rw[hr] at hr2;cases hr2;cases hg;exact .inr qN
def Row {α:Type} (e:TypeId) (k:Nat) (El:α->List Value->World->Prop) (F:Nat) (w:World) (v:Value) (xs:List α):Prop :=
 ∃cs:List (List Value),w.ownsRow F e k v xs.length cs.flatten/\cs.length=xs.length/\(∀c∈cs,c.length=k/\∀u∈c,u.oneCell'=true)/\∀(j:Nat) x c,xs[j]?=some x->cs[j]?=some c->Stays F v.ownBlock w (El x c)
section
variable {α:Type} {t e:TypeId} {k F:Nat} {El:α->List Value->World->Prop} {w w':World} {v:Value} {xs ys:List α}
theorem Row.nil (F:Nat)(w:World):Row e k El F w (.slice none 0 0) ([]:List α):=⟨[],World.ownsRow_nil _ _ _ _,rfl,fun c hc=>(by cases hc),fun j x c hx=>(by cases hx)⟩
theorem Row.lt (h:Row e k El F w v xs):∀g,v.ownBlock=some g->F<=g/\g<w.heap.size:=by
 obtain⟨cs,own,_⟩:=h;exact World.ownsRow.lt own
theorem Row.slice (h:Row e k El F w v xs):∃ao cap,v=.slice ao xs.length cap:=by
 obtain⟨cs,own,_⟩:=h;rcases own.2 with ⟨rfl,h0⟩|⟨g,cap,cur,rfl,_⟩
 ·exact⟨none,0,by rw[h0]⟩
 ·exact⟨_,_,rfl⟩
theorem Row.keep (h:Row e k El F w v xs)(hs:w.heap.size<=w'.heap.size)(hk:∀b,F<=b->b<w.heap.size->w'.heap[b]?=w.heap[b]?):Row e k El F w' v xs:=by
 obtain⟨cs,own,hl,hc,hel⟩:=h;refine⟨cs,?_,hl,hc,fun j x c hx hcj=>(hel j x c hx hcj).step hs fun b h1 h2 _=>hk b h1 h2⟩;rcases own.2 with ⟨hv,h0⟩|⟨g,cap,cur,hv,h1,h2,h3⟩
 ·exact⟨own.1,.inl ⟨hv,h0⟩⟩
 ·refine⟨own.1,.inr ⟨g,cap,cur,hv,h1,?_,h3⟩⟩;rw[hk g h1 (qA.1 h2).1];exact h2
theorem Row.cur {cb:Nat}(h:Row e k El F w v xs)(hg:w.grownBy w' (some cb))(hc:cb<F):Row e k El F w' v xs :=
 h.keep hg.size fun b h1 h2=>hg.block b h2 (by simp;omega)
theorem Row.below (h:Row e k El F w v xs)(hb:Bl w w'):Row e k El F w' v xs:=h.keep hb.size fun b _ h2=>hb.block b h2
theorem Row.down {F':Nat}(h:Row e k El F w v xs)(hF:F'<=F):Row e k El F' w v xs:=by
 obtain⟨cs,own,hl,hc,hel⟩:=h;exact⟨cs,L.zbj own hF,hl,hc,fun j x c hx hcj=>(hel j x c hx hcj).mono hF fun _ _ h=>h⟩
theorem flat_get {cs:List (List Value)}(hc:∀c∈cs,c.length=k):∀(j i:Nat) c u,cs[j]?=some c->c[i]?=some u->cs.flatten[j*k+i]?=some u:=by
 induction cs with
 | nil=>intro j i c u h;cases h
 | cons d cs ih =>
  intro j i c u hj hi;have hd:=hc d (by simp);rw[List.flatten_cons];cases j with
  | zero =>
   cases hj;rw[Nat.zero_mul,Nat.zero_add,List.getElem?_append_left (by rw[<- hd] at *;exact(qL.1 hi).1)];exact hi
  | succ j =>
   have:=ih (fun c hc'=>hc c (List.mem_cons_of_mem _ hc')) j i c u (by simpa using hj) hi;rw[List.getElem?_append_right (by rw[hd,Nat.succ_mul];omega),hd,Nat.succ_mul];rw[show j*k+k+i-k=j*k+i by omega];exact this
theorem Row.at (h:Row e k El F w v xs){j:Nat}{x:α}(hx:xs[j]?=some x):∃g c,v.ownBlock=some g/\(∃cap,v=.slice (some ⟨g,0,none⟩) xs.length cap)/\c.length=k /\
  Stays F none w (fun w'=>(∀i u,c[i]?=some u->w'.cell? ⟨g,0+j*k+i,none⟩=some u)/\El x c w'):=by
 obtain⟨cs,own,hl,hc,hel⟩:=h;have hlt:=(qL.1 hx).1;obtain⟨c,hcj⟩:∃c,cs[j]?=some c:=⟨cs[j]'(by omega),by simp[hl▸hlt]⟩;have hcells:=fun g hg=>World.ownsRow.cells own (g:=g) hg
 rcases own.2 with ⟨hv,h0⟩|⟨g,cap,cur,hv,h1,h2,h3⟩
 ·omega
 ·have hob:v.ownBlock=some g:=by rw[hv];rfl
  refine⟨g,c,hob,⟨cap,hv⟩,(hc c (List.mem_of_getElem? hcj)).1,fun w' hk=>⟨fun i u hi=> ?_,?_⟩⟩
  ·have:=hcells g hob _ u (flat_get (fun c hc'=>(hc c hc').1) j i c u hcj hi);rw[L.addr_add] at this;rw[Nat.zero_add] at this ⊢;rw[zjk (hk g h1 (qA.1 h2).1 (by simp))];exact this
  ·exact hel j x c hx hcj w' fun b h4 h5 _=>hk b h4 h5 (by simp)
theorem Row.add (E:Elem t e k)(ty:TypeId)(h:Row e k El F w v xs){F2:Nat}{v2:Value}(h2:Row e k El F2 w v2 ys)(hF:F<=F2)(hne:∀g,v.ownBlock=some g->g<F2)(hs:xs.length+ys.length<=100000000)(hb:F<=w.heap.size) :
  ∃v' w',(Builtin.append_ #[t,t] ty #[v,v2]).run prog w=.ok v' w'/\Row e k El F w' v' (xs++ys)/\w.grownBy w' v.ownBlock/\(∀g,v'.ownBlock=some g->v.ownBlock=some g∨w.heap.size<=g):=by
 obtain⟨cs,own,hl,hc,hel⟩:=h;obtain⟨ds,own2,hl2,hc2,hel2⟩:=h2;have cells2:=fun g hg=>World.ownsRow.cells own2 (g:=g) hg
 rcases own2.2 with ⟨rfl,h0⟩|⟨g2,cap2,cur2,rfl,hbg2,hgg2,_⟩
 ·have hy:=List.eq_nil_of_length_eq_zero h0;subst hy;obtain⟨z,bytes,hinfo,_,_⟩:=E.hi;obtain⟨i,hi,_,_,_⟩:=info_parts hinfo;refine⟨v,w,run_append_owned_none (P:=prog) w F t ty e i k E.ht hi v xs.length cs.flatten own,?_,⟨rfl,rfl,rfl,qN,fun _ _ _=>rfl⟩,fun g hg=> .inl hg⟩;rw[List.append_nil];exact⟨cs,own,hl,hc,hel⟩
 ·obtain⟨v',w',hr,o',gr,hnew⟩:=zfh E w ty F v xs.length cs.flatten own ⟨g2,0,none⟩ ys.length cap2 ds.flatten own2.1 (cells2 g2 rfl) (fun u hu=>by
   obtain⟨c,hcm,hu⟩:=List.mem_flatten.1 hu
   exact(hc2 c hcm).2 u hu) hs hb
  refine⟨v',w',hr,⟨cs++ds,?_,by simp[hl,hl2],fun c hcm=> ?_,fun j x c hx hcj=> ?_⟩,gr,hnew⟩
  ·rw[List.flatten_append,List.length_append];exact o'
  ·rcases List.mem_append.1 hcm with h|h
   ·exact hc c h
   ·exact hc2 c h
  ·have st:Stays F v.ownBlock w (El x c):=by
    by_cases hj:j<xs.length
    ·rw[List.getElem?_append_left hj] at hx;rw[List.getElem?_append_left (by omega)] at hcj;exact hel j x c hx hcj
    ·rw[List.getElem?_append_right (by omega)] at hx;rw[List.getElem?_append_right (by omega),hl] at hcj;exact(hel2 _ x c hx hcj).mono hF fun b hb _ he=>by have:=hne b he.symm;omega
   intro w'' hk;refine st w'' fun b h1 h3 h4=> ?_
   have e1:=gr.block b h3 h4;rw[<- e1];refine hk b h1 (by have:=gr.size;omega) fun he=> ?_
   rcases hnew b he.symm with h5|h5
   ·exact h4 h5.symm
   ·omega
theorem Row.one (c:List Value)(hc:c.length=k)(h1:∀u∈c,u.oneCell'=true){x:α}(hel:Stays F none w (El x c))(hF:F<=w.heap.size):Row e k El F (w.alloc (.cells c.toArray e)) (.slice (some ⟨w.heap.size,0,none⟩) 1 1) [x]:=by
 refine⟨[c],⟨by simp[hc],.inr ⟨w.heap.size,1,c.toArray,rfl,hF,heap_alloc_new w _,qN,by unfold maxLen;omega,by simp[hc],?_⟩⟩,rfl,fun d hd=> ?_,fun j y d hy hd=> ?_⟩
 ·simp[<- hc]
 ·rw[List.mem_singleton] at hd;subst hd;exact⟨hc,h1⟩
 ·match j,hy,hd with
  | 0,hy,hd =>
   cases hy;cases hd;intro w'' hk;refine hel w'' fun b h1 h2 _=> ?_
   rw[hk b h1 (by simp;omega) (by simp[Value.ownBlock];omega)];exact Below.heap_alloc w _ b h2
end
/-! boxes -/
theorem zab {w:World}{b i:Nat}{c:Array Value}{t:TypeId}{v:Value}(h:w.heap[b]?=some (.cells c t))(hv:c[i]?=some v):w.cell? ⟨b,i,none⟩=some v:=by
 rw[World.cell?];simp[h,hv]
theorem zac {w:World}{b i:Nat}{c:Array Value}{t:TypeId}(h:w.heap[b]?=some (.cells c t)):w.frozen? ⟨b,i,none⟩=false:=by
 rw[World.frozen?];simp[h]
theorem zak (w:World)(b j:Nat)(v:Value):w.grownBy (w.setCell ⟨b,j,none⟩ v) (some b) :=
 ⟨rfl,rfl,rfl,by simp,fun k _ hk=>heap_setCell_other w ⟨b,j,none⟩ k v (fun e=>hk (by simp[e]))⟩
theorem put4 {w:World}{g:Nat}{o0 o1 o2 o3:Value}{t:TypeId}(h:w.heap[g]?=some (.cells #[o0,o1,o2,o3] t))(a b c d:Value) :
  ((((w.setCell ⟨g,0,none⟩ a).setCell ⟨g,1,none⟩ b).setCell ⟨g,2,none⟩ c).setCell ⟨g,3,none⟩ d).heap[g]?=some (.cells #[a,b,c,d] t) /\
  w.grownBy ((((w.setCell ⟨g,0,none⟩ a).setCell ⟨g,1,none⟩ b).setCell ⟨g,2,none⟩ c).setCell ⟨g,3,none⟩ d) (some g):=by
 have h1:=heap_setCell_same w g 0 _ t a h;have h2:=heap_setCell_same _ g 1 _ t b h1;have h3:=heap_setCell_same _ g 2 _ t c h2;have h4:=heap_setCell_same _ g 3 _ t d h3;exact⟨h4,S.zaa (S.zaa (S.zaa (zak _ _ _ _) (zak _ _ _ _)) (zak _ _ _ _)) (zak _ _ _ _)⟩
theorem put3 {w:World}{g:Nat}{o0 o1 o2:Value}{t:TypeId}(h:w.heap[g]?=some (.cells #[o0,o1,o2] t))(a b c:Value) :
  (((w.setCell ⟨g,0,none⟩ a).setCell ⟨g,1,none⟩ b).setCell ⟨g,2,none⟩ c).heap[g]?=some (.cells #[a,b,c] t) /\
  w.grownBy (((w.setCell ⟨g,0,none⟩ a).setCell ⟨g,1,none⟩ b).setCell ⟨g,2,none⟩ c) (some g):=by
 have h1:=heap_setCell_same w g 0 _ t a h;have h2:=heap_setCell_same _ g 1 _ t b h1;have h3:=heap_setCell_same _ g 2 _ t c h2;exact⟨h3,S.zaa (S.zaa (zak _ _ _ _) (zak _ _ _ _)) (zak _ _ _ _)⟩
theorem zlg {w w':World}{b:Nat}{o:Obj}{X:Option Nat}(h:w.heap[b]?=some o)(hg:w.grownBy w' X)(hne:∀g,X=some g->g≠b):w'.heap[b]?=some o:=by
 rw[hg.block b (qA.1 h).1 (fun e=>hne b e.symm rfl)];exact h
theorem put6 {w:World}{g:Nat}{o0 o1 o2 o3 o4 o5:Value}{t:TypeId}(h:w.heap[g]?=some (.cells #[o0,o1,o2,o3,o4,o5] t))(a0 a1 a2 a3 a4 a5:Value) :
  ((((((w.setCell ⟨g,0,none⟩ a0).setCell ⟨g,1,none⟩ a1).setCell ⟨g,2,none⟩ a2).setCell ⟨g,3,none⟩ a3).setCell ⟨g,4,none⟩ a4).setCell ⟨g,5,none⟩ a5).heap[g]?=some (.cells #[a0,a1,a2,a3,a4,a5] t)/\w.grownBy ((((((w.setCell ⟨g,0,none⟩ a0).setCell ⟨g,1,none⟩ a1).setCell ⟨g,2,none⟩ a2).setCell ⟨g,3,none⟩ a3).setCell ⟨g,4,none⟩ a4).setCell ⟨g,5,none⟩ a5) (some g):=by
 have h0:=heap_setCell_same _ g 0 _ t a0 h;have h1:=heap_setCell_same _ g 1 _ t a1 h0;have h2:=heap_setCell_same _ g 2 _ t a2 h1;have h3:=heap_setCell_same _ g 3 _ t a3 h2;have h4:=heap_setCell_same _ g 4 _ t a4 h3;have h5:=heap_setCell_same _ g 5 _ t a5 h4;exact⟨h5,S.zaa (S.zaa (S.zaa (S.zaa (S.zaa (zak _ _ _ _) (zak _ _ _ _)) (zak _ _ _ _)) (zak _ _ _ _)) (zak _ _ _ _)) (zak _ _ _ _)⟩
def setAll (w:World) (g:Nat):Nat->List Value->World
 | _,[]=>w
 | i,v::vs=>setAll (w.setCell ⟨g,i,none⟩ v) g (i+1) vs
theorem putAll {g:Nat}{t:TypeId}:∀(vs:List Value) (w:World) (i:Nat) (cs:Array Value),w.heap[g]?=some (.cells cs t)->cs.size=i+vs.length ->
  (setAll w g i vs).heap[g]?=some (.cells (cs.toList.take i++vs).toArray t)/\w.grownBy (setAll w g i vs) (some g):=by
 intro vs
 induction vs with
 | nil =>
  intro w i cs h hs;refine⟨?_,S.zat _ _⟩;rw[List.append_nil,List.take_of_length_le (by simp at hs ⊢;omega)];exact h
 | cons v vs ih =>
  intro w i cs h hs;have h1:=heap_setCell_same w g i cs t v h;obtain⟨h2,h3⟩:=ih (w.setCell ⟨g,i,none⟩ v) (i+1) _ h1 (by simp at hs ⊢;omega);refine⟨?_,S.zaa (zak _ _ _ _) h3⟩;rw[setAll,h2];congr 3;simp only[List.length_cons] at hs;rw[Array.toList_setIfInBounds,List.take_add_one,List.take_set_of_le qN,List.getElem?_set_self (by simp;omega)];simp
theorem put16 {w:World}{g:Nat}{o0 o1 o2 o3 o4 o5 o6 o7 o8 o9 o10 o11 o12 o13 o14 o15:Value}{t:TypeId}(h:w.heap[g]?=some (.cells #[o0,o1,o2,o3,o4,o5,o6,o7,o8,o9,o10,o11,o12,o13,o14,o15] t))(a0 a1 a2 a3 a4 a5 a6 a7 a8 a9 a10 a11 a12 a13 a14 a15:Value) :
  ((((((((((((((((w.setCell ⟨g,0,none⟩ a0).setCell ⟨g,1,none⟩ a1).setCell ⟨g,2,none⟩ a2).setCell ⟨g,3,none⟩ a3).setCell ⟨g,4,none⟩ a4).setCell ⟨g,5,none⟩ a5).setCell ⟨g,6,none⟩ a6).setCell ⟨g,7,none⟩ a7).setCell ⟨g,8,none⟩ a8).setCell ⟨g,9,none⟩ a9).setCell ⟨g,10,none⟩ a10).setCell ⟨g,11,none⟩ a11).setCell ⟨g,12,none⟩ a12).setCell ⟨g,13,none⟩ a13).setCell ⟨g,14,none⟩ a14).setCell ⟨g,15,none⟩ a15).heap[g]?=some (.cells #[a0,a1,a2,a3,a4,a5,a6,a7,a8,a9,a10,a11,a12,a13,a14,a15] t)/\w.grownBy ((((((((((((((((w.setCell ⟨g,0,none⟩ a0).setCell ⟨g,1,none⟩ a1).setCell ⟨g,2,none⟩ a2).setCell ⟨g,3,none⟩ a3).setCell ⟨g,4,none⟩ a4).setCell ⟨g,5,none⟩ a5).setCell ⟨g,6,none⟩ a6).setCell ⟨g,7,none⟩ a7).setCell ⟨g,8,none⟩ a8).setCell ⟨g,9,none⟩ a9).setCell ⟨g,10,none⟩ a10).setCell ⟨g,11,none⟩ a11).setCell ⟨g,12,none⟩ a12).setCell ⟨g,13,none⟩ a13).setCell ⟨g,14,none⟩ a14).setCell ⟨g,15,none⟩ a15) (some g) :=
 putAll [a0,a1,a2,a3,a4,a5,a6,a7,a8,a9,a10,a11,a12,a13,a14,a15] w 0 _ h rfl
theorem Stays.fresh {F:Nat}{w:World}{Q:World->Prop}(h:Stays F none w Q)(o:Obj):Stays F (some w.heap.size) (w.alloc o) Q:=fun w' hk=>h w' fun b h1 h2 _=>by
 rw[hk b h1 (by simp;omega) (by simp;omega)];exact Below.heap_alloc w o b h2
theorem Stays.atX {F g:Nat}{w w':World}{Q:World->Prop}(h:Stays F (some g) w Q)(hg:w.grownBy w' (some g)):Stays F (some g) w' Q:=h.step hg.size fun b _ h2 h3=>hg.block b h2 h3
theorem Stays.high {F F' g:Nat}{w:World}{Q:World->Prop}(h:Stays F none w Q)(hF:F'<=F)(hg:g<F):Stays F' (some g) w Q:=h.mono hF fun b h1 _ e=>by cases e;omega
theorem Stays.free {F F' g:Nat}{w:World}{Q:World->Prop}(h:Stays F (some g) w Q)(hF:F'<=F):Stays F' none w Q:=h.mono hF fun b _ _ e=>by cases e
theorem Stays.drew {F:Nat}{X:Option Nat}{w:World}{Q:World->Prop}(h:Stays F X w Q):Stays F X w.drew Q:=h
theorem putMid {g:Nat}{t:TypeId}:∀(vs:List Value) (w:World) (i:Nat) (cs:Array Value),w.heap[g]?=some (.cells cs t)->i+vs.length<=cs.size ->
  (setAll w g i vs).heap[g]?=some (.cells (cs.toList.take i++vs++cs.toList.drop (i+vs.length)).toArray t)/\w.grownBy (setAll w g i vs) (some g):=by
 intro vs
 induction vs with
 | nil =>
  intro w i cs h hs;refine⟨?_,S.zat _ _⟩;rw[List.append_nil,List.length_nil,Nat.add_zero,List.take_append_drop];exact h
 | cons v vs ih =>
  intro w i cs h hs;have h1:=heap_setCell_same w g i cs t v h;simp only[List.length_cons] at hs;obtain⟨h2,h3⟩:=ih (w.setCell ⟨g,i,none⟩ v) (i+1) _ h1 (by simp;omega);refine⟨?_,S.zaa (zak _ _ _ _) h3⟩;rw[setAll,h2];congr 3;rw[Array.toList_setIfInBounds,List.take_add_one,List.take_set_of_le qN,List.getElem?_set_self (by simp;omega),List.drop_set_of_lt (by omega)];simp only[List.length_cons,Option.toList_some,List.append_assoc,List.cons_append,List.nil_append];rw[show i+1+vs.length=i+(vs.length+1) by omega]
end R
end
namespace R
open S (Sp)
open T (Out see skipW cut)
def notNl (r:Int):Bool:= !decide (r=10)&& !decide (r= -1)
def notQuo (r:Int):Bool:= !decide (r=39)&& !decide (r= -1)
def wordy (r:Int):Bool:=letter r||digit r
def gapN:Nat->List Int->Nat->Nat
 | 0,_,p=>p
 | f+1,l,p=>if see l (skipW T.blank l p)=35 then gapN f l (skipW notNl l (skipW T.blank l p+1)) else skipW T.blank l p
def gap (l:List Int) (p:Nat):Nat:=gapN (l.length+1) l p
def wordEnd (l:List Int) (p:Nat):Nat:=if letter (see l p)=true then skipW wordy l p else p
def bytes (m:List Int):ByteArray:=⟨(m.map fun r=>UInt8.ofNat r.toNat).toArray⟩
def wordAt (l:List Int) (p:Nat):ByteArray:=bytes (cut l p (wordEnd l p))
def varAt (l:List Int) (p:Nat):Out ByteArray:=if named (wordAt l (p+1))=true then .ok (wordAt l (p+1)) (wordEnd l (p+1)) else .bad 7 (p+1)
def varNext (l:List Int) (p:Nat):Bool:=decide (see l p=36)&&letter (see l (p+1))
def runeI (r:Int):Item:=⟨1,r,[],⟨#[]⟩⟩
def setI (s:List Sp):Item:=⟨2,0,s,⟨#[]⟩⟩
def varI (n:ByteArray):Item:=⟨3,0,[],n⟩
noncomputable def item (l:List Int) (p:Nat):Out (Option (List Item)) :=
 if see l p=91 then
  match T.setN 20 l p with
  | .bad e q=> .bad e q
  | .ok s q=> .ok (some [setI s]) q
 else if varNext l p=true then
  match varAt l p with
  | .bad e q=> .bad e q
  | .ok n q=> .ok (some [varI n]) q
 else if see l p=39 then
  if see l (skipW notQuo l (p+1))=39 then .ok (some ((cut l (p+1) (skipW notQuo l (p+1))).map runeI)) (skipW notQuo l (p+1)+1)
  else .bad 2 (skipW notQuo l (p+1))
 else if see l p=92∨T.ordy (see l p)=true then
  match T.chr l p with
  | .bad e q=> .bad e q
  | .ok c q=>if M.right c=true then .ok (some [runeI c]) q else .bad 3 p
 else .ok none p
noncomputable def itemsN:Nat->List Int->List Item->Int->Nat->Out (List Item×Int)
 | 0,_,_,_,p=> .bad 0 p
 | f+1,l,xs,c,p =>
  if see l (gap l p)=124 then
   if 0<=c then .bad 5 (gap l p) else itemsN f l xs xs.length (gap l p+1)
  else
   match item l (gap l p) with
   | .bad e q=> .bad e q
   | .ok none q=> .ok (xs,c) q
   | .ok (some ys) q=>if 20<xs.length+ys.length then .bad 5 (gap l p) else itemsN f l (xs++ys) c q
noncomputable def items (l:List Int) (p:Nat):Out (List Item×Int):=itemsN (l.length+2) l [] (-1) p
noncomputable def sideTail (l:List Int) (s:Side) (p:Nat):Out Side :=
 if see l p=125 then
  match items l (p+1) with
  | .bad e q=> .bad e q
  | .ok (xs,c) q =>
   if 0<=c then .bad 8 (p+1)
   else if see l q=36 then .ok { s with after:=xs,fin:=true } (q+1)
   else .ok { s with after:=xs } q
 else .ok s p
noncomputable def side (l:List Int) (p0:Nat):Out Side :=
 let p:=gap l p0
 let st:=decide (see l p=94)
 let b:=if st=true then p+1 else p
 match items l b with
 | .bad e q=> .bad e q
 | .ok (xs,c) q =>
  if st=true∨see l q=123 then
   if 0<=c then .bad 8 b
   else if see l q≠123 then .bad 2 q
   else
    match items l (q+1) with
    | .bad e r=> .bad e r
    | .ok (ys,d) r=>sideTail l ⟨st,false,xs,ys,[],d⟩ r
  else sideTail l ⟨st,false,[],xs,[],c⟩ q
def dirAt (l:List Int) (p0:Nat):Out Int :=
 let p:=gap l p0
 if see l p=62 then .ok 1 (p+1)
 else if see l p≠60 then .bad 2 p
 else if see l (p+1)=62 then .ok 3 (p+2)
 else .ok 2 (p+1)
def noSide:Side:=⟨false,false,[],[],[],0⟩
noncomputable def rule (l:List Int) (p:Nat):Out Part :=
 match side l p with
 | .bad e q=> .bad e q
 | .ok a q =>
  match dirAt l q with
  | .bad e r=> .bad e r
  | .ok d r =>
   match side l r with
   | .bad e t=> .bad e t
   | .ok b t=> .ok ⟨2,⟨#[]⟩,[],d,a,b⟩ t
noncomputable def wholeAt (l:List Int) (p:Nat):Out Part :=
 if see l p=91 then
  match T.setN 20 l p with
  | .bad e q=> .bad e q
  | .ok s q=> .ok ⟨3,⟨#[]⟩,s,0,noSide,noSide⟩ q
 else if passes (wordAt l p)=true then .ok ⟨4,wordAt l p,[],0,noSide,noSide⟩ (wordEnd l p)
 else .bad 7 p
noncomputable def part (l:List Int) (p:Nat):Out Part :=
 if see l p=58 then
  if see l (p+1)≠58 then .bad 2 (p+1) else wholeAt l (gap l (p+2))
 else if varNext l p=true then
  match varAt l p with
  | .bad e q=> .bad e q
  | .ok n q =>
   if see l (gap l q)=61 then
    match T.setN 20 l (gap l (gap l q+1)) with
    | .bad e r=> .bad e r
    | .ok s r=> .ok ⟨1,n,s,0,noSide,noSide⟩ r
   else rule l p
 else rule l p
noncomputable def ended (l:List Int) (p:Nat):Out Part :=
 match part l p with
 | .bad e q=> .bad e q
 | .ok x q=>if see l (gap l q)≠59 then .bad 2 (gap l q) else if partE x≠0 then .bad (partE x) p else .ok x (gap l q+1)
noncomputable def partsN:Nat->List Int->List Part->Nat->Out (List Part)
 | 0,_,_,p=> .bad 0 p
 | f+1,l,xs,p =>
  if see l p= -1 then .ok xs p
  else if xs.length=200 then .bad 5 p
  else
   match ended l p with
   | .bad e q=> .bad e q
   | .ok x q=>partsN f l (xs++ [x]) (gap l q)
noncomputable def parts (l:List Int):Out (List Part):=partsN 202 l [] (gap l 0)
noncomputable def read (l:List Int):Out (List Part):=if 16000<l.length then .bad 4 0 else parts l
end R
namespace T
open S (Sp)
def hexR (n:Nat):List Int:=(hexL n).map fun b=>(b.toNat:Int)
def quoR (r:Int):List Int:=if plain r=true then [r] else [92,117,123]++hexR r.toNat++ [125]
def oneR (x:Sp):List Int:=quoR x.1++if x.1<x.2 then [45]++quoR x.2 else []
def innerR (s:List Sp):List Int:=s.flatMap oneR
def prtR (s:List Sp):List Int:= [91]++innerR s++ [93]
theorem zhh {l m r:List Int}{p:Nat}(h:l.drop p=m++r){i:Nat}(hi:i<m.length):see l (p+i)=see m i:=by
 unfold see
 have:l[p+i]?=m[i]?:=by
  rw[<- List.getElem?_drop,h,List.getElem?_append_left hi]
 rw[this]
theorem zid {l m r:List Int}{p:Nat}(h:l.drop p=m++r):l.drop (p+m.length)=r:=by
 rw[<- List.drop_drop,h,List.drop_left]
theorem zlr {l m r:List Int}{p:Nat}(h:l.drop p=m++r)(hp:p<=l.length):p+m.length+r.length=l.length:=by
 have:=congrArg List.length h;rw[List.length_drop,List.length_append] at this;omega
theorem zo1 {l r:List Int}{p:Nat}{a:Int}(h:l.drop p=a::r):see l p=a:=by
 have:=zhh (m:= [a]) (r:=r) (p:=p) (l:=l) (by simpa using h) (i:=0) (by simp);simpa [see] using this
theorem zo0 {l r:List Int}{p:Nat}{a:Int}(h:l.drop p=a::r):l.drop (p+1)=r:=by
 have:=zid (m:= [a]) (r:=r) (p:=p) (l:=l) (by simpa using h);simpa using this
theorem ztv {l r:List Int}{p:Nat}{a:Int}(h:l.drop p=a::r):p<l.length:=by
 apply Classical.byContradiction;intro hn;rw[List.drop_eq_nil_of_le (by omega)] at h;cases h
theorem zi9 (l:List Int)(r:Int):hexN (l++ [r])=16*hexN l+hexOne r:=by simp[hexN]
theorem zms {f:Int->Bool}{l m r:List Int}{p:Nat}(h:l.drop p=m++r)(hp:p<=l.length)(hm:∀x∈m,f x=true)(h0:f (-1)=false)(hr:f (see l (p+m.length))=false):skipW f l p=p+m.length:=by
 have hl:=zlr h hp;refine zcl (by omega) (by omega) (fun i h1 h2=> ?_) hr h0;obtain⟨j,rfl⟩:∃j,i=p+j:=⟨i-p,by omega⟩;rw[zhh h (i:=j) (by omega)];have:=zew (l:=m) (p:=j) (by omega);exact hm _ (List.mem_of_getElem? this)
end T
