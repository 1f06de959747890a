import Derived.Test.YtcadaallpiekiaaGreatDoorTCur
import Derived.Shelf.Lay
import Derived.Shelf.Small.Utf8
import Derived.Shelf.Small.Strs
import Derived.Shelf.Strings.Search1
import Derived.Shelf.Strings.Runes
import Derived.WalkMore
import Derived.Lib.ConvBytes
import Derived.Lib.AtoiErrMem
import Derived.Laws.IdiomStrings
set_option maxHeartbeats 0
namespace Go.Proofs.YtcadaallpiekiaaGreatDoor
open Go.Proofs.Tryz
section
open Go.Shelf Go.RowKit
shelf_lay Lays.n119 Nm 119 at Tryz as Tryz.lays119
shelf_lay Lays.n137 Nm 137 at Tryz as Tryz.lays137
shelf_lay Lays.n151 Nm 151 at Tryz as Tryz.lays151
def T.bts (s:ByteArray):List Int:=s.data.toList.map fun b=>(b.toNat:Int)
theorem zfr:∀(l:List UInt8) (c:UInt8),-1<=Lib.indexByte l c/\(0<=Lib.indexByte l c↔c∈l)
 | [],c=>by simp[Lib.indexByte]
 | b::l,c=>by
  have ih:=zfr l c;unfold Lib.indexByte
  by_cases h:b=c
  ·simp[h]
  ·have hb:(b==c)=false:=by simp[h]
   rw[hb];simp only[Bool.false_eq_true,if_false]
   by_cases h1:Lib.indexByte l c= -1
   ·have hn:c∉l:=fun hm=>by have:=ih.2.2 hm;omega
    simp[h1,hn,Ne.symm h]
   ·have hb1:(Lib.indexByte l c== -1)=false:=by simp[h1]
    rw[hb1];simp only[Bool.false_eq_true,if_false];refine⟨by omega,fun _=>by simp[ih.2.1 (by omega)],fun _=>by omega⟩
theorem index_none {l:List UInt8}{c:UInt8}(h:c∉l):Lib.indexByte l c= -1:=by
 have:=zfr l c;have h1:¬ 0<=Lib.indexByte l c:=fun h0=>h (this.2.1 h0)
 omega
theorem zga (s:ByteArray)(r:Int)(w:World)(h0:0<=r)(h1:r<128) :
  Calls prog 129 #[.string s,.int .i32 r] w fun e w'=>e=.returned (.bool (decide (r∈T.bts s)))/\Bl w w':=by
 refine(Any.strings_ContainsRune_ascii Tryz.lays151 s r w h0 h1).mono ?_;rintro e w' ⟨rfl,rfl⟩;refine⟨L.zaj ?_,qR _⟩;rw[decide_eq_decide,(zfr _ _).2];unfold T.bts;rw[List.mem_map];constructor
 ·intro h;refine⟨_,h,?_⟩;have:r.toNat.toUInt8.toNat=r.toNat:=by simp;omega
  omega
 ·rintro ⟨b,hb,rfl⟩;simpa using hb
theorem zuy {s:ByteArray}{r:Int}(hA:∀b∈s.data.toList,b.toNat<128)(h:r<0∨128<=r):r∉T.bts s:=by
 unfold T.bts;rw[List.mem_map];rintro ⟨b,hb,rfl⟩;have:=hA b hb;omega
theorem zk9 (s:ByteArray)(r:Int)(w:World)(hA:∀b∈s.data.toList,b.toNat<128)(hr:r<0∨128<=r)
  (h:Calls prog 147 #[.string s,.int .i32 r] w fun e w'=>e=.returned (.int .i64 (-1))/\Bl w w') :
  Calls prog 129 #[.string s,.int .i32 r] w fun e w'=>e=.returned (.bool (decide (r∈T.bts s)))/\Bl w w':=by
 rw[decide_eq_false (zuy hA hr)]
 go_enter func129,ntmps129
 go_wp2_with (go_at_call 147;refine h.mono ?_;rintro e w1 ⟨rfl,b1⟩)
 go_ret;exact⟨rfl,b1⟩
set_option maxRecDepth 100000 in
theorem zi8 (s:ByteArray)(r:Int)(w:World)(hv:Lib.validRune r=false)(hr:r<0∨128<=r)(hne:r≠65533) :
  Calls prog 147 #[.string s,.int .i32 r] w fun e w'=>e=.returned (.int .i64 (-1))/\Bl w w':=by
 have hne':(r==65533)=false:=by simp[hne]
 go_enter func147,ntmps147
 go_wp2_with (go_at_call 161;refine(Any.utf8_ValidRune Tryz.lays119 r _).mono ?_;rintro e w1 ⟨rfl,rfl⟩;rw[hv])
 all_goals go_ret
 all_goals exact⟨rfl,qR _⟩
theorem zup {s:ByteArray}{i j:Nat}{b:UInt8}(h:b∈(s.extract i j).data.toList):b∈s.data.toList:=by
 have:(s.extract i j).data.toList=(s.data.toList.drop i).take (j-i):=by simp[ByteArray.data_extract]
 rw[this] at h;exact List.mem_of_mem_drop (List.mem_of_mem_take h)
theorem zs8 (s:ByteArray)(c:Int)(w:World) :
  Calls prog 160 #[.string s,.int .u8 c] w fun e w'=>e=.returned (.int .i64 (Lib.indexByte s.data.toList c.toNat.toUInt8))/\w'=w:=Any.strings_IndexByte Tryz.lays137 s c w
theorem zti {s:ByteArray}(hA:∀b∈s.data.toList,b.toNat<128)(k:Nat)(h:k<s.size):s[k].toNat<128:=hA _ (by
 have:s[k]=s.data.toList[k]'(by simpa using h):=by simp[ByteArray.getElem_eq_getElem_data]
 rw[this];exact List.getElem_mem _)
set_option maxRecDepth 100000 in
theorem znq (s:ByteArray)(w:World)(hA:∀b∈s.data.toList,b.toNat<128) :
  Calls prog 147 #[.string s,.int .i32 65533] w fun e w'=>e=.returned (.int .i64 (-1))/\Bl w w':=by
 have HA:Hid _:=hA;clear hA
 go_enter func147,ntmps147
 go_wp2
 go_loopw [5] (fun _ wr=>∃pos:Nat,wr.heap[w.heap.size]?=some (.stringIter s pos)/\Hid (Bl w wr)) (fun _ wr=>s.size-wr.iterPos w.heap.size)
 case atStart=>exact⟨0,World.iter_heap w s 0,(qR _).alloc qN _⟩
 case round =>
  obtain⟨pos,hit,hbw⟩:=hrel;have hpos0:=iterPos_of hit
  by_cases hp:pos<s.size
  ·have ha:=zti HA.out pos hp;have hnx:∀ty,(Instr.next (.pointer (some ⟨w.heap.size,0,none⟩)) true ty).run prog wr=_:=fun ty=>Lib.run_next_ascii_at wr w.heap.size s pos ty hit hp ha
   have hit2:=Lib.iterAt_heap wr w.heap.size s pos (pos+1) hit;have hbw2:Hid _:=Lib.below_iterAt hbw.out (k:=w.heap.size) qN s (pos+1);have hne:(((s[pos]'hp).toNat:Int)==65533)=false:=by simp;omega
   generalize wr.iterAt w.heap.size s (pos+1)=W1 at hnx hit2 hbw2;generalize ((s[pos]'hp).toNat:Int)=z at hnx hne;clear hit hbw ha;go_wp2
   go_roundw
   case rel=>exact⟨_,hit2,hbw2⟩
   case measure=>rw[iterPos_of hit2,hpos0];omega
  ·have hnx:∀ty,(Instr.next (.pointer (some ⟨w.heap.size,0,none⟩)) true ty).run prog wr=_:=fun ty=>Lib.run_next_end_at wr w.heap.size s pos ty hit hp
   go_wp2;go_ret
   exact⟨rfl,hbw.out⟩
theorem zsl (r:Nat):128<=(UInt8.ofNat (128+r % 64)).toNat:=by
 have:=M.u8 (128+r % 64) (by omega);omega
set_option maxRecDepth 100000 in
theorem zs1 (r:Nat)(h:M.right (r:Int)=true)(hr:128<=r):∃(a:List UInt8) (c:UInt8),Utf8.encode (r:Int)=⟨(a++ [c]).toArray⟩/\1<=a.length/\a.length<=3/\128<=c.toNat:=by
 have hb:=M.zlu h;have he:=M.zey r h;have hd:Utf8.encode (r:Int)=⟨(M.enc (r:Int)).toArray⟩:=by unfold M.enc;simp
 have h1:=zsl r;rw[hd,he,if_neg (by omega)]
 by_cases h2:r<2048
 ·rw[if_pos h2];exact⟨[UInt8.ofNat (192+r / 64)],_,by simp only[List.cons_append,List.nil_append],by simp,by simp,h1⟩
 ·rw[if_neg h2]
  by_cases h3:r<65536
  ·rw[if_pos h3];exact⟨[UInt8.ofNat (224+r / 4096),UInt8.ofNat (128+r / 64 % 64)],_,by simp only[List.cons_append,List.nil_append],by simp,by simp,h1⟩
  ·rw[if_neg h3];exact⟨[UInt8.ofNat (240+r / 262144),UInt8.ofNat (128+r / 4096 % 64),UInt8.ofNat (128+r / 64 % 64)],_,by simp only[List.cons_append,List.nil_append],by simp,by simp,h1⟩
theorem zsk (a:List UInt8)(c:UInt8)(t:ByteArray)(ht:t=⟨(a++ [c]).toArray⟩):t.size=a.length+1/\∀hk:a.length<t.size,t[a.length]'hk=c:=by
 subst ht;refine⟨by show (a++ [c]).toArray.size=_;simp,fun hk=> ?_⟩;show (a++ [c]).toArray[a.length]'_=c;simp
set_option maxRecDepth 100000 in
theorem znp (s:ByteArray)(r:Int)(w:World)(hA:∀b∈s.data.toList,b.toNat<128)(hR:M.right r=true)(hv:Lib.validRune r=true)(hr:128<=r)(hne:r≠65533) :
  Calls prog 147 #[.string s,.int .i32 r] w fun e w'=>e=.returned (.int .i64 (-1))/\Bl w w':=by
 have HA:Hid _:=hA;clear hA;obtain⟨r,rfl⟩:∃n:Nat,r=(n:Int):=⟨r.toNat,by omega⟩;have hne':((r:Int)==65533)=false:=by simp[hne]
 obtain⟨a,c,he,ha1,ha2,hc⟩:=zs1 r hR (by omega);obtain⟨hsz,hget⟩:=zsk a c _ he;have HE:Hid _:=he;clear he;have h0:¬(r:Int)<128:=by omega
 go_enter func147,ntmps147
 go_wp2_with (go_at_call 161;refine(Any.utf8_ValidRune Tryz.lays119 r _).mono ?_;rintro e w1 ⟨rfl,rfl⟩;rw[hv])
 go_step3
 go_wp2
 go_loopw [9] (fun i wr=>i=.int .i64 a.length/\wr=w1) (fun _ _=>0)
 case atStart=>exact⟨rfl,rfl⟩
 case round =>
  obtain⟨rfl,rfl⟩:=hrel
  by_cases hlt:a.length<s.size
  ·have hb:=zti HA.out a.length hlt;have q1:(a.length:Int)+1<=(s.size:Int):=by omega
   have q0:IntKind.i64.wrap ((a.length:Int)+1)=(a.length:Int)+1:=by
    have h3:a.length=1∨a.length=2∨a.length=3:=by omega
    rcases h3 with h|h|h <;> rw[h] <;> rfl
   have q2:(0:Int)<=(a.length:Int)+1:=by omega
   have q3:((a.length:Int)+1).toNat=a.length+1:=by omega
   have hx:Hid ((((s[a.length]'hlt).toNat:Int) != (c.toNat:Int))=true):=by show _=_;simp;omega
   go_wp2
   go_step3
   go_wp2
   go_quiet (fail)
   rw[hx.out];clear hb hx;go_wp2;have hlt2:a.length<(Utf8.encode (r:Int)).size:=by rw[hsz];omega
   have hix:∀w,(Instr.index 9 (.string (Utf8.encode (r:Int))) (.int .i64 a.length)).run prog w=.ok (.int .u8 c.toNat) w:=by
    intro w;have:=hget hlt2;have h9:=underlying9;have q4:(a.length:Int)<(a.length:Int)+1:=by omega
    simp[go_sem,hsz,this,h9,q4]
   have hno:Lib.indexByte (s.extract (a.length+1) s.size).data.toList ((c.toNat:Int).toNat.toUInt8)= -1:=by
    apply index_none;intro hm;have:=HA.out _ (zup hm);simp at this;omega
   go_region_with (first|(go_at_call 160;refine(zs8 _ _ _).mono ?_;rintro e w2 ⟨rfl,rfl⟩;rw[hno]))
   all_goals go_wp2
   rw[Exit.noGoto_ret];change Exit.noGoto (Exit.inBlock 0 _) Exit.ret _ _;rw[Exit.noGoto_ret];simp only[Exit.inBlock,Exit.then];rw[Exit.noGoto_ret];go_ret;exact⟨rfl,below_drewN (qR _) _⟩
  ·go_wp2;rw[Exit.noGoto_ret]
   go_ret;exact⟨rfl,qR _⟩
theorem zji (s:ByteArray)(r:Int)(w:World)(hA:∀b∈s.data.toList,b.toNat<128)(hr:r= -1∨M.right r=true) :
  Calls prog 129 #[.string s,.int .i32 r] w fun e w'=>e=.returned (.bool (decide (r∈T.bts s)))/\Bl w w':=by
 by_cases h:0<=r/\r<128
 ·exact zga s r w h.1 h.2
 ·have h':r<0∨128<=r:=by omega
  refine zk9 s r w hA h' ?_
  by_cases h1:r=65533
  ·subst h1;exact znq s w hA
  ·rcases hr with rfl|hR
   ·exact zi8 s (-1) w (by decide) h' h1
   ·have h0:0<=r:=by unfold M.right at hR;exact(of_decide_eq_true hR).1
    cases hv:Lib.validRune r with
    | true=>exact znp s r w hA hR hv (by omega) h1
    | false=>exact zi8 s r w hv h' h1
end
section
open Go.RowKit
theorem zf6 (s:ByteArray)(w:World)(cb tb cap p:Nat)(ao:Option Addr)(l:List Int)(C:T.Cur w cb tb cap ao l p)(hA:∀b∈s.data.toList,b.toNat<128) :
  Calls prog 108 #[.pointer (some ⟨cb,0,none⟩),.string s] w fun e w'=>e=.returned (.bool (decide (T.see l p∈T.bts s)))/\Bl w w':=by
 have hr:=C.zo4 p
 go_enter func108,ntmps108
 go_wp2_with fail
 refine(za6 _ cb tb cap p 0 ao l C (by omega)).mono ?_;rintro e w1 ⟨rfl,b1⟩;rw[Nat.add_zero]
 go_wp2_with fail
 refine(zji s _ _ hA hr).mono ?_;rintro e w2 ⟨rfl,b2⟩;go_wp2;go_ret;exact⟨rfl,b1.trans (b2.mono b1.size)⟩
theorem zq1 (w:World)(cb tb cap p:Nat)(ao:Option Addr)(l:List Int)(C:T.Cur w cb tb cap ao l p) :
  Calls prog 108 #[.pointer (some ⟨cb,0,none⟩),.string { data:=#[32,9,10] }] w fun e w'=>e=.returned (.bool (T.blank (T.see l p)))/\Bl w w' :=
 zf6 { data:=#[32,9,10] } w cb tb cap p ao l C (by decide)
theorem zsr (w:World)(cb tb cap p:Nat)(ao:Option Addr)(l:List Int)(C:T.Cur w cb tb cap ao l p) :
  Calls prog 108 #[.pointer (some ⟨cb,0,none⟩),.string { data:=#[48,49,50,51,52,53,54,55,56,57,97,98,99,100,101,102,65,66,67,68,69,70] }] w fun e w'=>e=.returned (.bool (T.hexd (T.see l p)))/\Bl w w' :=
 zf6 _ w cb tb cap p ao l C (by decide)
theorem zro (w:World)(cb tb cap p:Nat)(ao:Option Addr)(l:List Int)(C:T.Cur w cb tb cap ao l p) :
  Calls prog 108 #[.pointer (some ⟨cb,0,none⟩),.string { data:=#[32,9,10,91,93,38,45,94,92,58,36,40,41,123,125,60,62,124,59,35,39,34,61,44] }] w fun e w'=>e=.returned (.bool (decide (T.see l p∈T.specials)))/\Bl w w' :=
 zf6 _ w cb tb cap p ao l C (by decide)
theorem zht (w:World)(cb tb cap p:Nat)(ao:Option Addr)(l:List Int)(C:T.Cur w cb tb cap ao l p) :
  Calls prog 185 #[.pointer (some ⟨cb,0,none⟩)] w fun e w'=>e=.returned (.bool (T.ordy (T.see l p)))/\Bl w w':=by
 unfold T.ordy
 go_enter func185,ntmps185
 go_wp2_with fail
 refine(zd7 _ cb tb cap p ao l C).mono ?_;rintro e w1 ⟨rfl,b1⟩;have C1:=C.below b1
 by_cases h:T.see l p= -1
 ·go_wp2;go_ret
  exact⟨L.zaj (by simp[h]),b1⟩
 ·go_wp2_with (go_at_call 108;refine(zro _ cb tb cap p ao l C1).mono ?_;rintro e w2 ⟨rfl,b2⟩)
  go_ret;exact⟨L.zaj (by simp[h]),b1.trans (b2.mono b1.size)⟩
theorem zbm (w:World)(cb tb cap p:Nat)(ao:Option Addr)(l:List Int)(C:T.Cur w cb tb cap ao l p) :
  Calls prog 81 #[.pointer (some ⟨cb,0,none⟩)] w fun e w'=>e=.returned (.tuple #[])/\T.Cur w' cb tb cap ao l (T.skipW T.blank l p)/\w.grownBy w' (some cb):=by
 have hlen:=C.len
 go_enter func81,ntmps81
 go_wp2
 go_loopw [3] (fun _ wr=>∃q:Nat,p<=q/\Hid (∀i,p<=i->i<q->T.blank (T.see l i)=true)/\Hid (T.Cur wr cb tb cap ao l q)/\Hid (w.grownBy wr (some cb))) (fun _ wr=>l.length-T.pos wr cb)
 case atStart=>exact⟨p,qN,fun i h1 h2=>by omega,C,S.zat _ _⟩
 case round =>
  obtain⟨q,hq,HA,HC,HG⟩:=hrel;have hpos:=HC.out.pos;have HP:Hid _:=hpos;clear hpos;have hql:=HC.out.le
  go_wp2_with fail
  refine(zq1 _ cb tb cap q ao l HC.out).mono ?_;rintro e w1 ⟨rfl,b1⟩;have C1:=HC.out.below b1;have c1:=C1.cell1;have f1:=C1.frz1;have HC1:=qH C1;clear C1
  by_cases hb:T.blank (T.see l q)=true
  ·have hlt:=HC.out.inside (by intro h;rw[h] at hb;revert hb;decide);go_wp2
   go_roundw
   case rel =>
    refine⟨q+1,by omega,fun i h1 h2=> ?_,HC1.out.set (q:=q+1) (by omega),S.zaa HG.out (S.zaa (S.zaf b1) (zdc _ _ _ _))⟩
    by_cases e:i=q
    ·rw[e];exact hb
    ·exact HA.out i h1 (by omega)
   case measure =>
    have h1:T.pos (w1.setCell ⟨cb,1,none⟩ (.int .i64 ((q:Int)+1))) cb=q+1:=(HC1.out.set (q:=q+1) (by omega)).pos;rw[h1,HP.out];omega
  ·have hb':T.blank (T.see l q)=false:=by simpa using hb
   go_wp2
   go_end0
   rw[T.zcl hq hql HA.out hb' (by decide)];exact⟨rfl,HC1.out,S.zaa HG.out (S.zaf b1)⟩
theorem zi2 (c:Int)(w:World) :
  Calls prog 249 #[.int .u8 c] w fun e w'=>e=.returned (.int .u8 (bits .or .u8 c 32))/\w'=w:=by
 go_enter func249,ntmps249
 go_wp2;go_ret
 exact⟨rfl,rfl⟩
theorem zlx:∀c:Fin 6,bits .or .u8 ((97+c.1:Nat):Int) 32=((97+c.1:Nat):Int)/\bits .or .u8 ((65+c.1:Nat):Int) 32=((97+c.1:Nat):Int):=by decide +kernel
theorem zcf {r:Int}(h:T.hexd r=true):(48<=r/\r<=57)∨(97<=r/\r<=102)∨(65<=r/\r<=70):=by
 unfold T.hexd T.hexes at h;simp only[List.mem_cons,List.not_mem_nil,or_false,decide_eq_true_eq] at h;omega
theorem pow16 {k:Nat}(h:k<=5):(16:Int) ^ k<=1048576:=by
 have h6:k=0∨k=1∨k=2∨k=3∨k=4∨k=5:=by omega
 rcases h6 with rfl|rfl|rfl|rfl|rfl|rfl <;> decide
theorem zqc (l:List Int)(h:∀r∈l,T.hexd r=true):∀k,0<=T.hexN (l.take k)/\T.hexN (l.take k)<16 ^ k:=by
 intro k
 induction k with
 | zero=>simp[T.hexN]
 | succ k ih =>
  have h4:(16:Int) ^ (k+1)=16*16 ^ k:=by rw[Int.pow_succ];omega
  rw[List.take_add_one];cases hk:l[k]? with
  | none=>simp only[Option.toList_none,List.append_nil];omega
  | some r =>
   have h2:=zcf (h r (List.mem_of_getElem? hk));have h3:0<=T.hexOne r/\T.hexOne r<=15:=by unfold T.hexOne;split <;> (try split) <;> omega
   simp only[Option.toList_some];rw[T.zi9];omega
set_option maxRecDepth 100000 in
theorem parseUint16 (s:ByteArray)(w:World)(hs:s.size<=6)(h0:s.size≠0)(hx:∀b∈s.data.toList,T.hexd (b.toNat:Int)=true) :
  Calls prog 238 #[.string s,.int .i64 16,.int .i64 32] w fun e w'=>e=.returned (.tuple #[.int .u64 (T.hexN (T.bts s)),.nilIface])/\Bl w w':=by
 have hemp:s.toList.isEmpty=false:=by
  rw[<- decide_eq_emptyBytes];exact decide_eq_false (fun h=>h0 (by rw[h];rfl))
 have hcv:=Lib.run_convert_string_bytes (P:=prog) w 9 91 5 s (u:=.string) underlying9 underlying91 underlying5;have hB:=fun j hj=>Lib.bytesWorld_cell w 5 s j hj
 have HBel:=qH<|Lib.bytesWorld_below w 5 s;obtain⟨W1,hW1⟩:=qE (Lib.bytesWorld w 5 s);rw[<- hW1] at hcv hB HBel;clear hW1;have hLn:s.data.toList.length=s.size:=by simp
 have HN:=qH<|zqc (T.bts s) fun r hr=>by
  unfold T.bts at hr;rw[List.mem_map] at hr;obtain⟨b,hb,rfl⟩:=hr;exact hx b hb
 have HB':Hid _:=hB;have HX:=qH hx;have HLn:Hid _:=hLn;clear hB hx hLn
 go_enter func238,ntmps238
 go_wp2
 go_loop [12,13,101] (fun vu vn vi=>∃(k:Nat) (a:Int),vu=.bool false/\vn=.int .u64 a/\vi=.int .i64 k/\k<=s.size/\Hid (a=T.hexN ((T.bts s).take k)))
  (fun _ _ vi=>s.size-(intOf vi).toNat)
 case atStart=>exact⟨0,0,rfl,rfl,rfl,by omega,rfl⟩
 case round =>
  obtain⟨k,a,rfl,rfl,rfl,hk,HH⟩:=hrel
  by_cases hkn:k<s.size
  ·have hc:=HB'.out k hkn;have hbd:=HN.out k;rw[<- HH.out] at hbd;have hp:=pow16 (k:=k) (by omega);have a0:=hbd.1;have a1:a<1048576:=by omega
   clear hbd hp;have hget:s.data.toList.getD k 0=s.data.toList[k]'(by have:=HLn.out;omega):=by simp[List.getD,List.getElem?_eq_getElem (show k<s.data.toList.length by have:=HLn.out;omega)]
   have hm:s.data.toList[k]'(by have:=HLn.out;omega)∈s.data.toList:=List.getElem_mem _
   have HT:Hid ((T.bts s).take (k+1)=(T.bts s).take k++ [((s.data.toList[k]'(by have:=HLn.out;omega)).toNat:Int)]):=by
    show _=_;rw[List.take_add_one];unfold T.bts;rw[List.getElem?_map,List.getElem?_eq_getElem (by have:=HLn.out;omega)];rfl
   rw[hget] at hc;have hd:=zcf (HX.out _ hm);clear hget hm;generalize (s.data.toList[k]'(by have:=HLn.out;omega))=c at hc hd HT
   have HS:Hid (T.hexN ((T.bts s).take (k+1))=16*a+T.hexOne (c.toNat:Int)):=by
    show _=_;rw[HT.out,T.zi9,HH.out]
   generalize (c.toNat:Int)=z at hc hd HS;rcases hd with hd|hd|hd
   ·have HV:Hid (T.hexOne z=z-48):=by show _=_;unfold T.hexOne;rw[if_pos (by omega)]
    have hd0:=hd.1;have hd1:=hd.2;have h95:(z==95)=false:=by simp;omega
    go_wp2;refine⟨⟨k+1,a*16+(z-48),rfl,rfl,(by first|rfl|(congr 1;omega)),by omega,?_⟩,by simp[intOf];omega⟩
    show _=_;rw[HS.out,HV.out];omega
   ·have HV:Hid (T.hexOne z=z-87):=by show _=_;unfold T.hexOne;rw[if_neg (by omega),if_neg (by omega)]
    have hor:bits .or .u8 z 32=z:=by
     have:=(zlx ⟨(z-97).toNat,by omega⟩).1;have e:((97+(z-97).toNat:Nat):Int)=z:=by omega
     rw[e] at this;exact this
    have hd0:=hd.1;have hd1:=hd.2;have h95:(z==95)=false:=by simp;omega
    go_wp2_with (go_at_call 249;refine(zi2 _ _).mono ?_;rintro e w' ⟨rfl,rfl⟩;rw[hor])
    refine⟨⟨k+1,a*16+(z-87),rfl,(by first|rfl|(congr 1;omega)),(by first|rfl|(congr 1;omega)),by omega,?_⟩,by simp[intOf];omega⟩;show _=_;rw[HS.out,HV.out];omega
   ·have HV:Hid (T.hexOne z=z-55):=by show _=_;unfold T.hexOne;rw[if_neg (by omega),if_pos (by omega)]
    have hor:bits .or .u8 z 32=z+32:=by
     have:=(zlx ⟨(z-65).toNat,by omega⟩).2;have e:((65+(z-65).toNat:Nat):Int)=z:=by omega
     have e2:((97+(z-65).toNat:Nat):Int)=z+32:=by omega
     rw[e,e2] at this;exact this
    have hd0:=hd.1;have hd1:=hd.2;have h95:(z==95)=false:=by simp;omega
    go_wp2_with (go_at_call 249;refine(zi2 _ _).mono ?_;rintro e w' ⟨rfl,rfl⟩;rw[hor])
    refine⟨⟨k+1,a*16+(z-55),rfl,(by first|rfl|(congr 1;omega)),(by first|rfl|(congr 1;omega)),by omega,?_⟩,by simp[intOf];omega⟩;show _=_;rw[HS.out,HV.out];omega
  ·have hkk:k=s.size:=by omega
   subst hkk;go_wp2
   go_ret2
   refine⟨?_,HBel.out⟩;rw[HH.out,List.take_of_length_le (by unfold T.bts;simp)];rfl
theorem zgz (s:ByteArray)(hs:s.size<=6)(hx:∀b∈s.data.toList,T.hexd (b.toNat:Int)=true):0<=T.hexN (T.bts s)/\T.hexN (T.bts s)<16777216:=by
 have h:=zqc (T.bts s) (fun r hr=>by
  unfold T.bts at hr;rw[List.mem_map] at hr;obtain⟨b,hb,rfl⟩:=hr
  exact hx b hb) 6
 rw[List.take_of_length_le (by unfold T.bts;simp;exact hs)] at h;have h6:(16:Int) ^ 6=16777216:=by decide
 omega
set_option maxRecDepth 100000 in
theorem parseInt16 (s:ByteArray)(w:World)(hs:s.size<=6)(h0:s.size≠0)(hx:∀b∈s.data.toList,T.hexd (b.toNat:Int)=true) :
  Calls prog 225 #[.string s,.int .i64 16,.int .i64 32] w fun e w'=>e=.returned (.tuple #[.int .i64 (T.hexN (T.bts s)),.nilIface])/\Bl w w':=by
 have hemp:s.toList.isEmpty=false:=by
  rw[<- decide_eq_emptyBytes];exact decide_eq_false (fun h=>h0 (by rw[h];rfl))
 have hbd:=zgz s hs hx;have hp:0<s.size:=by omega
 have hq:(0:Int)<(s.size:Int):=by omega
 have hd:=zcf (hx (s[0]'hp) (by
  have:s[0]'hp=s.data.toList[0]'(by simpa using hp):=by simp[ByteArray.getElem_eq_getElem_data]
  rw[this];exact List.getElem_mem _))
 have e43:(((s[0]'hp).toNat:Int)==43)=false:=by simp;omega
 have e45:(((s[0]'hp).toNat:Int)==45)=false:=by simp;omega
 have HX:Hid _:=hx;have HP:=qH<|parseUint16 s w hs h0 hx;generalize T.hexN (T.bts s)=n at hbd HP;have n0:=hbd.1;have n1:=hbd.2;have n2:n<2147483648:=by omega
 clear hd hbd hx
 go_enter func225,ntmps225
 go_wp2_with (go_at_call 238;refine HP.out.mono ?_;rintro e w1 ⟨rfl,b1⟩)
 all_goals go_ret2
 all_goals exact⟨rfl,b1⟩
theorem zpr (s:ByteArray)(w:World)(hs:s.size<=6)(h0:s.size≠0)(hx:∀b∈s.data.toList,T.hexd (b.toNat:Int)=true) :
  Calls prog 222 #[.string s,.int .i64 16,.int .i64 32] w fun e w'=>e=.returned (.tuple #[.int .i64 (T.hexN (T.bts s)),.nilIface])/\Bl w w':=by
 have HP:=qH<|parseInt16 s w hs h0 hx;generalize T.hexN (T.bts s)=n at HP;clear hx
 go_enter func222,ntmps222
 go_wp2_with (go_at_call 225;refine HP.out.mono ?_;rintro e w1 ⟨rfl,b1⟩)
 go_ret2
 exact⟨rfl,b1⟩
def T.Ends (w:World) (cb tb cap:Nat) (ao:Option Addr) (l:List Int) {α:Type} (o:T.Out α) (val:α->Value->World->Prop) (e:Ending) (w':World):Prop :=
 match o with
 | .ok a q=>∃v,e=.returned v/\val a v w'/\T.Cur w' cb tb cap ao l q/\w.grownBy w' (some cb)
 | .bad er q=>e=T.thrown er q/\w.grownBy w' (some cb)
def T.isRune (a:Int) (v:Value) (_:World):Prop:=v=.int .i32 a
theorem zfv:∀(ns:List Int) (r:ByteArray),(ns.foldl (fun r n=>r++Utf8.encode n) r).data.toList=r.data.toList++ns.flatMap fun n=>M.enc n
 | [],r=>by simp
 | n::ns,r=>by
  rw[List.foldl_cons,zfv ns,ByteArray.data_append,Array.toList_append,List.flatMap_cons,List.append_assoc];rfl
theorem zbg (ns:List Int):(runesBytes ns).data.toList=ns.flatMap fun n=>M.enc n:=by
 have h:=zfv ns ByteArray.empty;have e:ByteArray.empty.data.toList=([]:List UInt8):=rfl;rw[e,List.nil_append] at h;exact h
theorem zg6 {P:Program}{w:World}{ao:Option Addr}{cap:Nat}{zs:List Int}(src dst e:TypeId)
  (hs:P.underlying src=some (.slice e)) (he:P.underlying e=some (.int .i32)) (hd:P.underlying dst=some .string)
  (hn:ao=none->cap=0) (hc:zs≠ []->∃b off,ao=some ⟨b,off,none⟩/\∀j z,zs[j]?=some z->w.cell? ⟨b,off+j,none⟩=some (.int .i32 z)) :
  (convert src dst (.slice ao zs.length cap)).run P w=.ok (.string (runesBytes zs)) w:=by
 cases ao with
 | none =>
  have h0:zs= []:=by
   cases zs with
   | nil=>rfl
   | cons z zs=>obtain⟨b,off,h,_⟩:=hc (by simp);simp at h
  subst h0;exact run_convert_runes_nil w src dst e _ _ hs he hd
 | some ad =>
  have h:=run_convert_runes (P:=P) w src dst e ad zs.length cap zs qN hs he hd (fun j hj=>by
   obtain⟨b,off,hao,hcell⟩:=hc (by intro h;subst h;simp at hj);simp at hao;subst hao;rw[L.addr_add]
   exact hcell j _ (by simp[List.getD,hj]))
  rw[List.take_length] at h;exact h
theorem zlh (zs:List Int)(h:∀z∈zs,0<=z/\z<128):T.bts (runesBytes zs)=zs/\(runesBytes zs).size=zs.length/\∀b∈(runesBytes zs).data.toList,(b.toNat:Int)∈zs:=by
 have h1:(runesBytes zs).data.toList.map (fun b=>(b.toNat:Int))=zs:=by
  rw[zbg]
  induction zs with
  | nil=>rfl
  | cons z zs ih =>
   have hz:=h z (by simp);obtain⟨n,rfl⟩:∃n:Nat,z=(n:Int):=⟨z.toNat,by omega⟩;have hr:M.right (n:Int)=true:=by unfold M.right;exact decide_eq_true (by omega)
   rw[List.flatMap_cons,List.map_append,ih (fun x hx=>h x (by simp[hx])),M.zey n hr,if_pos (by omega)];simp only[List.map_cons,List.map_nil,M.u8 n (by omega)];rfl
 refine⟨h1,?_,fun b hb=> ?_⟩
 ·have:=congrArg List.length h1;rw[List.length_map] at this;have e:(runesBytes zs).data.toList.length=(runesBytes zs).size:=by simp
  omega
 ·rw[<- h1];exact List.mem_map.2 ⟨b,hb,rfl⟩
theorem zer {l:List Int}{p q:Nat}(h1:p<=q)(h2:q<=l.length):(T.cut l p q).length=q-p:=by
 unfold T.cut;rw[List.length_take,List.length_drop];omega
theorem zh1 {l:List Int}{p q j:Nat}{z:Int}(h:(T.cut l p q)[j]?=some z):l[p+j]?=some z:=by
 unfold T.cut at h;rw[List.getElem?_take] at h;split at h
 ·rwa [List.getElem?_drop] at h
 ·cases h
theorem T.Cur.text {w:World}{cb tb cap p:Nat}{ao:Option Addr}{l:List Int}(C:T.Cur w cb tb cap ao l p){f q:Nat}(h1:f<=q)(h2:q<=l.length)(a:Addr)(ha:f<q->a=⟨tb,f,none⟩)(c:Nat) :
  (convert 42 9 (.slice (some a) (q-f) c)).run prog w=.ok (.string (runesBytes (T.cut l f q))) w:=by
 have h:=zg6 (P:=prog) (w:=w) (ao:=some a) (cap:=c) (zs:=T.cut l f q) 42 9 21 underlying42 underlying21 underlying9 (fun h=>by cases h) (fun hne=>by
  have hlt:f<q:=by
   apply Classical.byContradiction;intro hn;exact hne (List.length_eq_zero_iff.1 (by rw[zer h1 h2];omega))
  exact⟨tb,f,by rw[ha hlt],fun j z hj=>C.rd _ _ (zh1 hj)⟩)
 rw[zer h1 h2] at h;exact h
theorem zuf (w:World)(cb tb cap p:Nat)(ao:Option Addr)(l:List Int)(C:T.Cur w cb tb cap ao l p)(hu:T.see l p=117) :
  Calls prog 217 #[.pointer (some ⟨cb,0,none⟩)] w (T.Ends w cb tb cap ao l (T.num l p) T.isRune):=by
 have hp:=C.inside (by rw[hu];decide);have hlen:=C.len;have c1:=C.cell1;have HC:=qH C;clear C;obtain⟨o,HO⟩:∃o,Hid (T.num l p=o):=⟨_,rfl⟩;rw[HO.out]
 by_cases h1:T.see l (p+1)=123
 ·have hp1:=HC.out.len
  go_enter func217,ntmps217
  go_wp2_with fail
  refine(za0 _ cb tb cap p ao l 117 (by decide) HC.out hu).mono ?_;rintro e w1 ⟨rfl,C1,g1⟩;have G1:=qH g1;clear g1
  go_wp2_with fail
  refine(za0 _ cb tb cap (p+1) ao l 123 (by decide) C1 h1).mono ?_;rintro e w2 ⟨rfl,C2,g2⟩;have G2:=qH<|S.zaa G1.out g2;obtain⟨f,HF⟩:∃f,Hid (p+2=f):=⟨_,rfl⟩;have d1:w2.cell? ⟨cb,1,none⟩=some (.int .i64 (f:Int)):=by rw[<- HF.out];exact C2.cell1
  have HC2:Hid (T.Cur w2 cb tb cap ao l (p+2)):=C2;have hle2:=C2.le;clear C2 C1 G1 g2 c1;go_wp2
  go_loopw [21] (fun _ wr=>∃q:Nat,p+2<=q/\Hid (∀i,p+2<=i->i<q->T.hexd (T.see l i)=true)/\Hid (T.Cur wr cb tb cap ao l q)/\Hid (w.grownBy wr (some cb))) (fun _ wr=>l.length-T.pos wr cb)
  case atStart=>exact⟨p+2,qN,fun i h1 h2=>by omega,HC2,G2⟩
  case round =>
   obtain⟨q,hq,HA,HCq,HG⟩:=hrel;have HP:Hid _:=HCq.out.pos;have hql:=HCq.out.le
   go_wp2_with fail
   refine(zsr _ cb tb cap q ao l HCq.out).mono ?_;rintro e w3 ⟨rfl,b3⟩;have C3:=HCq.out.below b3;have c3:=C3.cell1;have c3t:=C3.cell0;have f3:=C3.frz1;have HC3:=qH C3;have HG3:=qH<|S.zaa HG.out (S.zaf b3);clear C3
   by_cases hb:T.hexd (T.see l q)=true
   ·have hlt:=HCq.out.inside (by intro h;rw[h] at hb;revert hb;decide);go_wp2
    go_roundw
    case rel =>
     refine⟨q+1,by omega,fun i h1 h2=> ?_,HC3.out.set (q:=q+1) (by omega),S.zaa HG3.out (zdc _ _ _ _)⟩
     by_cases e:i=q
     ·rw[e];exact hb
     ·exact HA.out i h1 (by omega)
    case measure =>
     have h1:T.pos (w3.setCell ⟨cb,1,none⟩ (.int .i64 ((q:Int)+1))) cb=q+1:=(HC3.out.set (q:=q+1) (by omega)).pos;rw[h1,HP.out];omega
   ·have hb':T.hexd (T.see l q)=false:=by simpa using hb
    have HK:=qH<|T.zcl hq hql HA.out hb' (by decide);have hao:=HC3.out.txt (by intro h;subst h;simp at hp);subst hao;have hcp:=HC3.out.cp;have hfq:f<=q:=by have:=HF.out;omega
    have hz:=zlh (T.cut l f q) fun z hz=>by
     obtain⟨j,hj⟩:=List.getElem?_of_mem hz
     have hlj:j<q-f:=by
      have:=(qL.1 hj).1;rw[zer hfq hql] at this;exact this
     have h3:=T.zhk (zh1 hj);have h4:=HA.out (f+j) (by have:=HF.out;omega) (by omega);rw[h3] at h4;have:=zcf h4;omega
    have HZ:Hid _:=hz;rw[zer hfq hql] at hz;have hsz:=hz.2.1;clear hz;have i1:(0:Int)<=(f:Int):=by omega
    have i2:(f:Int)<=(q:Int):=by omega
    have i3:(q:Int)<=(cap:Int):=by omega
    have HHex:Hid (∀b∈(runesBytes (T.cut l f q)).data.toList,T.hexd (b.toNat:Int)=true):=fun b hb=>by
     have h3:=HZ.out.2.2 b hb;obtain⟨j,hj⟩:=List.getElem?_of_mem h3
     have hlj:j<q-f:=by
      have:=(qL.1 hj).1;rw[zer hfq hql] at this;exact this
     have h5:=T.zhk (zh1 hj);have h4:=HA.out (f+j) (by have:=HF.out;omega) (by omega);rw[h5] at h4;exact h4
    by_cases hlt:f<q
    ·have hcf:¬cap=f:=by omega
     have hcv:∀n,(convert 42 9 (.slice (some ⟨tb,f,none⟩) (q-f) (cap-f))).run prog (w3.drewN n)=.ok (.string (runesBytes (T.cut l f q))) (w3.drewN n):=fun n=>(HC3.out.drewN n).text hfq hql _ (fun _=>rfl) _
     generalize runesBytes (T.cut l f q)=str at hcv hsz HHex HZ;go_wp2
     go_quiet (fail)
     have C4:=HC3.out.drewN nq;have HG4:Hid (w.grownBy (w3.drewN nq) (some cb)):=S.zaa HG3.out (zb6 _ _ _);clear hcv;generalize w3.drewN nq=w4 at C4 HG4;have HC4:=qH C4;clear C4;have hk1:¬str.size<1:=by omega
     by_cases h6:6<str.size
     ·go_wp2_with (go_at_call 29;refine(zaw _ 2 f).mono ?_;unfold T.thrown;rintro e w5 ⟨rfl,rfl⟩)
      refine⟨rfl,?_⟩;rw[<- HO.out];unfold T.num;rw[HK.out,HF.out,if_neg (by simp[h1]),if_pos (.inr (by omega))];exact⟨rfl,HG4.out⟩
     ·by_cases h125:T.see l q=125
      ·go_wp2_with fail
       refine(za0 _ cb tb cap q _ l 125 (by decide) HC4.out h125).mono ?_;rintro e w5 ⟨rfl,C5,g5⟩;have HC5:=qH C5;have HG5:=qH<|S.zaa HG4.out g5;clear C5 g5
       go_wp2_with fail
       refine(zpr str _ (by omega) (by omega) HHex.out).mono ?_;have hn:=zgz str (by omega) HHex.out;rw[HZ.out.1] at hn ⊢;obtain⟨n,HN⟩:∃n,Hid (T.hexN (T.cut l f q)=n):=⟨_,rfl⟩;rw[HN.out] at hn ⊢;rintro e w6 ⟨rfl,b6⟩;have HC6:=qH<|HC5.out.below b6;have HG6:=qH<|S.zaa HG5.out (S.zaf b6);clear b6
       by_cases hbig:1114111<n
       ·go_wp2_with (go_at_call 29;refine(zaw _ 3 p).mono ?_;unfold T.thrown;rintro e w7 ⟨rfl,rfl⟩)
        refine⟨rfl,?_⟩;rw[<- HO.out];unfold T.num;rw[HK.out,HF.out,HN.out,if_neg (by simp[h1]),if_neg (by omega),if_neg (by simp[h125]),if_pos hbig];exact⟨rfl,HG6.out⟩
       ·have hn0:=hn.1;have hn1:=hn.2;go_wp2;go_ret;rw[<- HO.out];unfold T.num;rw[HK.out,HF.out,HN.out,if_neg (by simp[h1]),if_neg (by omega),if_neg (by simp[h125]),if_neg (by omega)];exact⟨_,rfl,rfl,HC6.out,HG6.out⟩
      ·go_wp2_with fail
       refine(zb0 _ cb tb cap q _ l 125 (by decide) HC4.out h125).mono ?_;unfold T.thrown;rintro e w5 ⟨rfl,g5⟩;go_wp2;refine⟨rfl,?_⟩;rw[<- HO.out];unfold T.num;rw[HK.out,HF.out,if_neg (by simp[h1]),if_neg (by omega),if_pos h125];exact⟨rfl,S.zaa HG4.out g5⟩
    ·have hqf:q=f:=by omega
     subst hqf
     have hcv:=fun a c n=>by
      have:=(HC3.out.drewN n).text hfq hql a (fun h=>absurd h (Nat.lt_irrefl _)) c;rw[Nat.sub_self] at this;exact this
     rw[Nat.sub_self] at hsz;generalize runesBytes (T.cut l q q)=str at hcv hsz HHex HZ
     by_cases hcf:cap=q
     all_goals go_wp2
     all_goals go_quiet (fail)
     all_goals have HG4:Hid (w.grownBy (w3.drewN nq) (some cb)):=S.zaa HG3.out (zb6 _ _ _)
     all_goals clear hcv
     all_goals generalize w3.drewN nq=w4 at HG4
     all_goals have hk1:str.size<1:=by omega
     all_goals go_wp2_with (go_at_call 29;refine(zaw _ 2 q).mono ?_;unfold T.thrown;rintro e w5 ⟨rfl,rfl⟩)
     all_goals refine⟨rfl,?_⟩
     all_goals rw[<- HO.out]
     all_goals unfold T.num
     all_goals rw[HK.out,HF.out,if_neg (by simp[h1]),if_pos (.inl (by omega))]
     all_goals exact⟨rfl,HG4.out⟩
 ·go_enter func217,ntmps217
  go_wp2_with fail
  refine(za0 _ cb tb cap p ao l 117 (by decide) HC.out hu).mono ?_;rintro e w1 ⟨rfl,C1,g1⟩
  go_wp2_with fail
  refine(zb0 _ cb tb cap (p+1) ao l 123 (by decide) C1 h1).mono ?_;unfold T.thrown;rintro e w2 ⟨rfl,g2⟩;go_wp2;refine⟨rfl,?_⟩;rw[<- HO.out];unfold T.num;rw[if_pos h1];exact⟨rfl,S.zaa g1 g2⟩
theorem zq4 (r:Int)(w:World) :
  Calls prog 218 #[.int .i32 r] w fun e w'=>e=.returned (.bool (T.alnum r))/\w'=w:=by
 go_enter func218,ntmps218
 go_wp2
 all_goals go_ret
 all_goals refine⟨L.zaj ?_,rfl⟩
 all_goals (unfold T.alnum;rw[Bool.eq_iff_iff];simp;try omega)
