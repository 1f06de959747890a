/-
 What scriptref1.Walk hands back of any text of at most 2^40 bytes: its runes, their places and the end, and how many bytes begin none.
-/
import Derived.Test.YtdfjokdknanlfaaGreatDoorShSp
import Derived.Test.YtdfjokdknanlfaaGreatDoorRPos
import Derived.Test.YtdfjokdknanlfaaGreatDoorShOneA
import Derived.Laws.IdiomStrings
import Derived.BigQuiet
import Derived.Test.YtdfjokdknanlfaaGreatDoorCnPl
set_option maxHeartbeats 0
namespace Go.Proofs.YtdfjokdknanlfaaGreatDoor
open Go.RowKit
set_option maxRecDepth 40000
theorem Tryz.infoI64:(Tryz.prog.info? 3).map (fun i=>(i.zero,i.size,i.bytes))=some (some (.int .i64 0),1,8):=by kernel_rfl
theorem zst {L:List UInt8}{pos cnt:Nat}(h:cnt+M.sp (L.drop pos)=M.sp L):cnt<=L.length:=by
 have:=zs8 L;omega
theorem zse {s:ByteArray}{pos:Nat}(h:M.bad (Utf8.decode s pos)=true):Utf8.decode s pos=(65533,1):=by
 unfold M.bad at h;simp at h;exact Prod.ext h.1 h.2
theorem zj6 (s:ByteArray)(w:World)(hs:s.size<=1099511627776) :
  Calls Tryz.prog 14 #[.string s] w fun e w'=>∃v1 v2,e= .returned (.tuple #[v1,v2,.int .i64 (M.sp s.data.toList:Int)]) /\
   w'.ownsRow w.heap.size 21 1 v1 (M.rn s).length ((M.rn s).map (Value.int .i32))/\w'.ownsRow w.heap.size 3 1 v2 (M.pl s).length ((M.pl s).map (Value.int .i64))/\Below w.heap.size w w':=by
 obtain⟨i0,hi,hz0,hz1,hz2⟩:=info_parts Tryz.infoI32;obtain⟨i1,hi',hz0',hz1',hz2'⟩:=info_parts Tryz.infoI64
 go_enter Tryz.func14,Tryz.ntmps14
 go_wp2
 go_loopw [5,6,7,8] (fun v5 v6 n i wr=>∃(pos fuel cnt:Nat) (acc:List (Nat×Nat)),i= .int .i64 pos/\n= .int .i64 cnt /\
   wr.ownsRow w.heap.size 21 1 v5 acc.length (acc.map fun x=>Value.int .i32 (x.2:Int))/\wr.ownsRow w.heap.size 3 1 v6 acc.length (acc.map fun x=>Value.int .i64 (x.1:Int))/\Below w.heap.size w wr /\
   Hid (acc++M.steps s fuel pos=M.all s)/\Hid (cnt+M.sp (s.data.toList.drop pos)=M.sp s.data.toList)/\s.size<=pos+fuel/\acc.length<=pos/\pos<=s.size) (fun _ _ _ i _=>s.size - (intOf i).toNat)
 case atStart=>exact⟨0,s.size,0,[],rfl,rfl,World.ownsRow_nil _ _ _ _,World.ownsRow_nil _ _ _ _,qR _,rfl,by show _=_;simp,by omega,by simp,by omega⟩
 case round =>
  obtain⟨pos,fuel,cnt,acc,rfl,rfl,own5,own6,hbw,HS,HC,hfu,hlen,hle⟩:=hrel;have hcnt:cnt<=s.size:=by have h1:=zst HC.out;have h2:s.data.toList.length=s.size:=(by rw[Array.length_toList];rfl);omega
  have hsz:=hbw.size
  by_cases hp:pos<s.size
  ·obtain⟨fuel,rfl⟩:∃f',fuel=f'+1:=⟨fuel - 1,by omega⟩;have hwd:=M.width_pos s pos hp;have hwf:=M.zk3 s pos hp;have HP:Hid (M.sp (s.data.toList.drop pos)=(if M.bad (M.d0 (s.data.toList.drop pos)) then 1 else 0)+M.sp (s.data.toList.drop (pos+(Utf8.decode s pos).2))):=zrm s pos hp;rw[<- M.zcq] at HP;have HT:Hid (M.steps s (fuel+1) pos=(pos,(Utf8.decode s pos).1)::M.steps s fuel (pos+(Utf8.decode s pos).2)):=by show _=_;simp[M.steps,hp]
   cases hb:M.bad (Utf8.decode s pos) with
   | false =>
    have HO:Hid (oneD (Utf8.decode s pos)=Utf8.decode s pos):=by show _=_;unfold oneD;rw[hb];rfl
    rw[hb] at HP
    go_wp2_with fail
    refine(zhj s pos _ hp hs).mono ?_;rintro e w1 ⟨rfl,hb1⟩;rw[HO.out];have o5:=L.za9 own5 hb1 qN;have o6:=L.za9 own6 hb1 qN;have bw1:=hbw.trans (hb1.mono hsz);have hz1w:=bw1.size;clear own5 own6 hb1 hbw hb;have hn0:¬((Utf8.decode s pos).2:Int)=0:=by omega
    go_wp2_with (first
     | (at_builtin;refine wpList_append_own _ rfl (.tmp 21) (.tmp 23) 30 rfl w.heap.size 3 i1 (.int .i64 0) 1 8 Tryz.underlying30 hi' hz0' hz1' hz2' rfl (by decide) _ _ _ rfl (o6.alloc _) ⟨w1.heap.size,0,none⟩ 1 1 [.int .i64 (pos:Int)] rfl rfl (cell_one_new _ _ _) (fun x hx=>by simp at hx;subst hx;rfl) (by unfold maxLen;omega) (by omega) (by simp;omega) ?_;intro v6' w2 o6' hg2 _;have o5':=L.zbg o6 o5 (by decide) hg2;have bw2:=L.zbr bw1 o6 qN hz1w hg2;have hz2w:=bw2.size;clear hg2 o5 o6)
     | (at_builtin;refine wpList_append_own _ rfl (.tmp 29) (.tmp 31) 23 rfl w.heap.size 21 i0 (.int .i32 0) 1 4 Tryz.underlying23 hi hz0 hz1 hz2 rfl (by decide) _ _ _ rfl (o5'.alloc _) ⟨w2.heap.size,0,none⟩ 1 1 [.int .i32 ((Utf8.decode s pos).1:Int)] rfl rfl (cell_one_new _ _ _) (fun x hx=>by simp at hx;subst hx;rfl) (by unfold maxLen;omega) (by omega) (by simp;omega) ?_;intro v5' w3 o5'' hg3 _;have o6'':=L.zbg o5' o6' (by decide) hg3;have bw3:=L.zbr bw2 o5' qN hz2w hg3;clear hg3 o5' o6'))
    go_roundw
    case rel =>
     refine⟨pos+(Utf8.decode s pos).2,fuel,cnt,acc++ [(pos,(Utf8.decode s pos).1)],by go_num,rfl,(by simpa using o5''),(by simpa using o6''),bw3,?_,?_,by omega,by simp;omega,hwf.2⟩
     ·show _=_;rw[<- HS.out,HT.out];simp
     ·show _=_;rw[<- HC.out,HP.out];simp
    case measure=>simp[intOf];omega
   | true =>
    have hd:=zse hb;have HO:Hid (oneD (Utf8.decode s pos)=(0,0)):=by show _=_;unfold oneD;rw[hb];rfl
    rw[hb,hd] at HP;rw[hd] at HT
    go_wp2_with fail
    refine(zhj s pos _ hp hs).mono ?_;rintro e w1 ⟨rfl,hb1⟩;rw[HO.out];have o5:=L.za9 own5 hb1 qN;have o6:=L.za9 own6 hb1 qN;have bw1:=hbw.trans (hb1.mono hsz);have hz1w:=bw1.size;clear own5 own6 hb1 hbw hb hd hwd hwf HO
    go_wp2_with (first
     | (at_builtin;refine wpList_append_own _ rfl (.tmp 21) (.tmp 23) 30 rfl w.heap.size 3 i1 (.int .i64 0) 1 8 Tryz.underlying30 hi' hz0' hz1' hz2' rfl (by decide) _ _ _ rfl (o6.alloc _) ⟨w1.heap.size,0,none⟩ 1 1 [.int .i64 (pos:Int)] rfl rfl (cell_one_new _ _ _) (fun x hx=>by simp at hx;subst hx;rfl) (by unfold maxLen;omega) (by omega) (by simp;omega) ?_;intro v6' w2 o6' hg2 _;have o5':=L.zbg o6 o5 (by decide) hg2;have bw2:=L.zbr bw1 o6 qN hz1w hg2;have hz2w:=bw2.size;clear hg2 o5 o6)
     | (at_builtin;refine wpList_append_own _ rfl (.tmp 29) (.tmp 31) 23 rfl w.heap.size 21 i0 (.int .i32 0) 1 4 Tryz.underlying23 hi hz0 hz1 hz2 rfl (by decide) _ _ _ rfl (o5'.alloc _) ⟨w2.heap.size,0,none⟩ 1 1 [.int .i32 65533] rfl rfl (cell_one_new _ _ _) (fun x hx=>by simp at hx;subst hx;rfl) (by unfold maxLen;omega) (by omega) (by simp;omega) ?_;intro v5' w3 o5'' hg3 _;have o6'':=L.zbg o5' o6' (by decide) hg3;have bw3:=L.zbr bw2 o5' qN hz2w hg3;clear hg3 o5' o6'))
    go_roundw
    case rel =>
     refine⟨pos+1,fuel,cnt+1,acc++ [(pos,65533)],by go_num,by go_num,(by simpa using o5''),(by simpa using o6''),bw3,?_,?_,by omega,by simp;omega,by omega⟩
     ·show _=_;rw[<- HS.out,HT.out];simp
     ·show _=_;rw[<- HC.out,HP.out];simp;omega
    case measure=>simp[intOf];omega
  ·go_wp2_with (at_builtin;go_must (refine wpList_append_own _ rfl (.tmp 37) (.tmp 40) 30 rfl w.heap.size 3 i1 (.int .i64 0) 1 8 Tryz.underlying30 hi' hz0' hz1' hz2' rfl (by decide) _ _ _ rfl (own6.alloc _) ⟨wr.heap.size,0,none⟩ 1 1 [.int .i64 (s.size:Int)] rfl rfl (cell_one_new _ _ _) (fun x hx=>by simp at hx;subst hx;rfl) (by unfold maxLen;omega) (by omega) (by simp;omega) ?_;intro v6' w2 o6' hg2 _;have o5':=L.zbg own6 own5 (by decide) hg2;have bw2:=L.zbr hbw own6 qN hsz hg2;clear hg2))
   go_ret3
   have e1:=HS.out;rw[M.zet s fuel pos hp,List.append_nil] at e1;have e2:=HC.out;rw[zso s pos hp] at e2;have e3:M.rn s=acc.map fun x=>(x.2:Int):=by unfold M.rn;rw[<- e1]
   have e4:M.pl s=(acc.map fun x=>(x.1:Int))++ [(s.size:Int)]:=by unfold M.pl;rw[<- e1]
   rw[<- e2,e3,e4];exact⟨_,_,rfl,by simpa [Function.comp_def] using o5',by simpa [Function.comp_def] using o6',bw2⟩
end Go.Proofs.YtdfjokdknanlfaaGreatDoor
namespace Go.Proofs.YtdfjokdknanlfaaGreatDoor
open Go.RowKit
theorem Tryz.infoU8:(Tryz.prog.info? 5).map (fun i=>(i.zero,i.size,i.bytes))=some (some (.int .u8 0),1,1):=by kernel_rfl
def encI (r:Int):List Int:=(M.enc r).map fun b=>(b.toNat:Int)
theorem zov (r:Nat)(h:M.right (r:Int)=true):encI (r:Int) =
  if r<128 then [(r:Int)] else if r<2048 then [192+(r:Int) / 64,128+(r:Int) % 64]
  else if r<65536 then [224+(r:Int) / 4096,128+(r:Int) / 64 % 64,128+(r:Int) % 64]
  else [240+(r:Int) / 262144,128+(r:Int) / 4096 % 64,128+(r:Int) / 64 % 64,128+(r:Int) % 64]:=by
 have hb:=M.zel h;unfold encI;rw[M.zdu r h]
 by_cases h1:r<128
 ·rw[if_pos h1,if_pos h1];simp only[List.map_cons,List.map_nil,M.u8 r (by omega)]
 ·rw[if_neg h1,if_neg h1]
  by_cases h2:r<2048
  ·rw[if_pos h2,if_pos h2];simp only[List.map_cons,List.map_nil,M.u8 (192+r / 64) (by omega),M.u8 (128+r % 64) (by omega)];simp
  ·rw[if_neg h2,if_neg h2]
   by_cases h3:r<65536
   ·rw[if_pos h3,if_pos h3];simp only[List.map_cons,List.map_nil,M.u8 (224+r / 4096) (by omega),M.u8 (128+r / 64 % 64) (by omega),M.u8 (128+r % 64) (by omega)];simp
   ·rw[if_neg h3,if_neg h3];simp only[List.map_cons,List.map_nil,M.u8 (240+r / 262144) (by omega),M.u8 (128+r / 4096 % 64) (by omega),M.u8 (128+r / 64 % 64) (by omega),M.u8 (128+r % 64) (by omega)];simp
theorem zd3 {x:Int}(h:M.right x=true):0<=x:=by unfold M.right at h;exact(of_decide_eq_true h).1
theorem zkb (w:World)(k:IntKind)(zs:List Int)(t:TypeId)(C:Array Value)(hC:C=(zs.map (Value.int k)).toArray)(n:Nat)(hn:n=zs.length)(cap:Nat):L.Rd (w.alloc (.cells C t)) (.slice (some ⟨w.heap.size,0,none⟩) n cap) k zs:=by
 subst hC hn;refine⟨_,cap,rfl,fun h=>by simp at h,fun _=>⟨w.heap.size,0,rfl,fun j z hj=> ?_⟩⟩;have h:=World.cell?_alloc_mark w (zs.map (Value.int k)).toArray t (0,0) j;rw[Nat.zero_add];rw[h];simp[hj]
theorem zib (r:Nat)(w:World)(h:M.right (r:Int)=true) :
  Calls Tryz.prog 15 #[.int .i32 (r:Int)] w fun e w'=>∃v,e= .returned v/\L.Rd w' v .u8 (encI (r:Int))/\Below w.heap.size w w':=by
 have hb:=M.zel h;have HE:Hid _:=zov r h
 by_cases h1:(r:Int)<128
 ·go_enter Tryz.func15,Tryz.ntmps15
  go_wp2;go_ret
  refine⟨.slice (some ⟨w.heap.size,0,none⟩) 1 1,rfl,?_,(qR _).alloc qN _⟩;rw[HE.out,if_pos (by omega)];exact zkb w .u8 _ 5 _ (by rfl) _ (by rfl) _
 ·by_cases h2:(r:Int)<2048
  ·go_enter Tryz.func15,Tryz.ntmps15
   go_wp2;go_ret
   refine⟨.slice (some ⟨w.heap.size,0,none⟩) 2 2,rfl,?_,(qR _).alloc qN _⟩;rw[HE.out,if_neg (by omega),if_pos (by omega)];exact zkb w .u8 _ 5 _ (by rfl) _ (by rfl) _
  ·by_cases h3:(r:Int)<65536
   ·go_enter Tryz.func15,Tryz.ntmps15
    go_wp2;go_ret
    refine⟨.slice (some ⟨w.heap.size,0,none⟩) 3 3,rfl,?_,(qR _).alloc qN _⟩;rw[HE.out,if_neg (by omega),if_neg (by omega),if_pos (by omega)];exact zkb w .u8 _ 5 _ (by rfl) _ (by rfl) _
   ·go_enter Tryz.func15,Tryz.ntmps15
    go_wp2;go_ret
    refine⟨.slice (some ⟨w.heap.size,0,none⟩) 4 4,rfl,?_,(qR _).alloc qN _⟩;rw[HE.out,if_neg (by omega),if_neg (by omega),if_neg (by omega)];exact zkb w .u8 _ 5 _ (by rfl) _ (by rfl) _
theorem zkn (r:Nat)(h:M.right (r:Int)=true):(encI (r:Int)).length<=4:=by
 rw[zov r h]
 repeat' split
 all_goals simp
theorem zg5:∀zs:List Int,(∀z∈zs,M.right z=true)->(zs.flatMap encI).length<=4*zs.length
 | [],_=>by simp
 | z::zs,h=>by
  have i:=zg5 zs (fun x hx=>h x (by simp[hx]));have h0:=h z (by simp);have h1:=zd3 h0;obtain⟨r,rfl⟩:∃r:Nat,z=(r:Int):=⟨z.toNat,by omega⟩;have h2:=zkn r h0;rw[List.flatMap_cons,List.length_append,List.length_cons];omega
theorem zme {P:Program}{w:World}{B:Nat}{t:TypeId}{v:Value}{zs:List Int}(src dst e:TypeId)
  (hs:P.underlying src=some (.slice e)) (he:P.underlying e=some (.int .u8)) (hd:P.underlying dst=some .string)
  (h:w.ownsRow B t 1 v (zs.flatMap encI).length ((zs.flatMap encI).map (Value.int .u8))) :
  ∃ao n cap,v= .slice ao n cap/\(convert src dst (.slice ao n cap)).run P w= .ok (.string (runesBytes zs)) w:=by
 have hbytes:runesBytes zs=⟨(zs.flatMap fun z=>M.enc z).toArray⟩:=by
  apply ByteArray.ext;apply Array.toList_inj.1;rw[zar]
 have hfl:zs.flatMap encI=(zs.flatMap fun z=>M.enc z).map fun b=>(b.toNat:Int):=by rw[List.map_flatMap];rfl
 obtain⟨ao,cap,rfl,hn,hc⟩:=L.Rd.za0 h;refine⟨ao,_,cap,rfl,?_⟩;rw[hbytes];rw[hfl] at hc ⊢;generalize (zs.flatMap fun z=>M.enc z)=l at hc ⊢;cases ao with
 | none =>
  have h0:l= []:=by
   cases l with
   | nil=>rfl
   | cons z l=>obtain⟨b,off,h,_⟩:=hc (by simp);simp at h
  subst h0;rw[run_convert_bytes_string w src dst e none _ cap hs he hd];rfl
 | some ad =>
  have:=run_convert_bytes_back (P:=P) w src dst e ad cap l hs he hd (fun j hj=>by
   obtain⟨b,off,hao,hcell⟩:=hc (by intro h;simp at h;subst h;simp at hj);simp at hao;subst hao;rw[L.addr_add]
   exact hcell j _ (by simp[hj]))
  simpa using this
end Go.Proofs.YtdfjokdknanlfaaGreatDoor
namespace Go.Proofs.YtdfjokdknanlfaaGreatDoor
open Go.RowKit Go.Lib
set_option maxRecDepth 20000
set_option linter.unusedSimpArgs false
set_option linter.unusedVariables false
theorem zq1 {P:Program}{w:World}{v:Value}{r:Int}(src dst e:TypeId)
  (hs:P.underlying src=some (.slice e)) (he:P.underlying e=some (.int .u8)) (hd:P.underlying dst=some .string)
  (h:L.Rd w v .u8 (encI r)):∃ao n cap,v= .slice ao n cap/\(convert src dst (.slice ao n cap)).run P w= .ok (.string (runesBytes [r])) w:=by
 have hbytes:runesBytes [r]=⟨(M.enc r).toArray⟩:=by
  apply ByteArray.ext;apply Array.toList_inj.1;rw[zar];simp
 obtain⟨ao,cap,rfl,hn,hc⟩:=h;refine⟨ao,_,cap,rfl,?_⟩;rw[hbytes];unfold encI at hc ⊢;generalize M.enc r=l at hc ⊢;cases ao with
 | none =>
  have h0:l= []:=by
   cases l with
   | nil=>rfl
   | cons z l=>obtain⟨b,off,h,_⟩:=hc (by simp);simp at h
  subst h0;rw[run_convert_bytes_string w src dst e none _ cap hs he hd];rfl
 | some ad =>
  have:=run_convert_bytes_back (P:=P) w src dst e ad cap l hs he hd (fun j hj=>by
   obtain⟨b,off,hao,hcell⟩:=hc (by intro h;simp at h;subst h;simp at hj);simp at hao;subst hao;rw[L.addr_add]
   exact hcell j _ (by simp[hj]))
  simpa using this
namespace Sh
theorem zax (a b:List Int):runesBytes (a++b)=runesBytes a++runesBytes b:=by
 apply ByteArray.ext;apply Array.toList_inj.1;rw[ByteArray.data_append,Array.toList_append,zar,zar,zar,List.flatMap_append]
theorem zas (l:List Int)(h:∀z∈l,M.right z=true):(runesBytes l).size<=4*l.length:=by
 have e:(runesBytes l).size=(l.flatMap encI).length:=by
  have h1:(runesBytes l).size=(runesBytes l).data.toList.length:=by rw[Array.length_toList];rfl
  have h2:l.flatMap encI=(l.flatMap fun z=>M.enc z).map fun b=>(b.toNat:Int):=by rw[List.map_flatMap];rfl
  rw[h1,zar,h2,List.length_map]
 rw[e];exact zg5 l h
end Sh
theorem zch (r:Int)(h:M.right r=true)(w:World):Calls Tryz.prog 11 #[.int .i32 r] w fun e w'=>e= .returned (.string (runesBytes [r]))/\Below w.heap.size w w':=by
 have h0:=zd3 h;obtain⟨n,rfl⟩:∃n:Nat,r=(n:Int):=⟨r.toNat,by omega⟩;have HB:Hid (Calls Tryz.prog 15 #[.int .i32 (n:Int)] w fun e w'=>∃v,e= .returned v/\L.Rd w' v .u8 (encI (n:Int))/\Below w.heap.size w w'):=zib n w h;generalize (n:Int)=z at HB;clear h h0
 go_enter Tryz.func11,Tryz.ntmps11
 go_wp2_with fail
 refine HB.out.mono ?_;clear HB;rintro e w1 ⟨v,rfl,hv,b1⟩;obtain⟨ao,k,cap,rfl,hcv⟩:=zq1 (P:=Tryz.prog) 33 9 5 Tryz.underlying33 Tryz.underlying5 Tryz.underlying9 hv;have HB:Hid (Below w.heap.size w w1):=b1;clear hv b1;go_wp2;go_ret;exact⟨rfl,HB.out⟩
theorem zby (s:ByteArray)(hs:s.size<=1099511627776)(w:World):Calls Tryz.prog 10 #[.string s] w fun e w'=>∃xo xc,e= .returned (.slice xo (M.rn s).length xc)/\L.Rd w' (.slice xo (M.rn s).length xc) .i32 (M.rn s)/\Below w.heap.size w w':=by
 have h:=zj6 s w hs;generalize M.rn s=tx at h ⊢;generalize M.sp s.data.toList=cnt at h
 go_enter Tryz.func10,Tryz.ntmps10
 go_wp2_with fail
 refine h.mono ?_;clear h;rintro e w1 ⟨v1,v2,rfl,own,_,b1⟩;have hr:=L.Rd.za0 own;obtain⟨xo,xc,rfl⟩:∃xo xc,v1= .slice xo tx.length xc:=by obtain⟨a,c,e,_⟩:=hr;exact⟨a,c,e⟩
 have HR:Hid (L.Rd w1 (.slice xo tx.length xc) .i32 tx/\Below w.heap.size w w1):=⟨hr,b1⟩;clear hr own b1;go_wp2;go_ret;exact⟨_,_,rfl,HR.out.1,HR.out.2⟩
theorem zbu (s:ByteArray)(w:World):Calls Tryz.prog 9 #[.string s] w fun e w'=>e= .returned (.bool (decide (s.size<=1000)))/\w'=w:=by
 go_enter Tryz.func9,Tryz.ntmps9
 go_wp2;go_ret
 refine⟨L.zak ?_,rfl⟩;rw[Bool.eq_iff_iff];simp;try omega
theorem zbl (hK:T.ClassOk)(name:ByteArray)(sc:V.Script)(h0:Sh.Scr name sc)(s:ByteArray)(hs:s.size<=1099511627776)(pl:Cn.Pl)(hpl:Cn.PlOk pl)(out:List Int)(hgo:Cn.goF pl sc (M.rn s)=(out,0,0))(hall:∀z∈out,M.right z=true)(want:ByteArray)(hw:want=runesBytes out)(w:World) :
  Calls Tryz.prog 12 #[.string name,.string s,.string want] w fun e w'=>e= .returned (.bool true)/\Below w.heap.size w w':=by
 have h:=zhi hK name sc h0 s hs pl hpl out hgo hall w;rw[<- hw] at h;clear hw
 go_enter Tryz.func12,Tryz.ntmps12
 go_wp2_with fail
 refine h.mono ?_;clear h;rintro e w1 ⟨rfl,b1⟩;have HB:Hid (Below w.heap.size w w1):=b1;clear b1;go_wp2;go_ret;exact⟨L.zak (by simp),HB.out⟩
end Go.Proofs.YtdfjokdknanlfaaGreatDoor
namespace Go.Proofs.YtdfjokdknanlfaaGreatDoor.Cn
theorem rise:∀l:List Int,∃c:List Int,c.Pairwise (· < ·)/\∀y,y∈c↔y∈l:=by
 intro l
 induction l with
 | nil=>exact⟨[],by simp,fun y=>by simp⟩
 | cons x l ih =>
  obtain⟨c,h1,h2⟩:=ih;refine⟨c.filter (· < x)++x::c.filter (x< ·),?_,fun y=> ?_⟩
  ·rw[List.pairwise_append,List.pairwise_cons];refine⟨h1.filter _,⟨fun a ha=>by simpa using (List.mem_filter.1 ha).2,h1.filter _⟩,fun a ha b hb=> ?_⟩;have ha2:a<x:=by simpa using (List.mem_filter.1 ha).2
   rcases List.mem_cons.1 hb with rfl | hb
   ·exact ha2
   ·have hb2:x<b:=by simpa using (List.mem_filter.1 hb).2
    omega
  ·rw[List.mem_append,List.mem_cons,List.mem_cons,List.mem_filter,List.mem_filter,h2];constructor
   ·rintro (h | h | h)
    ·exact .inr h.1
    ·exact .inl h
    ·exact .inr h.1
   ·rintro (h | h)
    ·exact .inr (.inl h)
    ·rcases Int.lt_trichotomy y x with h3 | h3 | h3
     ·exact .inl ⟨h,by simpa using h3⟩
     ·exact .inr (.inl h3)
     ·exact .inr (.inr ⟨h,by simpa using h3⟩)
end Go.Proofs.YtdfjokdknanlfaaGreatDoor.Cn
