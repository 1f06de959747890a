/-
 What scriptref1.One answers where a head of two, three or four bytes has all its bytes.
-/
import Derived.Test.YtgbhkkojkpndmaaGreatDoorShOneA
import Derived.Test.YtgbhkkojkpndmaaGreatDoorTMath
import Derived.Test.YtgbhkkojkpndmaaGreatDoorSLib
import Derived.Test.YtgbhkkojkpndmaaGreatDoorRPos
import Derived.Laws.IdiomStrings
import Derived.BigQuiet
set_option maxHeartbeats 0
namespace Go.Proofs.YtgbhkkojkpndmaaGreatDoor
open Go.RowKit
theorem zfz {d:Int}(h:(d / 64 != 2)=true):¬d / 64=2:=by simpa using h
theorem zga {d:Int}(h:(d / 64 != 2)=false):d / 64=2:=by simpa using h
theorem zgq {x:Int}(h:M.right x=false):¬(0<=x/\x<=1114111/\(x<55296∨57343<x)):=by unfold M.right at h;exact of_decide_eq_false h
theorem zb4 {x:Int}(h:M.right x=true):0<=x/\x<=1114111/\(x<55296∨57343<x):=by unfold M.right at h;exact of_decide_eq_true h
theorem ends {n c b1 b2 b3 x y:Nat}{X Y:Int}(h:oneR n c b1 b2 b3=(x,y))(hx:X=(x:Int))(hy:Y=(y:Int)):X=((oneR n c b1 b2 b3).1:Int)/\Y=((oneR n c b1 b2 b3).2:Int):=by
 rw[h];exact⟨hx,hy⟩
variable {n c b1 b2 b3:Nat}
theorem zq0 (hc:(c:Int) / 32=6)(hn:1<n)(h:¬((b1:Int) / 64=2/\128<=((c:Int) - 192)*64+(b1:Int) % 64)):(0:Int)=((oneR n c b1 b2 b3).1:Int)/\(0:Int)=((oneR n c b1 b2 b3).2:Int):=by
 refine ends (x:=0) (y:=0) ?_ rfl rfl;rw[zj9 (by omega) hn,if_neg (by omega)]
theorem zre (hc:(c:Int) / 32=6)(hn:1<n)(h1:(b1:Int) / 64=2)(h2:128<=((c:Int) - 192)*64+(b1:Int) % 64):((c:Int) - 192)*64+(b1:Int) % 64=((oneR n c b1 b2 b3).1:Int)/\(2:Int)=((oneR n c b1 b2 b3).2:Int):=by
 refine ends (x:=(c - 192)*64+b1 % 64) (y:=2) ?_ (by omega) rfl;rw[zj9 (by omega) hn,if_pos (by omega)]
theorem zee (hc:(c:Int) / 16=14)(hn:2<n)(h:¬((b1:Int) / 64=2/\(b2:Int) / 64=2/\2048<=(((c:Int) - 224)*64+(b1:Int) % 64)*64+(b2:Int) % 64/\M.right ((((c:Int) - 224)*64+(b1:Int) % 64)*64+(b2:Int) % 64)=true)):(0:Int)=((oneR n c b1 b2 b3).1:Int)/\(0:Int)=((oneR n c b1 b2 b3).2:Int):=by
 refine ends (x:=0) (y:=0) ?_ rfl rfl;rw[zfy (by omega) hn,if_neg];intro h1;apply h;refine⟨by omega,by omega,by omega,?_⟩;unfold M.right;exact decide_eq_true (by omega)
theorem zm4 (hc:(c:Int) / 16=14)(hn:2<n)(h1:(b1:Int) / 64=2)(h2:(b2:Int) / 64=2)(h3:2048<=(((c:Int) - 224)*64+(b1:Int) % 64)*64+(b2:Int) % 64)(h4:M.right ((((c:Int) - 224)*64+(b1:Int) % 64)*64+(b2:Int) % 64)=true) :
  (((c:Int) - 224)*64+(b1:Int) % 64)*64+(b2:Int) % 64=((oneR n c b1 b2 b3).1:Int)/\(3:Int)=((oneR n c b1 b2 b3).2:Int):=by
 have h5:=zb4 h4;refine ends (x:=((c - 224)*64+b1 % 64)*64+b2 % 64) (y:=3) ?_ (by omega) rfl;rw[zfy (by omega) hn,if_pos (by omega)]
theorem zfb (hc:(c:Int) / 8=30)(hn:3<n)(h:¬((b1:Int) / 64=2/\(b2:Int) / 64=2/\(b3:Int) / 64=2/\65536<=((((c:Int) - 240)*64+(b1:Int) % 64)*64+(b2:Int) % 64)*64+(b3:Int) % 64/\M.right (((((c:Int) - 240)*64+(b1:Int) % 64)*64+(b2:Int) % 64)*64+(b3:Int) % 64)=true)):(0:Int)=((oneR n c b1 b2 b3).1:Int)/\(0:Int)=((oneR n c b1 b2 b3).2:Int):=by
 refine ends (x:=0) (y:=0) ?_ rfl rfl;rw[zhk (by omega) hn,if_neg];intro h1;apply h;refine⟨by omega,by omega,by omega,by omega,?_⟩;unfold M.right;exact decide_eq_true (by omega)
theorem zql (hc:(c:Int) / 8=30)(hn:3<n)(h1:(b1:Int) / 64=2)(h2:(b2:Int) / 64=2)(hb:(b3:Int) / 64=2)(h3:65536<=((((c:Int) - 240)*64+(b1:Int) % 64)*64+(b2:Int) % 64)*64+(b3:Int) % 64)(h4:M.right (((((c:Int) - 240)*64+(b1:Int) % 64)*64+(b2:Int) % 64)*64+(b3:Int) % 64)=true) :
  ((((c:Int) - 240)*64+(b1:Int) % 64)*64+(b2:Int) % 64)*64+(b3:Int) % 64=((oneR n c b1 b2 b3).1:Int)/\(4:Int)=((oneR n c b1 b2 b3).2:Int):=by
 have h5:=zb4 h4;refine ends (x:=(((c - 240)*64+b1 % 64)*64+b2 % 64)*64+b3 % 64) (y:=4) ?_ (by omega) rfl;rw[zhk (by omega) hn,if_pos (by omega)]
set_option maxRecDepth 100000 in
theorem zrv (s:ByteArray)(i b2 b3:Nat)(w:World)(hi:i<s.size)(hj1:i+1<s.size)(hs:s.size<=1099511627776)(hc:((s[i]'hi).toNat:Int) / 32=6) :
  Calls Tryz.prog 28 #[.string s,.int .i64 i] w fun e w'=>e= .returned (.tuple #[.int .i32 ((oneR (s.size - i) (s[i]'hi).toNat (s[i+1]'hj1).toNat b2 b3).1:Int),.int .i64 ((oneR (s.size - i) (s[i]'hi).toNat (s[i+1]'hj1).toNat b2 b3).2:Int)])/\Below w.heap.size w w':=by
 have hlt:(s[i]'hi).toNat<256:=(s[i]'hi).toNat_lt;have hl1:(s[i+1]'hj1).toNat<256:=(s[i+1]'hj1).toNat_lt;have a1:=zg3 _ hlt;have hlo:192<=((s[i]'hi).toNat:Int):=by omega
 have hn:1<s.size - i:=by omega
 go_enter Tryz.func28,Tryz.ntmps28
 go_wp2;refine wp_loop_rounds 1 ?_
 rw[rounds_succ];go_wp2;refine wp_loop_rounds 2 ?_
 repeat any_goals (rw[rounds_succ];go_wp2_with (go_at_call 38;go_must (refine(zcl _ _).mono ?_;rintro e w' ⟨rfl,rfl⟩)))
 all_goals try (go_quiet (fail);go_wp2)
 all_goals go_ret2
 all_goals refine⟨ze3 ?_,by repeat (first | exact qR _ | refine Below.alloc ?_ (by simp <;> omega) _ | refine below_drewN ?_ _)⟩
 all_goals first
  | exact zre hc hn (zga (by assumption)) (by assumption)
  | exact zq0 hc hn (fun h=>absurd (h.1) (zfz (by assumption)))
  | exact zq0 hc hn (fun h=>absurd h.2 (by omega))
  | (exfalso;have h5:=zgq ‹M.right _=false›;omega)
set_option maxRecDepth 100000 in
theorem zny (s:ByteArray)(i b3:Nat)(w:World)(hi:i<s.size)(hj1:i+1<s.size)(hj2:i+2<s.size)(hs:s.size<=1099511627776)(hc:((s[i]'hi).toNat:Int) / 16=14) :
  Calls Tryz.prog 28 #[.string s,.int .i64 i] w fun e w'=>e= .returned (.tuple #[.int .i32 ((oneR (s.size - i) (s[i]'hi).toNat (s[i+1]'hj1).toNat (s[i+2]'hj2).toNat b3).1:Int),.int .i64 ((oneR (s.size - i) (s[i]'hi).toNat (s[i+1]'hj1).toNat (s[i+2]'hj2).toNat b3).2:Int)])/\Below w.heap.size w w':=by
 have hlt:(s[i]'hi).toNat<256:=(s[i]'hi).toNat_lt;have hl1:(s[i+1]'hj1).toNat<256:=(s[i+1]'hj1).toNat_lt;have hl2:(s[i+2]'hj2).toNat<256:=(s[i+2]'hj2).toNat_lt;have a1:=zg3 _ hlt;have a2:=zju _ hlt;have hlo:224<=((s[i]'hi).toNat:Int):=by omega
 have hn:2<s.size - i:=by omega
 go_enter Tryz.func28,Tryz.ntmps28
 go_wp2;refine wp_loop_rounds 2 ?_
 rw[rounds_succ];go_wp2;rw[rounds_succ];go_wp2;refine wp_loop_rounds 3 ?_
 repeat any_goals (rw[rounds_succ];go_wp2_with (go_at_call 38;go_must (refine(zcl _ _).mono ?_;rintro e w' ⟨rfl,rfl⟩)))
 all_goals try (go_quiet (fail);go_wp2)
 all_goals go_ret2
 all_goals refine⟨ze3 ?_,by repeat (first | exact qR _ | refine Below.alloc ?_ (by simp <;> omega) _ | refine below_drewN ?_ _)⟩
 all_goals first
  | exact zm4 hc hn (zga (by assumption)) (zga (by assumption)) (by assumption) (by assumption)
  | exact zee hc hn (fun h=>absurd (h.1) (zfz (by assumption)))
  | exact zee hc hn (fun h=>absurd (h.2.1) (zfz (by assumption)))
  | exact zee hc hn (fun h=>absurd (h.2.2.1) (by omega))
  | exact zee hc hn (fun h=>by have h1:=h.2.2.2;have h2:=zb4 h1;exact absurd h2 (zgq (by assumption)))
set_option maxRecDepth 100000 in
theorem zp3 (s:ByteArray)(i:Nat)(w:World)(hi:i<s.size)(hj1:i+1<s.size)(hj2:i+2<s.size)(hj3:i+3<s.size)(hs:s.size<=1099511627776)(hc:((s[i]'hi).toNat:Int) / 8=30) :
  Calls Tryz.prog 28 #[.string s,.int .i64 i] w fun e w'=>e= .returned (.tuple #[.int .i32 ((oneR (s.size - i) (s[i]'hi).toNat (s[i+1]'hj1).toNat (s[i+2]'hj2).toNat (s[i+3]'hj3).toNat).1:Int),.int .i64 ((oneR (s.size - i) (s[i]'hi).toNat (s[i+1]'hj1).toNat (s[i+2]'hj2).toNat (s[i+3]'hj3).toNat).2:Int)])/\Below w.heap.size w w':=by
 have hlt:(s[i]'hi).toNat<256:=(s[i]'hi).toNat_lt;have hl1:(s[i+1]'hj1).toNat<256:=(s[i+1]'hj1).toNat_lt;have hl2:(s[i+2]'hj2).toNat<256:=(s[i+2]'hj2).toNat_lt;have hl3:(s[i+3]'hj3).toNat<256:=(s[i+3]'hj3).toNat_lt;have a1:=zg3 _ hlt;have a2:=zju _ hlt;have a3:=zo0 _ hlt;have hlo:240<=((s[i]'hi).toNat:Int):=by omega
 have hn:3<s.size - i:=by omega
 go_enter Tryz.func28,Tryz.ntmps28
 go_wp2;refine wp_loop_rounds 3 ?_
 rw[rounds_succ];go_wp2;rw[rounds_succ];go_wp2;rw[rounds_succ];go_wp2;refine wp_loop_rounds 4 ?_
 repeat any_goals (rw[rounds_succ];go_wp2_with (go_at_call 38;go_must (refine(zcl _ _).mono ?_;rintro e w' ⟨rfl,rfl⟩)))
 all_goals try (go_quiet (fail);go_wp2)
 all_goals go_ret2
 all_goals refine⟨ze3 ?_,by repeat (first | exact qR _ | refine Below.alloc ?_ (by simp <;> omega) _ | refine below_drewN ?_ _)⟩
 all_goals first
  | exact zql hc hn (zga (by assumption)) (zga (by assumption)) (zga (by assumption)) (by assumption) (by assumption)
  | exact zfb hc hn (fun h=>absurd (h.1) (zfz (by assumption)))
  | exact zfb hc hn (fun h=>absurd (h.2.1) (zfz (by assumption)))
  | exact zfb hc hn (fun h=>absurd (h.2.2.1) (zfz (by assumption)))
  | exact zfb hc hn (fun h=>absurd (h.2.2.2.1) (by omega))
  | exact zfb hc hn (fun h=>by have h1:=h.2.2.2.2;have h2:=zb4 h1;exact absurd h2 (zgq (by assumption)))
def oneD (x:Nat×Nat):Nat×Nat:=if M.bad x then (0,0) else x
theorem zc6 (s:ByteArray)(i:Nat)(h:i<s.size):(s.get! i).toNat=(s[i]'h).toNat:=by
 have:=get_at s i h;rw[Nat.add_zero] at this;rw[this]
theorem zsq (s:ByteArray)(i:Nat):oneR (s.size - i) (s.get! i).toNat (s.get! (i+1)).toNat (s.get! (i+2)).toNat (s.get! (i+3)).toNat=oneD (Utf8.decode s i):=by
 rw[Lib.decode_at];rfl
theorem zhd (s:ByteArray)(i:Nat)(w:World)(hi:i<s.size)(hs:s.size<=1099511627776) :
  Calls Tryz.prog 28 #[.string s,.int .i64 i] w fun e w'=>e= .returned (.tuple #[.int .i32 ((oneD (Utf8.decode s i)).1:Int),.int .i64 ((oneD (Utf8.decode s i)).2:Int)])/\Below w.heap.size w w':=by
 rw[<- zsq s i,zc6 s i hi]
 by_cases h0:((s[i]'hi).toNat:Int)<128
 ·exact znz s i _ _ _ w hi h0
 ·by_cases h1:((s[i]'hi).toNat:Int) / 32=6/\i+1<s.size
  ·rw[zc6 s (i+1) h1.2];exact zrv s i _ _ w hi h1.2 hs h1.1
  ·by_cases h2:((s[i]'hi).toNat:Int) / 16=14/\i+2<s.size
   ·rw[zc6 s (i+1) (by omega),zc6 s (i+2) h2.2];exact zny s i _ w hi _ h2.2 hs h2.1
   ·by_cases h3:((s[i]'hi).toNat:Int) / 8=30/\i+3<s.size
    ·rw[zc6 s (i+1) (by omega),zc6 s (i+2) (by omega),zc6 s (i+3) h3.2];exact zp3 s i w hi _ _ h3.2 hs h3.1
    ·exact zp2 s i _ _ _ w hi hs h0 h1 h2 h3
theorem zr8 {s:ByteArray}{pos:Nat}(hp:pos<s.size):s.data.toList.drop pos≠ []:=by
 have hl:(s.data.toList.drop pos).length=s.size - pos:=by rw[List.length_drop,Array.length_toList];rfl
 intro e;rw[e] at hl;simp at hl;omega
theorem zrh (s:ByteArray)(pos:Nat)(hp:pos<s.size) :
  M.sp (s.data.toList.drop pos)=(if M.bad (M.d0 (s.data.toList.drop pos)) then 1 else 0)+M.sp (s.data.toList.drop (pos+(Utf8.decode s pos).2)):=by
 rw[M.zij _ (zr8 hp),List.drop_drop,M.zb8]
theorem zs4:∀L,M.sp L<=L.length:=by
 refine M.zq3 (by simp[M.zsi]) ?_;intro L h ih;have hw:=M.zeh L h;rw[List.length_drop] at ih;rw[M.zij L h];split <;> omega
theorem zsj (s:ByteArray)(pos:Nat)(h:¬pos<s.size):M.sp (s.data.toList.drop pos)=0:=by
 have hl:(s.data.toList.drop pos).length=s.size - pos:=by rw[List.length_drop,Array.length_toList];rfl
 have:s.data.toList.drop pos= []:=List.eq_nil_of_length_eq_zero (by omega);rw[this];rfl
end Go.Proofs.YtgbhkkojkpndmaaGreatDoor
namespace Go.Proofs.YtgbhkkojkpndmaaGreatDoor
open Go.RowKit
set_option maxRecDepth 40000
theorem Tryz.infoI64:(Tryz.prog.info? 3).map (fun i=>(i.zero,i.size,i.bytes))=some (some (.int .i64 0),1,8):=by kernel_rfl
theorem zso {L:List UInt8}{pos cnt:Nat}(h:cnt+M.sp (L.drop pos)=M.sp L):cnt<=L.length:=by
 have:=zs4 L;omega
theorem zr9 {s:ByteArray}{pos:Nat}(h:M.bad (Utf8.decode s pos)=true):Utf8.decode s pos=(65533,1):=by
 unfold M.bad at h;simp at h;exact Prod.ext h.1 h.2
theorem zpf (s:ByteArray)(w:World)(hs:s.size<=1099511627776) :
  Calls Tryz.prog 23 #[.string s] w fun e w'=>∃v1 v2,e= .returned (.tuple #[v1,v2,.int .i64 (M.sp s.data.toList:Int)]) /\
   w'.ownsRow w.heap.size 21 1 v1 (M.rn s).length ((M.rn s).map (Value.int .i32))/\w'.ownsRow w.heap.size 3 1 v2 (M.pl s).length ((M.pl s).map (Value.int .i64))/\Below w.heap.size w w':=by
 obtain⟨i0,hi,hz0,hz1,hz2⟩:=info_parts Tryz.infoI32;obtain⟨i1,hi',hz0',hz1',hz2'⟩:=info_parts Tryz.infoI64
 go_enter Tryz.func23,Tryz.ntmps23
 go_wp2
 go_loopw [5,6,7,8] (fun v5 v6 n i wr=>∃(pos fuel cnt:Nat) (acc:List (Nat×Nat)),i= .int .i64 pos/\n= .int .i64 cnt /\
   wr.ownsRow w.heap.size 21 1 v5 acc.length (acc.map fun x=>Value.int .i32 (x.2:Int))/\wr.ownsRow w.heap.size 3 1 v6 acc.length (acc.map fun x=>Value.int .i64 (x.1:Int))/\Below w.heap.size w wr /\
   Hid (acc++M.steps s fuel pos=M.all s)/\Hid (cnt+M.sp (s.data.toList.drop pos)=M.sp s.data.toList)/\s.size<=pos+fuel/\acc.length<=pos/\pos<=s.size) (fun _ _ _ i _=>s.size - (intOf i).toNat)
 case atStart=>exact⟨0,s.size,0,[],rfl,rfl,World.ownsRow_nil _ _ _ _,World.ownsRow_nil _ _ _ _,qR _,rfl,by show _=_;simp,by omega,by simp,by omega⟩
 case round =>
  obtain⟨pos,fuel,cnt,acc,rfl,rfl,own5,own6,hbw,HS,HC,hfu,hlen,hle⟩:=hrel;have hcnt:cnt<=s.size:=by have h1:=zso HC.out;have h2:s.data.toList.length=s.size:=(by rw[Array.length_toList];rfl);omega
  have hsz:=hbw.size
  by_cases hp:pos<s.size
  ·obtain⟨fuel,rfl⟩:∃f',fuel=f'+1:=⟨fuel - 1,by omega⟩;have hwd:=M.width_pos s pos hp;have hwf:=M.zky s pos hp;have HP:Hid (M.sp (s.data.toList.drop pos)=(if M.bad (M.d0 (s.data.toList.drop pos)) then 1 else 0)+M.sp (s.data.toList.drop (pos+(Utf8.decode s pos).2))):=zrh s pos hp;rw[<- M.zb8] at HP;have HT:Hid (M.steps s (fuel+1) pos=(pos,(Utf8.decode s pos).1)::M.steps s fuel (pos+(Utf8.decode s pos).2)):=by show _=_;simp[M.steps,hp]
   cases hb:M.bad (Utf8.decode s pos) with
   | false =>
    have HO:Hid (oneD (Utf8.decode s pos)=Utf8.decode s pos):=by show _=_;unfold oneD;rw[hb];rfl
    rw[hb] at HP
    go_wp2_with fail
    refine(zhd s pos _ hp hs).mono ?_;rintro e w1 ⟨rfl,hb1⟩;rw[HO.out];have o5:=L.za9 own5 hb1 qN;have o6:=L.za9 own6 hb1 qN;have bw1:=hbw.trans (hb1.mono hsz);have hz1w:=bw1.size;clear own5 own6 hb1 hbw hb;have hn0:¬((Utf8.decode s pos).2:Int)=0:=by omega
    go_wp2_with (first
     | (at_builtin;refine wpList_append_own _ rfl (.tmp 21) (.tmp 23) 38 rfl w.heap.size 3 i1 (.int .i64 0) 1 8 Tryz.underlying38 hi' hz0' hz1' hz2' rfl (by decide) _ _ _ rfl (o6.alloc _) ⟨w1.heap.size,0,none⟩ 1 1 [.int .i64 (pos:Int)] rfl rfl (cell_one_new _ _ _) (fun x hx=>by simp at hx;subst hx;rfl) (by unfold maxLen;omega) (by omega) (by simp;omega) ?_;intro v6' w2 o6' hg2 _;have o5':=L.zbe o6 o5 (by decide) hg2;have bw2:=L.zbp bw1 o6 qN hz1w hg2;have hz2w:=bw2.size;clear hg2 o5 o6)
     | (at_builtin;refine wpList_append_own _ rfl (.tmp 29) (.tmp 31) 34 rfl w.heap.size 21 i0 (.int .i32 0) 1 4 Tryz.underlying34 hi hz0 hz1 hz2 rfl (by decide) _ _ _ rfl (o5'.alloc _) ⟨w2.heap.size,0,none⟩ 1 1 [.int .i32 ((Utf8.decode s pos).1:Int)] rfl rfl (cell_one_new _ _ _) (fun x hx=>by simp at hx;subst hx;rfl) (by unfold maxLen;omega) (by omega) (by simp;omega) ?_;intro v5' w3 o5'' hg3 _;have o6'':=L.zbe o5' o6' (by decide) hg3;have bw3:=L.zbp bw2 o5' qN hz2w hg3;clear hg3 o5' o6'))
    go_roundw
    case rel =>
     refine⟨pos+(Utf8.decode s pos).2,fuel,cnt,acc++ [(pos,(Utf8.decode s pos).1)],by go_num,rfl,(by simpa using o5''),(by simpa using o6''),bw3,?_,?_,by omega,by simp;omega,hwf.2⟩
     ·show _=_;rw[<- HS.out,HT.out];simp
     ·show _=_;rw[<- HC.out,HP.out];simp
    case measure=>simp[intOf];omega
   | true =>
    have hd:=zr9 hb;have HO:Hid (oneD (Utf8.decode s pos)=(0,0)):=by show _=_;unfold oneD;rw[hb];rfl
    rw[hb,hd] at HP;rw[hd] at HT
    go_wp2_with fail
    refine(zhd s pos _ hp hs).mono ?_;rintro e w1 ⟨rfl,hb1⟩;rw[HO.out];have o5:=L.za9 own5 hb1 qN;have o6:=L.za9 own6 hb1 qN;have bw1:=hbw.trans (hb1.mono hsz);have hz1w:=bw1.size;clear own5 own6 hb1 hbw hb hd hwd hwf HO
    go_wp2_with (first
     | (at_builtin;refine wpList_append_own _ rfl (.tmp 21) (.tmp 23) 38 rfl w.heap.size 3 i1 (.int .i64 0) 1 8 Tryz.underlying38 hi' hz0' hz1' hz2' rfl (by decide) _ _ _ rfl (o6.alloc _) ⟨w1.heap.size,0,none⟩ 1 1 [.int .i64 (pos:Int)] rfl rfl (cell_one_new _ _ _) (fun x hx=>by simp at hx;subst hx;rfl) (by unfold maxLen;omega) (by omega) (by simp;omega) ?_;intro v6' w2 o6' hg2 _;have o5':=L.zbe o6 o5 (by decide) hg2;have bw2:=L.zbp bw1 o6 qN hz1w hg2;have hz2w:=bw2.size;clear hg2 o5 o6)
     | (at_builtin;refine wpList_append_own _ rfl (.tmp 29) (.tmp 31) 34 rfl w.heap.size 21 i0 (.int .i32 0) 1 4 Tryz.underlying34 hi hz0 hz1 hz2 rfl (by decide) _ _ _ rfl (o5'.alloc _) ⟨w2.heap.size,0,none⟩ 1 1 [.int .i32 65533] rfl rfl (cell_one_new _ _ _) (fun x hx=>by simp at hx;subst hx;rfl) (by unfold maxLen;omega) (by omega) (by simp;omega) ?_;intro v5' w3 o5'' hg3 _;have o6'':=L.zbe o5' o6' (by decide) hg3;have bw3:=L.zbp bw2 o5' qN hz2w hg3;clear hg3 o5' o6'))
    go_roundw
    case rel =>
     refine⟨pos+1,fuel,cnt+1,acc++ [(pos,65533)],by go_num,by go_num,(by simpa using o5''),(by simpa using o6''),bw3,?_,?_,by omega,by simp;omega,by omega⟩
     ·show _=_;rw[<- HS.out,HT.out];simp
     ·show _=_;rw[<- HC.out,HP.out];simp;omega
    case measure=>simp[intOf];omega
  ·go_wp2_with (at_builtin;go_must (refine wpList_append_own _ rfl (.tmp 37) (.tmp 40) 38 rfl w.heap.size 3 i1 (.int .i64 0) 1 8 Tryz.underlying38 hi' hz0' hz1' hz2' rfl (by decide) _ _ _ rfl (own6.alloc _) ⟨wr.heap.size,0,none⟩ 1 1 [.int .i64 (s.size:Int)] rfl rfl (cell_one_new _ _ _) (fun x hx=>by simp at hx;subst hx;rfl) (by unfold maxLen;omega) (by omega) (by simp;omega) ?_;intro v6' w2 o6' hg2 _;have o5':=L.zbe own6 own5 (by decide) hg2;have bw2:=L.zbp hbw own6 qN hsz hg2;clear hg2))
   go_ret3
   have e1:=HS.out;rw[M.zeq s fuel pos hp,List.append_nil] at e1;have e2:=HC.out;rw[zsj s pos hp] at e2;have e3:M.rn s=acc.map fun x=>(x.2:Int):=by unfold M.rn;rw[<- e1]
   have e4:M.pl s=(acc.map fun x=>(x.1:Int))++ [(s.size:Int)]:=by unfold M.pl;rw[<- e1]
   rw[<- e2,e3,e4];exact⟨_,_,rfl,by simpa [Function.comp_def] using o5',by simpa [Function.comp_def] using o6',bw2⟩
end Go.Proofs.YtgbhkkojkpndmaaGreatDoor
namespace Go.Proofs.YtgbhkkojkpndmaaGreatDoor
open Go.RowKit
def encI (r:Int):List Int:=(M.enc r).map fun b=>(b.toNat:Int)
theorem zoq (r:Nat)(h:M.right (r:Int)=true):encI (r:Int) =
  if r<128 then [(r:Int)] else if r<2048 then [192+(r:Int) / 64,128+(r:Int) % 64]
  else if r<65536 then [224+(r:Int) / 4096,128+(r:Int) / 64 % 64,128+(r:Int) % 64]
  else [240+(r:Int) / 262144,128+(r:Int) / 4096 % 64,128+(r:Int) / 64 % 64,128+(r:Int) % 64]:=by
 have hb:=M.zeg h;unfold encI;rw[M.zdr r h]
 by_cases h1:r<128
 ·rw[if_pos h1,if_pos h1];simp only[List.map_cons,List.map_nil,M.u8 r (by omega)]
 ·rw[if_neg h1,if_neg h1]
  by_cases h2:r<2048
  ·rw[if_pos h2,if_pos h2];simp only[List.map_cons,List.map_nil,M.u8 (192+r / 64) (by omega),M.u8 (128+r % 64) (by omega)];simp
  ·rw[if_neg h2,if_neg h2]
   by_cases h3:r<65536
   ·rw[if_pos h3,if_pos h3];simp only[List.map_cons,List.map_nil,M.u8 (224+r / 4096) (by omega),M.u8 (128+r / 64 % 64) (by omega),M.u8 (128+r % 64) (by omega)];simp
   ·rw[if_neg h3,if_neg h3];simp only[List.map_cons,List.map_nil,M.u8 (240+r / 262144) (by omega),M.u8 (128+r / 4096 % 64) (by omega),M.u8 (128+r / 64 % 64) (by omega),M.u8 (128+r % 64) (by omega)];simp
theorem zfw {x:Int}(h:M.right x=true):0<=x:=by unfold M.right at h;exact(of_decide_eq_true h).1
theorem zj4 (w:World)(k:IntKind)(zs:List Int)(t:TypeId)(C:Array Value)(hC:C=(zs.map (Value.int k)).toArray)(n:Nat)(hn:n=zs.length)(cap:Nat):L.Rd (w.alloc (.cells C t)) (.slice (some ⟨w.heap.size,0,none⟩) n cap) k zs:=by
 subst hC hn;refine⟨_,cap,rfl,fun h=>by simp at h,fun _=>⟨w.heap.size,0,rfl,fun j z hj=> ?_⟩⟩;have h:=World.cell?_alloc_mark w (zs.map (Value.int k)).toArray t (0,0) j;rw[Nat.zero_add];rw[h];simp[hj]
theorem zoy (r:Nat)(w:World)(h:M.right (r:Int)=true) :
  Calls Tryz.prog 22 #[.int .i32 (r:Int)] w fun e w'=>∃v,e= .returned v/\L.Rd w' v .u8 (encI (r:Int))/\Below w.heap.size w w':=by
 have hb:=M.zeg h;have HE:Hid _:=zoq r h
 by_cases h1:(r:Int)<128
 ·go_enter Tryz.func22,Tryz.ntmps22
  go_wp2;go_ret
  refine⟨.slice (some ⟨w.heap.size,0,none⟩) 1 1,rfl,?_,(qR _).alloc qN _⟩;rw[HE.out,if_pos (by omega)];exact zj4 w .u8 _ 5 _ (by rfl) _ (by rfl) _
 ·by_cases h2:(r:Int)<2048
  ·go_enter Tryz.func22,Tryz.ntmps22
   go_wp2;go_ret
   refine⟨.slice (some ⟨w.heap.size,0,none⟩) 2 2,rfl,?_,(qR _).alloc qN _⟩;rw[HE.out,if_neg (by omega),if_pos (by omega)];exact zj4 w .u8 _ 5 _ (by rfl) _ (by rfl) _
  ·by_cases h3:(r:Int)<65536
   ·go_enter Tryz.func22,Tryz.ntmps22
    go_wp2;go_ret
    refine⟨.slice (some ⟨w.heap.size,0,none⟩) 3 3,rfl,?_,(qR _).alloc qN _⟩;rw[HE.out,if_neg (by omega),if_neg (by omega),if_pos (by omega)];exact zj4 w .u8 _ 5 _ (by rfl) _ (by rfl) _
   ·go_enter Tryz.func22,Tryz.ntmps22
    go_wp2;go_ret
    refine⟨.slice (some ⟨w.heap.size,0,none⟩) 4 4,rfl,?_,(qR _).alloc qN _⟩;rw[HE.out,if_neg (by omega),if_neg (by omega),if_neg (by omega)];exact zj4 w .u8 _ 5 _ (by rfl) _ (by rfl) _
theorem zqr (r:Nat)(h:M.right (r:Int)=true):(encI (r:Int)).length<=4:=by
 rw[zoq r h]
 repeat' split
 all_goals simp
theorem zkf:∀zs:List Int,(∀z∈zs,M.right z=true)->(zs.flatMap encI).length<=4*zs.length
 | [],_=>by simp
 | z::zs,h=>by
  have i:=zkf zs (fun x hx=>h x (by simp[hx]));have h0:=h z (by simp);have h1:=zfw h0;obtain⟨r,rfl⟩:∃r:Nat,z=(r:Int):=⟨z.toNat,by omega⟩;have h2:=zqr r h0;rw[List.flatMap_cons,List.length_append,List.length_cons];omega
end Go.Proofs.YtgbhkkojkpndmaaGreatDoor
namespace Go.Proofs.YtgbhkkojkpndmaaGreatDoor
open Go.RowKit Go.Lib
set_option maxRecDepth 20000
set_option linter.unusedSimpArgs false
set_option linter.unusedVariables false
theorem zqx {P:Program}{w:World}{v:Value}{r:Int}(src dst e:TypeId)
  (hs:P.underlying src=some (.slice e)) (he:P.underlying e=some (.int .u8)) (hd:P.underlying dst=some .string)
  (h:L.Rd w v .u8 (encI r)):∃ao n cap,v= .slice ao n cap/\(convert src dst (.slice ao n cap)).run P w= .ok (.string (runesBytes [r])) w:=by
 have hbytes:runesBytes [r]=⟨(M.enc r).toArray⟩:=by
  apply ByteArray.ext;apply Array.toList_inj.1;rw[zaq];simp
 obtain⟨ao,cap,rfl,hn,hc⟩:=h;refine⟨ao,_,cap,rfl,?_⟩;rw[hbytes];unfold encI at hc ⊢;generalize M.enc r=l at hc ⊢;cases ao with
 | none =>
  have h0:l= []:=by
   cases l with
   | nil=>rfl
   | cons z l=>obtain⟨b,off,h,_⟩:=hc (by simp);simp at h
  subst h0;rw[run_convert_bytes_string w src dst e none _ cap hs he hd];rfl
 | some ad =>
  have:=run_convert_bytes_back (P:=P) w src dst e ad cap l hs he hd (fun j hj=>by
   obtain⟨b,off,hao,hcell⟩:=hc (by intro h;simp at h;subst h;simp at hj);simp at hao;subst hao;rw[L.addr_add]
   exact hcell j _ (by simp[hj]))
  simpa using this
namespace Sh
theorem zfh (a b:List Int):runesBytes (a++b)=runesBytes a++runesBytes b:=by
 apply ByteArray.ext;apply Array.toList_inj.1;rw[ByteArray.data_append,Array.toList_append,zaq,zaq,zaq,List.flatMap_append]
theorem zcv (l:List Int)(h:∀z∈l,M.right z=true):(runesBytes l).size<=4*l.length:=by
 have e:(runesBytes l).size=(l.flatMap encI).length:=by
  have h1:(runesBytes l).size=(runesBytes l).data.toList.length:=by rw[Array.length_toList];rfl
  have h2:l.flatMap encI=(l.flatMap fun z=>M.enc z).map fun b=>(b.toNat:Int):=by rw[List.map_flatMap];rfl
  rw[h1,zaq,h2,List.length_map]
 rw[e];exact zkf l h
theorem zrn {l:List Int}(h:∀z∈l,M.right z=true):M.rn (runesBytes l)=l:=by
 have e:runesBytes l=⟨(T.bytesR l).toArray⟩:=by
  apply ByteArray.ext;apply Array.toList_inj.1;rw[zaq];rfl
 rw[e];exact T.zdh h
end Sh
theorem zce (r:Int)(h:M.right r=true)(w:World):Calls Tryz.prog 13 #[.int .i32 r] w fun e w'=>e= .returned (.string (runesBytes [r]))/\Below w.heap.size w w':=by
 have h0:=zfw h;obtain⟨n,rfl⟩:∃n:Nat,r=(n:Int):=⟨r.toNat,by omega⟩;have HB:Hid (Calls Tryz.prog 22 #[.int .i32 (n:Int)] w fun e w'=>∃v,e= .returned v/\L.Rd w' v .u8 (encI (n:Int))/\Below w.heap.size w w'):=zoy n w h;generalize (n:Int)=z at HB;clear h h0
 go_enter Tryz.func13,Tryz.ntmps13
 go_wp2_with fail
 refine HB.out.mono ?_;clear HB;rintro e w1 ⟨v,rfl,hv,b1⟩;obtain⟨ao,k,cap,rfl,hcv⟩:=zqx (P:=Tryz.prog) 36 9 5 Tryz.underlying36 Tryz.underlying5 Tryz.underlying9 hv;have HB:Hid (Below w.heap.size w w1):=b1;clear hv b1;go_wp2;go_ret;exact⟨rfl,HB.out⟩
theorem zhe (s:ByteArray)(hs:s.size<=1099511627776)(w:World):Calls Tryz.prog 21 #[.string s] w fun e w'=>∃xo xc,e= .returned (.slice xo (M.rn s).length xc)/\L.Rd w' (.slice xo (M.rn s).length xc) .i32 (M.rn s)/\Below w.heap.size w w':=by
 have h:=zpf s w hs;generalize M.rn s=tx at h ⊢;generalize M.sp s.data.toList=cnt at h
 go_enter Tryz.func21,Tryz.ntmps21
 go_wp2_with fail
 refine h.mono ?_;clear h;rintro e w1 ⟨v1,v2,rfl,own,_,b1⟩;have hr:=L.Rd.za3 own;obtain⟨xo,xc,rfl⟩:∃xo xc,v1= .slice xo tx.length xc:=by obtain⟨a,c,e,_⟩:=hr;exact⟨a,c,e⟩
 have HR:Hid (L.Rd w1 (.slice xo tx.length xc) .i32 tx/\Below w.heap.size w w1):=⟨hr,b1⟩;clear hr own b1;go_wp2;go_ret;exact⟨_,_,rfl,HR.out.1,HR.out.2⟩
theorem zcd (s:ByteArray)(w:World):Calls Tryz.prog 9 #[.string s] w fun e w'=>e= .returned (.bool (decide (s.size<=1000)))/\w'=w:=by
 go_enter Tryz.func9,Tryz.ntmps9
 go_wp2;go_ret
 refine⟨L.zak ?_,rfl⟩;rw[Bool.eq_iff_iff];simp;try omega
theorem zbj (hK:T.ClassOk)(name:ByteArray)(sc:V.Script)(h0:Sh.Scr name sc)(s:ByteArray)(hs:s.size<=1099511627776)(pl:Cn.Pl)(hpl:Cn.PlOk pl)(out:List Int)(hgo:Cn.goF pl sc (M.rn s)=(out,0,0))(hall:∀z∈out,M.right z=true)(want:ByteArray)(hw:want=runesBytes out)(w:World) :
  Calls Tryz.prog 10 #[.string name,.string s,.string want] w fun e w'=>e= .returned (.bool true)/\Below w.heap.size w w':=by
 have h:=zhc hK name sc h0 s hs pl hpl out hgo hall w;rw[<- hw] at h;clear hw
 go_enter Tryz.func10,Tryz.ntmps10
 go_wp2_with fail
 refine h.mono ?_;clear h;rintro e w1 ⟨rfl,b1⟩;have HB:Hid (Below w.heap.size w w1):=b1;clear b1;go_wp2;go_ret;exact⟨L.zak (by simp),HB.out⟩
end Go.Proofs.YtgbhkkojkpndmaaGreatDoor
