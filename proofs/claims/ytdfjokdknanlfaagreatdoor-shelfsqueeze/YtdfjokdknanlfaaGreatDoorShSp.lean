/-
 What scriptref1.One answers where a head of two, three or four bytes has all its bytes.
-/
import Derived.Test.YtdfjokdknanlfaaGreatDoorShOneA
import Derived.Test.YtdfjokdknanlfaaGreatDoorTMath
import Derived.Test.YtdfjokdknanlfaaGreatDoorSLib
set_option maxHeartbeats 0
namespace Go.Proofs.YtdfjokdknanlfaaGreatDoor
open Go.RowKit
theorem zf2 {d:Int}(h:(d / 64 != 2)=true):¬d / 64=2:=by simpa using h
theorem zgd {d:Int}(h:(d / 64 != 2)=false):d / 64=2:=by simpa using h
theorem zgu {x:Int}(h:M.right x=false):¬(0<=x/\x<=1114111/\(x<55296∨57343<x)):=by unfold M.right at h;exact of_decide_eq_false h
theorem zco {x:Int}(h:M.right x=true):0<=x/\x<=1114111/\(x<55296∨57343<x):=by unfold M.right at h;exact of_decide_eq_true h
theorem ends {n c b1 b2 b3 x y:Nat}{X Y:Int}(h:oneR n c b1 b2 b3=(x,y))(hx:X=(x:Int))(hy:Y=(y:Int)):X=((oneR n c b1 b2 b3).1:Int)/\Y=((oneR n c b1 b2 b3).2:Int):=by
 rw[h];exact⟨hx,hy⟩
variable {n c b1 b2 b3:Nat}
theorem zq4 (hc:(c:Int) / 32=6)(hn:1<n)(h:¬((b1:Int) / 64=2/\128<=((c:Int) - 192)*64+(b1:Int) % 64)):(0:Int)=((oneR n c b1 b2 b3).1:Int)/\(0:Int)=((oneR n c b1 b2 b3).2:Int):=by
 refine ends (x:=0) (y:=0) ?_ rfl rfl;rw[zkf (by omega) hn,if_neg (by omega)]
theorem zrj (hc:(c:Int) / 32=6)(hn:1<n)(h1:(b1:Int) / 64=2)(h2:128<=((c:Int) - 192)*64+(b1:Int) % 64):((c:Int) - 192)*64+(b1:Int) % 64=((oneR n c b1 b2 b3).1:Int)/\(2:Int)=((oneR n c b1 b2 b3).2:Int):=by
 refine ends (x:=(c - 192)*64+b1 % 64) (y:=2) ?_ (by omega) rfl;rw[zkf (by omega) hn,if_pos (by omega)]
theorem zej (hc:(c:Int) / 16=14)(hn:2<n)(h:¬((b1:Int) / 64=2/\(b2:Int) / 64=2/\2048<=(((c:Int) - 224)*64+(b1:Int) % 64)*64+(b2:Int) % 64/\M.right ((((c:Int) - 224)*64+(b1:Int) % 64)*64+(b2:Int) % 64)=true)):(0:Int)=((oneR n c b1 b2 b3).1:Int)/\(0:Int)=((oneR n c b1 b2 b3).2:Int):=by
 refine ends (x:=0) (y:=0) ?_ rfl rfl;rw[zf1 (by omega) hn,if_neg];intro h1;apply h;refine⟨by omega,by omega,by omega,?_⟩;unfold M.right;exact decide_eq_true (by omega)
theorem zna (hc:(c:Int) / 16=14)(hn:2<n)(h1:(b1:Int) / 64=2)(h2:(b2:Int) / 64=2)(h3:2048<=(((c:Int) - 224)*64+(b1:Int) % 64)*64+(b2:Int) % 64)(h4:M.right ((((c:Int) - 224)*64+(b1:Int) % 64)*64+(b2:Int) % 64)=true) :
  (((c:Int) - 224)*64+(b1:Int) % 64)*64+(b2:Int) % 64=((oneR n c b1 b2 b3).1:Int)/\(3:Int)=((oneR n c b1 b2 b3).2:Int):=by
 have h5:=zco h4;refine ends (x:=((c - 224)*64+b1 % 64)*64+b2 % 64) (y:=3) ?_ (by omega) rfl;rw[zf1 (by omega) hn,if_pos (by omega)]
theorem zfg (hc:(c:Int) / 8=30)(hn:3<n)(h:¬((b1:Int) / 64=2/\(b2:Int) / 64=2/\(b3:Int) / 64=2/\65536<=((((c:Int) - 240)*64+(b1:Int) % 64)*64+(b2:Int) % 64)*64+(b3:Int) % 64/\M.right (((((c:Int) - 240)*64+(b1:Int) % 64)*64+(b2:Int) % 64)*64+(b3:Int) % 64)=true)):(0:Int)=((oneR n c b1 b2 b3).1:Int)/\(0:Int)=((oneR n c b1 b2 b3).2:Int):=by
 refine ends (x:=0) (y:=0) ?_ rfl rfl;rw[zhp (by omega) hn,if_neg];intro h1;apply h;refine⟨by omega,by omega,by omega,by omega,?_⟩;unfold M.right;exact decide_eq_true (by omega)
theorem zqq (hc:(c:Int) / 8=30)(hn:3<n)(h1:(b1:Int) / 64=2)(h2:(b2:Int) / 64=2)(hb:(b3:Int) / 64=2)(h3:65536<=((((c:Int) - 240)*64+(b1:Int) % 64)*64+(b2:Int) % 64)*64+(b3:Int) % 64)(h4:M.right (((((c:Int) - 240)*64+(b1:Int) % 64)*64+(b2:Int) % 64)*64+(b3:Int) % 64)=true) :
  ((((c:Int) - 240)*64+(b1:Int) % 64)*64+(b2:Int) % 64)*64+(b3:Int) % 64=((oneR n c b1 b2 b3).1:Int)/\(4:Int)=((oneR n c b1 b2 b3).2:Int):=by
 have h5:=zco h4;refine ends (x:=(((c - 240)*64+b1 % 64)*64+b2 % 64)*64+b3 % 64) (y:=4) ?_ (by omega) rfl;rw[zhp (by omega) hn,if_pos (by omega)]
set_option maxRecDepth 100000 in
theorem zr0 (s:ByteArray)(i b2 b3:Nat)(w:World)(hi:i<s.size)(hj1:i+1<s.size)(hs:s.size<=1099511627776)(hc:((s[i]'hi).toNat:Int) / 32=6) :
  Calls Tryz.prog 18 #[.string s,.int .i64 i] w fun e w'=>e= .returned (.tuple #[.int .i32 ((oneR (s.size - i) (s[i]'hi).toNat (s[i+1]'hj1).toNat b2 b3).1:Int),.int .i64 ((oneR (s.size - i) (s[i]'hi).toNat (s[i+1]'hj1).toNat b2 b3).2:Int)])/\Below w.heap.size w w':=by
 have hlt:(s[i]'hi).toNat<256:=(s[i]'hi).toNat_lt;have hl1:(s[i+1]'hj1).toNat<256:=(s[i+1]'hj1).toNat_lt;have a1:=zg8 _ hlt;have hlo:192<=((s[i]'hi).toNat:Int):=by omega
 have hn:1<s.size - i:=by omega
 go_enter Tryz.func18,Tryz.ntmps18
 go_wp2;refine wp_loop_rounds 1 ?_
 rw[rounds_succ];go_wp2;refine wp_loop_rounds 2 ?_
 repeat any_goals (rw[rounds_succ];go_wp2_with (go_at_call 17;go_must (refine(zb0 _ _).mono ?_;rintro e w' ⟨rfl,rfl⟩)))
 all_goals try (go_quiet (fail);go_wp2)
 all_goals go_ret2
 all_goals refine⟨ze8 ?_,by repeat (first | exact qR _ | refine Below.alloc ?_ (by simp <;> omega) _ | refine below_drewN ?_ _)⟩
 all_goals first
  | exact zrj hc hn (zgd (by assumption)) (by assumption)
  | exact zq4 hc hn (fun h=>absurd (h.1) (zf2 (by assumption)))
  | exact zq4 hc hn (fun h=>absurd h.2 (by omega))
  | (exfalso;have h5:=zgu ‹M.right _=false›;omega)
set_option maxRecDepth 100000 in
theorem zn2 (s:ByteArray)(i b3:Nat)(w:World)(hi:i<s.size)(hj1:i+1<s.size)(hj2:i+2<s.size)(hs:s.size<=1099511627776)(hc:((s[i]'hi).toNat:Int) / 16=14) :
  Calls Tryz.prog 18 #[.string s,.int .i64 i] w fun e w'=>e= .returned (.tuple #[.int .i32 ((oneR (s.size - i) (s[i]'hi).toNat (s[i+1]'hj1).toNat (s[i+2]'hj2).toNat b3).1:Int),.int .i64 ((oneR (s.size - i) (s[i]'hi).toNat (s[i+1]'hj1).toNat (s[i+2]'hj2).toNat b3).2:Int)])/\Below w.heap.size w w':=by
 have hlt:(s[i]'hi).toNat<256:=(s[i]'hi).toNat_lt;have hl1:(s[i+1]'hj1).toNat<256:=(s[i+1]'hj1).toNat_lt;have hl2:(s[i+2]'hj2).toNat<256:=(s[i+2]'hj2).toNat_lt;have a1:=zg8 _ hlt;have a2:=zj0 _ hlt;have hlo:224<=((s[i]'hi).toNat:Int):=by omega
 have hn:2<s.size - i:=by omega
 go_enter Tryz.func18,Tryz.ntmps18
 go_wp2;refine wp_loop_rounds 2 ?_
 rw[rounds_succ];go_wp2;rw[rounds_succ];go_wp2;refine wp_loop_rounds 3 ?_
 repeat any_goals (rw[rounds_succ];go_wp2_with (go_at_call 17;go_must (refine(zb0 _ _).mono ?_;rintro e w' ⟨rfl,rfl⟩)))
 all_goals try (go_quiet (fail);go_wp2)
 all_goals go_ret2
 all_goals refine⟨ze8 ?_,by repeat (first | exact qR _ | refine Below.alloc ?_ (by simp <;> omega) _ | refine below_drewN ?_ _)⟩
 all_goals first
  | exact zna hc hn (zgd (by assumption)) (zgd (by assumption)) (by assumption) (by assumption)
  | exact zej hc hn (fun h=>absurd (h.1) (zf2 (by assumption)))
  | exact zej hc hn (fun h=>absurd (h.2.1) (zf2 (by assumption)))
  | exact zej hc hn (fun h=>absurd (h.2.2.1) (by omega))
  | exact zej hc hn (fun h=>by have h1:=h.2.2.2;have h2:=zco h1;exact absurd h2 (zgu (by assumption)))
set_option maxRecDepth 100000 in
theorem zp7 (s:ByteArray)(i:Nat)(w:World)(hi:i<s.size)(hj1:i+1<s.size)(hj2:i+2<s.size)(hj3:i+3<s.size)(hs:s.size<=1099511627776)(hc:((s[i]'hi).toNat:Int) / 8=30) :
  Calls Tryz.prog 18 #[.string s,.int .i64 i] w fun e w'=>e= .returned (.tuple #[.int .i32 ((oneR (s.size - i) (s[i]'hi).toNat (s[i+1]'hj1).toNat (s[i+2]'hj2).toNat (s[i+3]'hj3).toNat).1:Int),.int .i64 ((oneR (s.size - i) (s[i]'hi).toNat (s[i+1]'hj1).toNat (s[i+2]'hj2).toNat (s[i+3]'hj3).toNat).2:Int)])/\Below w.heap.size w w':=by
 have hlt:(s[i]'hi).toNat<256:=(s[i]'hi).toNat_lt;have hl1:(s[i+1]'hj1).toNat<256:=(s[i+1]'hj1).toNat_lt;have hl2:(s[i+2]'hj2).toNat<256:=(s[i+2]'hj2).toNat_lt;have hl3:(s[i+3]'hj3).toNat<256:=(s[i+3]'hj3).toNat_lt;have a1:=zg8 _ hlt;have a2:=zj0 _ hlt;have a3:=zo5 _ hlt;have hlo:240<=((s[i]'hi).toNat:Int):=by omega
 have hn:3<s.size - i:=by omega
 go_enter Tryz.func18,Tryz.ntmps18
 go_wp2;refine wp_loop_rounds 3 ?_
 rw[rounds_succ];go_wp2;rw[rounds_succ];go_wp2;rw[rounds_succ];go_wp2;refine wp_loop_rounds 4 ?_
 repeat any_goals (rw[rounds_succ];go_wp2_with (go_at_call 17;go_must (refine(zb0 _ _).mono ?_;rintro e w' ⟨rfl,rfl⟩)))
 all_goals try (go_quiet (fail);go_wp2)
 all_goals go_ret2
 all_goals refine⟨ze8 ?_,by repeat (first | exact qR _ | refine Below.alloc ?_ (by simp <;> omega) _ | refine below_drewN ?_ _)⟩
 all_goals first
  | exact zqq hc hn (zgd (by assumption)) (zgd (by assumption)) (zgd (by assumption)) (by assumption) (by assumption)
  | exact zfg hc hn (fun h=>absurd (h.1) (zf2 (by assumption)))
  | exact zfg hc hn (fun h=>absurd (h.2.1) (zf2 (by assumption)))
  | exact zfg hc hn (fun h=>absurd (h.2.2.1) (zf2 (by assumption)))
  | exact zfg hc hn (fun h=>absurd (h.2.2.2.1) (by omega))
  | exact zfg hc hn (fun h=>by have h1:=h.2.2.2.2;have h2:=zco h1;exact absurd h2 (zgu (by assumption)))
def oneD (x:Nat×Nat):Nat×Nat:=if M.bad x then (0,0) else x
theorem zc9 (s:ByteArray)(i:Nat)(h:i<s.size):(s.get! i).toNat=(s[i]'h).toNat:=by
 have:=get_at s i h;rw[Nat.add_zero] at this;rw[this]
theorem zsv (s:ByteArray)(i:Nat):oneR (s.size - i) (s.get! i).toNat (s.get! (i+1)).toNat (s.get! (i+2)).toNat (s.get! (i+3)).toNat=oneD (Utf8.decode s i):=by
 rw[Lib.decode_at];rfl
theorem zhj (s:ByteArray)(i:Nat)(w:World)(hi:i<s.size)(hs:s.size<=1099511627776) :
  Calls Tryz.prog 18 #[.string s,.int .i64 i] w fun e w'=>e= .returned (.tuple #[.int .i32 ((oneD (Utf8.decode s i)).1:Int),.int .i64 ((oneD (Utf8.decode s i)).2:Int)])/\Below w.heap.size w w':=by
 rw[<- zsv s i,zc9 s i hi]
 by_cases h0:((s[i]'hi).toNat:Int)<128
 ·exact zn3 s i _ _ _ w hi h0
 ·by_cases h1:((s[i]'hi).toNat:Int) / 32=6/\i+1<s.size
  ·rw[zc9 s (i+1) h1.2];exact zr0 s i _ _ w hi h1.2 hs h1.1
  ·by_cases h2:((s[i]'hi).toNat:Int) / 16=14/\i+2<s.size
   ·rw[zc9 s (i+1) (by omega),zc9 s (i+2) h2.2];exact zn2 s i _ w hi _ h2.2 hs h2.1
   ·by_cases h3:((s[i]'hi).toNat:Int) / 8=30/\i+3<s.size
    ·rw[zc9 s (i+1) (by omega),zc9 s (i+2) (by omega),zc9 s (i+3) h3.2];exact zp7 s i w hi _ _ h3.2 hs h3.1
    ·exact zp6 s i _ _ _ w hi hs h0 h1 h2 h3
theorem zsd {s:ByteArray}{pos:Nat}(hp:pos<s.size):s.data.toList.drop pos≠ []:=by
 have hl:(s.data.toList.drop pos).length=s.size - pos:=by rw[List.length_drop,Array.length_toList];rfl
 intro e;rw[e] at hl;simp at hl;omega
theorem zrm (s:ByteArray)(pos:Nat)(hp:pos<s.size) :
  M.sp (s.data.toList.drop pos)=(if M.bad (M.d0 (s.data.toList.drop pos)) then 1 else 0)+M.sp (s.data.toList.drop (pos+(Utf8.decode s pos).2)):=by
 rw[M.ziq _ (zsd hp),List.drop_drop,M.zcq]
theorem zs8:∀L,M.sp L<=L.length:=by
 refine M.zq7 (by simp[M.zsn]) ?_;intro L h ih;have hw:=M.zem L h;rw[List.length_drop] at ih;rw[M.ziq L h];split <;> omega
theorem zso (s:ByteArray)(pos:Nat)(h:¬pos<s.size):M.sp (s.data.toList.drop pos)=0:=by
 have hl:(s.data.toList.drop pos).length=s.size - pos:=by rw[List.length_drop,Array.length_toList];rfl
 have:s.data.toList.drop pos= []:=List.eq_nil_of_length_eq_zero (by omega);rw[this];rfl
end Go.Proofs.YtdfjokdknanlfaaGreatDoor
