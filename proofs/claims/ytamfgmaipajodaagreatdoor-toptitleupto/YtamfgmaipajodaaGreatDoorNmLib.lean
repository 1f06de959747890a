/-
 Marks in the order of their classes, as they stood: slices.SortStableFunc.
-/
import Derived.Test.YtamfgmaipajodaaGreatDoorNmSym3
import Derived.Test.YtamfgmaipajodaaGreatDoorQBoxes
import Derived.Test.YtamfgmaipajodaaGreatDoorOdP
import Derived.Test.YtamfgmaipajodaaGreatDoorRows
import Derived.Test.YtamfgmaipajodaaGreatDoorSLib
import Derived.Maps.OwnSet
import Derived.Test.YtamfgmaipajodaaGreatDoorNmIns
import Derived.Test.YtamfgmaipajodaaGreatDoorVLib
set_option maxHeartbeats 0
set_option maxRecDepth 20000
set_option linter.unusedSimpArgs false
set_option linter.unusedVariables false
namespace Go.Proofs.YtamfgmaipajodaaGreatDoor
open Go.RowKit Go.Sort Go.Shelf
namespace Nm
def Chk (bs:Nat) (Cs:List (List Int)):Prop:=∀C∈Cs,C.length=bs/\Srt C
theorem Chk.nil (bs:Nat):Chk bs []:=fun C hC=>by cases hC
theorem Chk.snoc {bs:Nat}{Cs:List (List Int)}{C:List Int}(h:Chk bs Cs)(h1:C.length=bs)(h2:Srt C):Chk bs (Cs++ [C]):=fun D hD=>by
 rcases List.mem_append.1 hD with h3 | h3
 ·exact h D h3
 ·simp at h3;subst h3;exact⟨h1,h2⟩
theorem zcg (Cs:List (List Int))(C:List Int):(Cs++ [C]).flatten=Cs.flatten++C:=by simp
def Ph1 (w0:World) (blk off n:Nat) (L0:List Int) (a:Nat) (wr:World):Prop:=∃Cs R,In w0 blk off n (Cs.flatten++R) wr/\Chk 20 Cs/\Cs.flatten.length=a/\Eqv L0 (Cs.flatten++R)
def Ph2 (w0:World) (blk off n:Nat) (L0:List Int) (bs:Nat) (wr:World):Prop:=∃Cs T,In w0 blk off n (Cs.flatten++T) wr/\Chk bs Cs/\Srt T/\T.length<bs/\Eqv L0 (Cs.flatten++T)
def Ph3 (w0:World) (blk off n:Nat) (L0:List Int) (bs a:Nat) (wr:World):Prop:=∃Ds Cs T,In w0 blk off n (Ds.flatten++(Cs.flatten++T)) wr/\Chk (2*bs) Ds/\Chk bs Cs/\Srt T/\T.length<bs/\Ds.flatten.length=a/\Eqv L0 (Ds.flatten++(Cs.flatten++T))
theorem Ph2.start {w0:World}{blk off n:Nat}{L0:List Int}{bs:Nat}{wr:World}(h:Ph2 w0 blk off n L0 bs wr):Ph3 w0 blk off n L0 bs 0 wr:=by
 obtain⟨Cs,T,h1,h2,h3,h4,h5⟩:=h;exact⟨[],Cs,T,by simpa using h1,Chk.nil _,h2,h3,h4,rfl,by simpa using h5⟩
theorem Ph3.over {w0:World}{blk off n:Nat}{L0:List Int}{bs a:Nat}{wr:World}(h:Ph3 w0 blk off n L0 bs a wr)(hb:0<bs)(hn:n<=a+bs):Ph2 w0 blk off n L0 (2*bs) wr:=by
 obtain⟨Ds,Cs,T,h1,h2,h3,h4,h5,h6,h7⟩:=h;have hl:=h1.1;simp only[List.length_append,h6] at hl;cases Cs with
 | nil=>exact⟨Ds,T,by simpa using h1,h2,h4,by omega,by simpa using h7⟩
 | cons C Cs =>
  have hC:=h3 C List.mem_cons_self;simp only[List.flatten_cons,List.length_append,hC.1] at hl;have e1:Cs.flatten= []:=List.eq_nil_of_length_eq_zero (by omega);have e2:T= []:=List.eq_nil_of_length_eq_zero (by omega);subst e2;exact⟨Ds,C,by simpa [e1] using h1,h2,hC.2,by rw[hC.1];omega,by simpa [e1] using h7⟩
theorem Ph2.done {w0:World}{blk off n:Nat}{L0:List Int}{bs:Nat}{wr:World}(h:Ph2 w0 blk off n L0 bs wr)(hb:0<bs)(hn:n<=bs):∃S',Srt S'/\Eqv L0 S'/\In w0 blk off n S' wr:=by
 obtain⟨Cs,T,h1,h2,h3,h4,h5⟩:=h;have hl:=h1.1;simp only[List.length_append] at hl;cases Cs with
 | nil=>exact⟨T,h3,by simpa using h5,by simpa using h1⟩
 | cons C Cs =>
  have hC:=h2 C List.mem_cons_self;simp only[List.flatten_cons,List.length_append,hC.1] at hl;have e1:Cs.flatten= []:=List.eq_nil_of_length_eq_zero (by omega);have e2:T= []:=List.eq_nil_of_length_eq_zero (by omega);subst e2;exact⟨C,hC.2,by simpa [e1] using h5,by simpa [e1] using h1⟩
end Nm
theorem zmj {w0:World}{blk off n cap:Nat}{L0:List Int}{a:Nat}{wr:World}(hsz:n<1152921504606846976)(h:Nm.Ph1 w0 blk off n L0 a wr)(hn:a+20<=n) :
  Calls Tryz.prog 181 #[.slice (some ⟨blk,off,none⟩) n cap,.int .i64 (a:Nat),.int .i64 ((a+20:Nat):Int),.func (.func 99) #[] #[]] wr fun e w'=>e= .returned (.tuple #[])/\Nm.Ph1 w0 blk off n L0 (a+20) w':=by
 obtain⟨Cs,R,h1,h2,h3,h4⟩:=h;have hl:=h1.1;simp only[List.length_append] at hl;refine(zhs w0 wr blk off n cap a (a+20) Cs.flatten (R.take 20) (R.drop 20) (h1.of (by rw[List.append_assoc,List.take_append_drop])) h3.symm (by rw[List.length_take];omega) hsz).mono fun e w' ⟨e1,S',k1,k2,k3,k4⟩=>⟨e1,Cs++ [S'],R.drop 20,k4.of (by rw[Nm.zcg]),h2.snoc (by rw[k1,List.length_take];omega) k2,?_,?_⟩
 ·rw[Nm.zcg,List.length_append,k1,List.length_take];omega
 ·rw[Nm.zcg];refine h4.trans ?_;have:=(Nm.Eqv.refl Cs.flatten).app (k3.app (Nm.Eqv.refl (R.drop 20)));rw[List.take_append_drop] at this;rw[List.append_assoc];exact this
theorem zmi {w0:World}{blk off n cap:Nat}{L0:List Int}{a:Nat}{wr:World}(hsz:n<1152921504606846976)(h:Nm.Ph1 w0 blk off n L0 a wr)(hn:n<a+20) :
  Calls Tryz.prog 181 #[.slice (some ⟨blk,off,none⟩) n cap,.int .i64 (a:Nat),.int .i64 (n:Nat),.func (.func 99) #[] #[]] wr fun e w'=>e= .returned (.tuple #[])/\Nm.Ph2 w0 blk off n L0 20 w':=by
 obtain⟨Cs,R,h1,h2,h3,h4⟩:=h;have hl:=h1.1;simp only[List.length_append] at hl;refine(zhs w0 wr blk off n cap a n Cs.flatten R [] (h1.of (by simp)) h3.symm (by omega) hsz).mono fun e w' ⟨e1,S',k1,k2,k3,k4⟩=>⟨e1,Cs,S',k4.of (by simp),h2,k2,by omega,h4.trans ((Nm.Eqv.refl _).app k3)⟩
theorem zpc {w0:World}{blk off n cap:Nat}{L0:List Int}{bs a:Nat}{wr:World}(hsz:n<1152921504606846976)(h:Nm.Ph3 w0 blk off n L0 bs a wr)(hb:0<bs)(hn:a+2*bs<=n) :
  Calls Tryz.prog 182 #[.slice (some ⟨blk,off,none⟩) n cap,.int .i64 (a:Nat),.int .i64 ((a+bs:Nat):Int),.int .i64 ((a+2*bs:Nat):Int),.func (.func 99) #[] #[]] wr fun e w'=>e= .returned (.tuple #[])/\Nm.Ph3 w0 blk off n L0 bs (a+2*bs) w':=by
 obtain⟨Ds,Cs,T,h1,h2,h3,h4,h5,h6,h7⟩:=h;have hl:=h1.1;simp only[List.length_append,h6] at hl
 match Cs,h1,h3,h7,hl with
 | [],h1,h3,h7,hl=>simp at hl;omega
 | [C],h1,h3,h7,hl =>
  have hC:=h3 C List.mem_cons_self;simp[hC.1] at hl;omega
 | C::D::Cs,h1,h3,h7,hl =>
  have hC:=h3 C List.mem_cons_self;have hD:=h3 D (List.mem_cons_of_mem _ List.mem_cons_self);refine(zhp w0 blk off n cap hsz (C.length+D.length) wr a (a+bs) (a+2*bs) Ds.flatten C D (Cs.flatten++T) (h1.of (by simp)) h6.symm (by have:=hC.1;omega) (by have:=hD.1;omega) (by have:=hC.1;omega) (by have:=hD.1;omega) qN hC.2 hD.2).mono fun e w' ⟨e1,S',k1,k2,k3,k4⟩=>⟨e1,Ds++ [S'],Cs,T,k4.of (by simp),h2.snoc (by have:=hC.1;have:=hD.1;omega) k2,fun E hE=>h3 E (List.mem_cons_of_mem _ (List.mem_cons_of_mem _ hE)),h4,h5,?_,?_⟩
  ·rw[Nm.zcg,List.length_append,k1,hC.1,hD.1];omega
  ·rw[Nm.zcg];refine h7.trans ?_;have:=(Nm.Eqv.refl Ds.flatten).app (k3.app (Nm.Eqv.refl (Cs.flatten++T)));simpa using this
theorem zpb {w0:World}{blk off n cap:Nat}{L0:List Int}{bs a:Nat}{wr:World}(hsz:n<1152921504606846976)(h:Nm.Ph3 w0 blk off n L0 bs a wr)(hb:0<bs)(hn:n<a+2*bs)(hm:a+bs<n) :
  Calls Tryz.prog 182 #[.slice (some ⟨blk,off,none⟩) n cap,.int .i64 (a:Nat),.int .i64 ((a+bs:Nat):Int),.int .i64 (n:Nat),.func (.func 99) #[] #[]] wr fun e w'=>e= .returned (.tuple #[])/\Nm.Ph2 w0 blk off n L0 (2*bs) w':=by
 obtain⟨Ds,Cs,T,h1,h2,h3,h4,h5,h6,h7⟩:=h;have hl:=h1.1;simp only[List.length_append,h6] at hl
 match Cs,h1,h3,h7,hl with
 | [],h1,h3,h7,hl=>simp at hl;omega
 | C::D::Cs,h1,h3,h7,hl =>
  have hC:=h3 C List.mem_cons_self;have hD:=h3 D (List.mem_cons_of_mem _ List.mem_cons_self);simp[hC.1,hD.1] at hl;omega
 | [C],h1,h3,h7,hl =>
  have hC:=h3 C List.mem_cons_self;simp only[List.flatten_cons,List.flatten_nil,List.append_nil,hC.1] at hl;refine(zhp w0 blk off n cap hsz (C.length+T.length) wr a (a+bs) n Ds.flatten C T [] (h1.of (by simp)) h6.symm (by rw[hC.1]) (by omega) (by rw[hC.1];omega) (by omega) qN hC.2 h4).mono fun e w' ⟨e1,S',k1,k2,k3,k4⟩=>⟨e1,Ds,S',k4.of (by simp),h2,k2,by rw[k1,hC.1];omega,h7.trans ?_⟩
  have:=(Nm.Eqv.refl Ds.flatten).app k3;simpa using this
theorem zhq (w:World)(blk off n cap:Nat)(L:List Int)(h0:Holds Z.en w blk off L.toArray)(hn:L.length=n)(hsz:n<1152921504606846976) :
  Calls Tryz.prog 146 #[.slice (some ⟨blk,off,none⟩) n cap,.int .i64 n,.func (.func 99) #[] #[]] w fun e w'=>e= .returned (.tuple #[])/\∃S',Nm.Srt S'/\Nm.Eqv L S'/\Nm.In w blk off n S' w':=by
 have HS:Hid (Nm.Ph1 w blk off n L 0 w):=by
  have h:=Nm.In.start h0;rw[hn] at h;exact⟨[],L,by simpa using h,Nm.Chk.nil _,rfl,by simpa using Nm.Eqv.refl L⟩
 clear h0 hn;have H1:Hid (∀(a:Nat) X,Nm.Ph1 w blk off n L a X->a+20<=n->Calls Tryz.prog 181 #[.slice (some ⟨blk,off,none⟩) n cap,.int .i64 (a:Nat),.int .i64 ((a+20:Nat):Int),.func (.func 99) #[] #[]] X fun e w'=>e= .returned (.tuple #[])/\Nm.Ph1 w blk off n L (a+20) w'):=fun a X h1 h2=>zmj hsz h1 h2
 have H2:Hid (∀(a:Nat) X,Nm.Ph1 w blk off n L a X->n<a+20->Calls Tryz.prog 181 #[.slice (some ⟨blk,off,none⟩) n cap,.int .i64 (a:Nat),.int .i64 (n:Nat),.func (.func 99) #[] #[]] X fun e w'=>e= .returned (.tuple #[])/\Nm.Ph2 w blk off n L 20 w'):=fun a X h1 h2=>zmi hsz h1 h2
 have H3:Hid (∀(bs a:Nat) X,Nm.Ph3 w blk off n L bs a X->0<bs->a+2*bs<=n->Calls Tryz.prog 182 #[.slice (some ⟨blk,off,none⟩) n cap,.int .i64 (a:Nat),.int .i64 ((a+bs:Nat):Int),.int .i64 ((a+2*bs:Nat):Int),.func (.func 99) #[] #[]] X fun e w'=>e= .returned (.tuple #[])/\Nm.Ph3 w blk off n L bs (a+2*bs) w'):=fun bs a X h1 h2 h3=>zpc hsz h1 h2 h3
 have H4:Hid (∀(bs a:Nat) X,Nm.Ph3 w blk off n L bs a X->0<bs->n<a+2*bs->a+bs<n->Calls Tryz.prog 182 #[.slice (some ⟨blk,off,none⟩) n cap,.int .i64 (a:Nat),.int .i64 ((a+bs:Nat):Int),.int .i64 (n:Nat),.func (.func 99) #[] #[]] X fun e w'=>e= .returned (.tuple #[])/\Nm.Ph2 w blk off n L (2*bs) w'):=fun bs a X h1 h2 h3 h4=>zpb hsz h1 h2 h3 h4
 go_enter Tryz.func146,Tryz.ntmps146
 go_wp2
 go_loopw [7,8] (fun va vb wr=>∃a:Nat,va= .int .i64 a/\vb= .int .i64 ((a+20:Nat):Int)/\a<=n/\Hid (Nm.Ph1 w blk off n L a wr)) (fun va _ _=>n - (RowKit.intOf va).toNat)
 case atStart=>exact⟨0,rfl,rfl,Nat.zero_le _,HS.out⟩
 case round =>
  obtain⟨a,rfl,rfl,ha,HP⟩:=hrel;clear HS
  by_cases hlt:a+20<=n
  ·have hC:Hid (Calls Tryz.prog 181 #[.slice (some ⟨blk,off,none⟩) n cap,.int .i64 (a:Nat),.int .i64 ((a+20:Nat):Int),.func (.func 99) #[] #[]] wr fun e w'=>e= .returned (.tuple #[])/\Nm.Ph1 w blk off n L (a+20) w'):=H1.out a wr HP.out hlt;clear H1 H2 H3 H4 HP;obtain⟨b,hb⟩:∃b,b=a+20:=⟨_,rfl⟩;rw[<- hb] at hC hlt ⊢;have HB:Hid (b=a+20):=hb;have hb1:a<b:=by omega
   clear hb
   go_wp2_with fail
   refine hC.out.mono ?_;rintro e w1 ⟨rfl,h⟩;have HP1:Hid (Nm.Ph1 w blk off n L b w1):=h;clear h hC;go_wp2
   go_roundw
   case rel=>exact⟨b,rfl,by go_num,hlt,HP1.out⟩
   case measure=>simp[RowKit.intOf];omega
  ·have hC:Hid (Calls Tryz.prog 181 #[.slice (some ⟨blk,off,none⟩) n cap,.int .i64 (a:Nat),.int .i64 (n:Nat),.func (.func 99) #[] #[]] wr fun e w'=>e= .returned (.tuple #[])/\Nm.Ph2 w blk off n L 20 w'):=H2.out a wr HP.out (by omega);clear H1 H2 HP
   go_wp2_with fail
   refine hC.out.mono ?_;rintro e w1 ⟨rfl,h⟩;have HP2:Hid (Nm.Ph2 w blk off n L 20 w1):=h;clear h hC;go_wp2
   go_loopw [6] (fun vb wr=>∃bs:Nat,vb= .int .i64 bs/\0<bs/\bs<=2*n+20/\Hid (Nm.Ph2 w blk off n L bs wr)) (fun vb _=>2*n+20 - (RowKit.intOf vb).toNat)
   case atStart=>exact⟨20,rfl,by omega,by omega,HP2.out⟩
   case round =>
    obtain⟨bs,rfl,hb0,hb1,HQ⟩:=hrel;clear HP2
    by_cases hbn:bs<n
    ·have HQ3:Hid (Nm.Ph3 w blk off n L bs 0 wr):=HQ.out.start;clear HQ;go_wp2
     go_loopw [7,8] (fun va vb wr=>∃a:Nat,va= .int .i64 a/\vb= .int .i64 ((a+2*bs:Nat):Int)/\a<=n/\Hid (Nm.Ph3 w blk off n L bs a wr)) (fun va _ _=>n - (RowKit.intOf va).toNat)
     case atStart=>exact⟨0,rfl,by first | (congr 1;done) | (congr 1;omega),Nat.zero_le _,HQ3.out⟩
     case round =>
      obtain⟨a',rfl,rfl,ha',HP⟩:=hrel;clear HQ3
      by_cases hlt:a'+2*bs<=n
      ·have hC:Hid (Calls Tryz.prog 182 #[.slice (some ⟨blk,off,none⟩) n cap,.int .i64 (a':Nat),.int .i64 ((a'+bs:Nat):Int),.int .i64 ((a'+2*bs:Nat):Int),.func (.func 99) #[] #[]] wr fun e w'=>e= .returned (.tuple #[])/\Nm.Ph3 w blk off n L bs (a'+2*bs) w'):=H3.out bs a' wr HP.out hb0 hlt;clear H3 H4 HP;obtain⟨b,hb⟩:∃b,b=a'+2*bs:=⟨_,rfl⟩;rw[<- hb] at hC hlt ⊢;have HB:Hid (b=a'+2*bs):=hb;have hb2:a'<b:=by omega
       obtain⟨m,hm'⟩:∃m,m=a'+bs:=⟨_,rfl⟩;have e1:(a':Int)+(bs:Int)=(m:Int):=by omega
       rw[<- hm'] at hC;have hmn:m<=n:=by omega
       clear hb hm'
       go_wp2_with fail
       refine hC.out.mono ?_;rintro e w1 ⟨rfl,h⟩;have HP1:Hid (Nm.Ph3 w blk off n L bs b w1):=h;clear h hC;go_wp2
       go_roundw
       case rel=>exact⟨b,rfl,by first | (congr 1;done) | (congr 1;omega),hlt,HP1.out⟩
       case measure=>simp[RowKit.intOf];omega
      ·by_cases hm:a'+bs<n
       ·have hC:Hid (Calls Tryz.prog 182 #[.slice (some ⟨blk,off,none⟩) n cap,.int .i64 (a':Nat),.int .i64 ((a'+bs:Nat):Int),.int .i64 (n:Nat),.func (.func 99) #[] #[]] wr fun e w'=>e= .returned (.tuple #[])/\Nm.Ph2 w blk off n L (2*bs) w'):=H4.out bs a' wr HP.out hb0 (by omega) hm;clear H3 H4 HP;obtain⟨m,hm'⟩:∃m,m=a'+bs:=⟨_,rfl⟩;have e1:(a':Int)+(bs:Int)=(m:Int):=by omega
        rw[<- hm'] at hC hm;clear hm'
        go_wp2_with fail
        refine hC.out.mono ?_;rintro e w1 ⟨rfl,h⟩;have HP1:Hid (Nm.Ph2 w blk off n L (2*bs) w1):=h;clear h hC;go_wp2
        go_roundw
        case rel=>exact⟨2*bs,by first | (congr 1;done) | (congr 1;omega),by omega,by omega,HP1.out⟩
        case measure=>simp[RowKit.intOf];omega
       ·have HP1:Hid (Nm.Ph2 w blk off n L (2*bs) wr):=HP.out.over hb0 (by omega);clear H3 H4 HP;go_wp2
        go_roundw
        case rel=>exact⟨2*bs,by first | (congr 1;done) | (congr 1;omega),by omega,by omega,HP1.out⟩
        case measure=>simp[RowKit.intOf];omega
    ·have HD:Hid (∃S',Nm.Srt S'/\Nm.Eqv L S'/\Nm.In w blk off n S' wr):=HQ.out.done hb0 (by omega);clear HQ H3 H4;go_wp2
     go_end0
     exact⟨rfl,HD.out⟩
theorem zmk (w:World)(blk off n cap:Nat)(L:List Int)(h0:Holds Z.en w blk off L.toArray)(hn:L.length=n)(hsz:n<1152921504606846976) :
  Calls Tryz.prog 98 #[.slice (some ⟨blk,off,none⟩) n cap,.func (.func 99) #[] #[]] w fun e w'=>e= .returned (.tuple #[])/\∃S',Nm.Srt S'/\Nm.Eqv L S'/\Nm.In w blk off n S' w':=by
 have hC:Hid (Calls Tryz.prog 146 #[.slice (some ⟨blk,off,none⟩) n cap,.int .i64 n,.func (.func 99) #[] #[]] w fun e w'=>e= .returned (.tuple #[])/\∃S',Nm.Srt S'/\Nm.Eqv L S'/\Nm.In w blk off n S' w'):=zhq w blk off n cap L h0 hn hsz;clear h0 hn
 go_enter Tryz.func98,Tryz.ntmps98
 go_wp2_with fail
 refine hC.out.mono ?_;rintro e w1 ⟨rfl,h⟩;have HD:Hid (∃S',Nm.Srt S'/\Nm.Eqv L S'/\Nm.In w blk off n S' w1):=h;clear h hC;go_wp2
 go_end0
 exact⟨rfl,HD.out⟩
end Go.Proofs.YtamfgmaipajodaaGreatDoor
namespace Go.Proofs.YtamfgmaipajodaaGreatDoor.Nm
open Go.RowKit Go.Sort
theorem zue {w:World}{F0 g n cap:Nat}{D M R:List Int}(h:w.ownsRow F0 21 1 (.slice (some ⟨g,0,none⟩) n cap) n (K.ints (D++M++R))) :
  Holds Z.en w g D.length M.toArray/\∀(w':World) (M':List Int),Z.At w g D.length M.length M'.toArray w'->w'.ownsRow F0 21 1 (.slice (some ⟨g,0,none⟩) n cap) n (K.ints (D++M'++R))/\Below F0 w w':=by
 obtain⟨hx,h2⟩:=h;rcases h2 with ⟨e0,_⟩|⟨g',cap',cur,e0,hb,hg,hn,hm,hs,ht⟩
 ·cases e0
 ·injection e0 with e1 _ e3;injection e1 with e1;injection e1 with e1;subst e1;subst e3
  have hlen:D.length+M.length+R.length=n:=by
   have:=hx;simp[K.ints] at this;omega
  have hcur:∀k,k<n->cur[k]?=(K.ints (D++M++R))[k]?:=fun k hk=>by
   rw[<- ht,List.getElem?_take,if_pos (by omega),Array.getElem?_toList]
  refine⟨fun j hj=> ?_,fun w' M' hA=> ?_⟩
  ·have hj':j<M.length:=by simpa using hj
   refine⟨?_,frozen_of_row w g _ _ _ hg⟩;have h3:=hcur (D.length+j) (by omega)
   have h4:(K.ints (D++M++R))[D.length+j]?=some (.int .i32 M[j]):=by
    unfold K.ints;rw[List.getElem?_map,List.append_assoc,List.getElem?_append_right (by omega),Nat.add_sub_cancel_left,List.getElem?_append_left hj',List.getElem?_eq_getElem hj'];rfl
   rw[World.cell?];simp only[hg];rw[h3,h4];simp[hj']
  ·obtain⟨hsz,q,rfl⟩:=hA;have hml:M'.length=M.length:=by simpa using hsz
   refine⟨⟨by simp[K.ints];omega,.inr ⟨g,cap,putCells Z.en D.length M'.toArray cur,rfl,hb,?_,hn,hm,by simpa [putCells] using hs,?_⟩⟩,?_⟩
   ·simp[putRow,mapBlock,Sort.ahead,Array.getElem?_modify,hg,onCells]
   ·apply List.ext_getElem?;intro k;rw[List.getElem?_take]
    by_cases hk:k<n*1
    ·rw[if_pos hk,Array.getElem?_toList];have hk':k<n:=by omega
     have h3:=hcur k hk';have hkc:k<cur.size:=by omega
     simp only[putCells,Array.getElem?_mapIdx];rw[h3];unfold K.ints;simp only[List.getElem?_map]
     by_cases h1:k<D.length
     ·rw[List.append_assoc,List.getElem?_append_left h1,List.append_assoc,List.getElem?_append_left h1,List.getElem?_eq_getElem h1];simp[show ¬(D.length<=k) by omega]
     ·by_cases h2:k<D.length+M.length
      ·rw[List.append_assoc,List.getElem?_append_right (by omega),List.getElem?_append_left (by omega),List.append_assoc,List.getElem?_append_right (by omega),List.getElem?_append_left (by omega),List.getElem?_eq_getElem (show k - D.length<M.length by omega),List.getElem?_eq_getElem (show k - D.length<M'.length by omega)];simp only[Option.map_some];rw[if_pos ⟨by omega,by simp;omega⟩];simp[show k - D.length<M'.length by omega]
      ·rw[List.append_assoc,List.getElem?_append_right (by omega),List.getElem?_append_right (by omega),List.append_assoc,List.getElem?_append_right (by omega),List.getElem?_append_right (by omega),hml];cases R[k - D.length - M.length]? with
       | none=>rfl
       | some z =>
        simp only[Option.map_some];rw[if_neg (by simp;omega)]
    ·rw[if_neg hk,List.getElem?_eq_none (by simp[K.ints];omega)]
   ·refine⟨rfl,rfl,rfl,by simp[putRow,mapBlock,Sort.ahead],fun k hk=> ?_⟩;simp only[putRow,mapBlock,Sort.ahead,Array.getElem?_modify];rw[if_neg (by omega)]
end Go.Proofs.YtamfgmaipajodaaGreatDoor.Nm
namespace Go.Proofs.YtamfgmaipajodaaGreatDoor
open Go.RowKit Go.Sort Go.Shelf
namespace Nm
def lenOf:Value->Nat
 | .slice _ n _=>n
 | _=>0
theorem zci (xo:Option Addr)(N xc j:Nat)(hj:j<=xc)(w':World):(Instr.slice 33 (.slice xo N xc) none (some (.int .i64 (j:Int))) none).run Tryz.prog w'= .ok (.slice xo j xc) w':=by
 have a2:(j:Int)<=xc:=by omega
 have a3:(0:Int)<=j:=by omega
 go_simp
theorem zb2 (xo:Option Addr)(N xc i:Nat)(h:i<=N)(hc:N<=xc)(w':World):(Instr.slice 33 (.slice xo N xc) (some (.int .i64 (i:Int))) none none).run Tryz.prog w'= .ok (.slice (if xc=i then xo else Option.map (fun x=>x.add i) xo) (N - i) (xc - i)) w':=by
 have a1:(i:Int)<=N:=by omega
 have a2:(N:Int)<=xc:=by omega
 have a3:(0:Int)<=i:=by omega
 go_simp
def Sm (w wr:World) (F0 g n cap:Nat) (L:List Int) (k:Nat):Prop :=
 ∃D:List Int,D.length=k/\wr.ownsRow F0 21 1 (.slice (some ⟨g,0,none⟩) n cap) n (K.ints (D++L.drop k))/\Below F0 w wr/\(k<n->Ends D)/\L.foldl insR []=(L.drop k).foldl insR D
end Nm
theorem nmSmEmpty (w:World)(a:Option Addr)(c:Nat):Calls Tryz.prog 53 #[.slice a 0 c] w fun e w'=>e= .returned (.tuple #[])/\w'=w:=by
 go_enter Tryz.func53,Tryz.ntmps53
 go_wp2
 go_loopw [0] (fun vl wr=>vl= .slice a 0 c/\wr=w) (fun _ _=>0)
 case atStart=>exact⟨rfl,rfl⟩
 case round =>
  obtain⟨rfl,rfl⟩:=hrel;go_wp2
  go_end0
  exact⟨rfl,rfl⟩
theorem nmSmSome (w:World)(F0 g n cap:Nat)(ls:List Int)(own:w.ownsRow F0 21 1 (.slice (some ⟨g,0,none⟩) n cap) n (K.ints ls))(hn:ls.length=n)(hl:n<=1000000)(hc:n<=cap)(hcm:cap<=maxLen) :
  Calls Tryz.prog 53 #[.slice (some ⟨g,0,none⟩) n cap] w fun e w'=>e= .returned (.tuple #[])/\w'.ownsRow F0 21 1 (.slice (some ⟨g,0,none⟩) n cap) n (K.ints (ls.foldl Nm.insR []))/\Below F0 w w':=by
 have HS:Hid (Nm.Sm w w F0 g n cap ls 0):=⟨[],rfl,by simpa using own,qR _,fun _=> .inl rfl,rfl⟩;have HN:Hid (ls.length=n):=hn;have hcm2:cap<=9223372036854775807:=by unfold maxLen at hcm;omega
 clear own hn hcm
 go_enter Tryz.func53,Tryz.ntmps53
 go_wp2
 go_loopw [0] (fun vl wr=>∃(k:Nat) (ad:Option Addr) (c r:Nat),vl= .slice ad r c/\k+r=n/\r<=c/\c<=cap/\Hid (0<r->ad=some ⟨g,k,none⟩)/\Hid (Nm.Sm w wr F0 g n cap ls k)) (fun vl _=>Nm.lenOf vl)
 case atStart=>exact⟨0,_,cap,n,rfl,by omega,hc,qN,fun _=>rfl,HS.out⟩
 case round =>
  obtain⟨k,ad,c,r,rfl,hkr,hrc,hcc,HA,HM⟩:=hrel;clear HS
  by_cases h0:0<r
  ·have ha:=HA.out h0;subst ha;obtain⟨D,hD,hO,hB,hE,hF⟩:=HM.out;have hdl:(ls.drop k).length=r:=by rw[List.length_drop,HN.out];omega
   obtain⟨m,hm⟩:∃m,m=Nm.lead (ls.drop k):=⟨_,rfl⟩;have hmr:m<=r:=by rw[hm,<- hdl];exact Nm.zun _
   have hRd:L.Rd wr (.slice (some ⟨g,k,none⟩) r c) .i32 (ls.drop k):=⟨_,_,by rw[hdl],fun e=>by (cases e),fun _=>⟨g,k,rfl,fun j z hj=>by
    have h:=hO.cells (g:=g) rfl (k+j) (.int .i32 z) (by unfold K.ints;rw[List.getElem?_map,List.getElem?_append_right (by omega),show k+j - D.length=j by omega,hj];rfl);rw[L.addr_add,Nat.zero_add] at h
    exact h⟩⟩
   have HMk:Hid (Calls Tryz.prog 55 #[.slice (some ⟨g,k,none⟩) r c] wr fun e w'=>e= .returned (.int .i64 (m:Nat))/\Below wr.heap.size wr w'):=by
    rw[hm];exact zjh wr _ (ls.drop k) hRd (by omega)
   have hsl1:=Nm.zci (some ⟨g,k,none⟩) r c m (by omega);obtain⟨i,hi⟩:∃i,i=min (m+1) r:=⟨_,rfl⟩;have hir:i<=r:=by omega
   have hi0:0<i:=by omega
   have hsl2:=Nm.zb2 (some ⟨g,k,none⟩) r c i hir hrc;obtain⟨ad2,had2⟩:∃ad2,ad2=(if c=i then (some ⟨g,k,none⟩:Option Addr) else Option.map (fun x:Addr=>x.add i) (some ⟨g,k,none⟩)):=⟨_,rfl⟩;rw[<- had2] at hsl2
   have HAd2:Hid (ad2=(if c=i then (some ⟨g,k,none⟩:Option Addr) else some ⟨g,k+i,none⟩)):=by
    show _=_;rw[had2,Option.map_some,L.addr_add]
   have HAd:Hid (0<r - i->ad2=some ⟨g,k+i,none⟩):=fun h=>by rw[had2,if_neg (by omega),Option.map_some,L.addr_add]
   have HSo:Hid (∀w1,Below wr.heap.size wr w1->Calls Tryz.prog 98 #[.slice (some ⟨g,k,none⟩) m c,.func (.func 99) #[] #[]] w1 fun e w'=>e= .returned (.tuple #[])/\Nm.Sm w w' F0 g n cap ls (k+i)):=fun w1 b1=>by
    have hO1:=L.zat hO b1 qN;have hB1:Below F0 w w1:=hB.trans (b1.mono (Nat.le_trans (by have:=(hO.lt g rfl);omega) qN));have hsp:ls.drop k=(ls.drop k).take m++(ls.drop k).drop m:=(List.take_append_drop m _).symm;rw[hsp,<- List.append_assoc] at hO1;obtain⟨k1,k2⟩:=Nm.zue hO1;have hMl:((ls.drop k).take m).length=m:=by rw[List.length_take];omega
    rw[hD] at k1 k2;refine(zmk w1 g k m c ((ls.drop k).take m) k1 hMl (by omega)).mono fun e w' ⟨e1,S',s1,s2,s3⟩=>⟨e1,?_⟩
    obtain⟨s4,_,s5⟩:=s3;rw[hMl] at k2;obtain⟨o2,b2⟩:=k2 w' S' s5;have hmk:(ls.drop k).take m=(ls.drop k).takeWhile Nm.isM:=by rw[hm];exact Nm.zpo _
    have hS:S'=Nm.ssort ((ls.drop k).take m):=Nm.zrc (by rw[hmk];exact Nm.zlx _) s1 s2
    have hfold:(ls.drop k).foldl Nm.insR D=((ls.drop k).drop m).foldl Nm.insR (D++S'):=by
     conv=>lhs;rw[hsp]
     rw[List.foldl_append,Nm.zsm (hE (by omega)),hS]
    by_cases h1:m<r
    ·obtain⟨x,t,hx⟩:∃x t,(ls.drop k).drop m=x::t:=by
      cases h:(ls.drop k).drop m with
      | nil =>
       have h2:((ls.drop k).drop m).length=r - m:=by rw[List.length_drop,hdl]
       rw[h] at h2;simp at h2;omega
      | cons x t=>exact⟨x,t,rfl⟩
     have hx0:Nm.cls x=0:=by
      rw[hm,Nm.zpp] at hx;exact Nm.zqj hx
     have ei:i=m+1:=by omega
     have ht:ls.drop (k+i)=t:=by
      have:ls.drop (k+i)=((ls.drop k).drop m).drop 1:=by rw[List.drop_drop,List.drop_drop,ei]
      rw[this,hx];rfl
     refine⟨D++S'++ [x],by simp;omega,?_,hB1.trans b2,fun _=> .inr ⟨D++S',x,rfl,hx0⟩,?_⟩
     ·rw[ht];rw[hx] at o2;have e:D++S'++ [x]++t=D++S'++(x::t):=by simp
      rw[e];exact o2
     ·rw[ht,hF,hfold,hx,List.foldl_cons,Nm.zpx hx0]
    ·have em:m=r:=by omega
     have ei:i=r:=by omega
     have hx:(ls.drop k).drop m= []:=List.drop_eq_nil_of_le (by omega);have ht:ls.drop (k+i)= []:=List.drop_eq_nil_of_le (by rw[HN.out];omega);refine⟨D++S',by simp;omega,?_,hB1.trans b2,fun h=>by omega,?_⟩
     ·rw[ht,List.append_nil];rw[hx,List.append_nil] at o2;exact o2
     ·rw[ht,hF,hfold,hx]
   have hmz:(m:Int)+1<=r∨(r:Int)<m+1:=by omega
   have HI:Hid (i=min (m+1) r):=hi;clear hD hO hB hE hF hdl hm hRd had2 HM HA hi
   go_wp2_with fail
   refine HMk.out.mono ?_;clear HMk;rintro e w1 ⟨rfl,b1⟩;have hSo:=HSo.out w1 b1;clear HSo b1
   go_wp2_with fail
   refine hSo.mono ?_;clear hSo;rintro e w2 ⟨rfl,hSm⟩;have HSm:Hid (Nm.Sm w w2 F0 g n cap ls (k+i)):=hSm;clear hSm
   have HMi:Hid ((min ((m:Int)+1) (r:Int)).toNat=i):=by
    show _=_;rw[HI.out];omega
   clear hsl2;go_wp2
   go_roundw
   case rel=>exact⟨k+i,ad2,c - i,r - i,by rw[HMi.out,HAd2.out],by omega,by omega,by omega,HAd,HSm⟩
   case measure =>
    simp only[Nm.lenOf];rw[HMi.out];omega
  ·have e:r=0:=by omega
   subst e;have hkn:k=n:=by omega
   have HE:Hid (wr.ownsRow F0 21 1 (.slice (some ⟨g,0,none⟩) n cap) n (K.ints (ls.foldl Nm.insR []))/\Below F0 w wr):=by
    obtain⟨D,hD,hO,hB,hE,hF⟩:=HM.out;rw[List.drop_eq_nil_of_le (by rw[HN.out];omega)] at hO hF;rw[List.append_nil] at hO;rw[hF];exact⟨hO,hB⟩
   clear HM HA;go_wp2
   go_end0
   exact⟨rfl,HE.out⟩
end Go.Proofs.YtamfgmaipajodaaGreatDoor
namespace Go.Proofs.YtamfgmaipajodaaGreatDoor
open Go.RowKit Go.Maps Go.WideMaps
namespace Nm
def raw (v:Value):Option (DataW Value×List MemPlace):=some (.held v,[])
def MapG {κ:Type} (kt:TypeId) (kl:κ->Lit) (ok:κ->Prop) (z:Value) (w:World) (B n:Nat) (f:κ->Option Value):Prop :=
 ∃D:DataW Value,w.ownsMap Tryz.prog kt raw B n D/\IsMap D/\∀s,ok s->Maps.has D (kl s)=(f s).isSome/\D.atKey (kl s) (.held z)= .held ((f s).getD z)
section
variable {κ:Type} {kt:TypeId} {kl:κ->Lit} {ok:κ->Prop} {z:Value}
theorem MapG.made (w:World):MapG kt kl ok z (w.alloc (.map #[] 0)) w.heap.size 0 fun _=>none :=
 ⟨.map [],World.ownsMap_made w _ _ _,⟨[],rfl⟩,fun s _=>⟨rfl,rfl⟩⟩
theorem MapG.lt {w:World}{B n:Nat}{f:κ->Option Value}(h:MapG kt kl ok z w B n f):B<w.heap.size:=by
 obtain⟨D,h1,_⟩:=h;exact h1.lt
theorem MapG.block {w w':World}{B n:Nat}{f:κ->Option Value}(h:MapG kt kl ok z w B n f)(e:w'.heap[B]?=w.heap[B]?):MapG kt kl ok z w' B n f:=by
 obtain⟨D,⟨es,clock,hb,F,hs,hD⟩,h2⟩:=h;exact⟨D,⟨es,clock,e.trans hb,F,hs,hD⟩,h2⟩
theorem MapG.below {w w':World}{B n X:Nat}{f:κ->Option Value}(h:MapG kt kl ok z w B n f)(hb:Below X w w')(hX:B<X):MapG kt kl ok z w' B n f:=h.block (hb.block B hX)
theorem MapG.look_ok {w:World}{B n:Nat}{f:κ->Option Value}(h:MapG kt kl ok z w B n f){t e:TypeId}(K:Keyed Tryz.prog kt)(ht:Tryz.prog.underlying t=some (.map kt e))(hz:∀w,(zeroValue e).run Tryz.prog w= .ok z w)(s:κ)(hs:ok s)(key:Value)(hk:keyOf Tryz.prog kt key=some (kl s)) :
  (Instr.lookup t (.map (some B)) key true).run Tryz.prog w= .ok (.tuple #[(f s).getD z,.bool (f s).isSome]) w:=by
 obtain⟨D,h1,h2,h3⟩:=h;obtain⟨v,ps,hrun,hv⟩:=h1.look_ok (t:=t) (e:=e) K ht (hz w) (zd:= .held z) (zp:= []) rfl (key:=key) hk;rw[(h3 s hs).2] at hv;simp only[raw,Option.some.injEq,Prod.mk.injEq,DataW.held.injEq] at hv;rw[hrun,hv.1,(h3 s hs).1]
theorem MapG.put {w:World}{B n:Nat}{f:κ->Option Value}(h:MapG kt kl ok z w B n f){t e:TypeId}(K:Keyed Tryz.prog kt)(ht:Tryz.prog.underlying t=some (.map kt e))(hn:n<=140737488355328)(s:κ)(hs:ok s)(key:Value)(hk:keyOf Tryz.prog kt key=some (kl s))(hlit:∀s,ok s->WideAt.IsKeyLit (kl s))(hinj:∀a b,ok a->ok b->kl a=kl b->a=b) [DecidableEq κ] (v:Value) :
  ∃w',(Instr.mapUpdate t (.map (some B)) key v).run Tryz.prog w= .ok () w'/\MapG kt kl ok z w' B (n+1) (fun x=>if x=s then some v else f x)/\w.grownBy w' (some B):=by
 obtain⟨D,h1,h2,h3⟩:=h;obtain⟨w',hrun,r1,r2⟩:=h1.update (t:=t) (e:=e) K ht (by unfold maxLen;omega) (key:=key) hk (val:=v) (d:= .held v) (ps:= []) rfl;refine⟨w',hrun,⟨_,r1,h2.put _ _,fun x hx=> ?_⟩,r2⟩
 by_cases e:x=s
 ·subst e;rw[has_put_same h2 (hlit x hx),atKey_put_same h2 (hlit x hx)];simp
 ·have hne:kl x≠kl s:=fun h=>e (hinj x s hx hs h)
  rw[has_put_other hne,atKey_put_other hne,(h3 x hx).1,(h3 x hx).2];simp[e]
end
end Nm
end Go.Proofs.YtamfgmaipajodaaGreatDoor
namespace Go.Proofs.YtamfgmaipajodaaGreatDoor
open Go.RowKit
namespace Nm
theorem ztb (w:World)(z:Int):L.Rd (w.alloc (.cells #[.int .i32 z] 21)) (.slice (some ⟨w.heap.size,0,none⟩) 1 1) .i32 [z]:=by
 have hnew:=heap_alloc_new w (.cells #[.int .i32 z] 21)
 exact⟨_,_,rfl,fun e=>by (cases e),fun _=>⟨_,0,rfl,fun j y hj=>by
  match j,hj with
  | 0,hj=>cases hj;exact K.zah hnew rfl
  | n+1,hj=>simp at hj⟩⟩
theorem zcp {B:Nat}{w0 w:World}(b:Below B w0 w):Below B w0 w.drew:=⟨b.os,b.tape,b.output,b.size,b.block⟩
end Nm
theorem Nm.zg3:∀(n:Nat) (r:Int),(Nm.full n r).length<=n+1
 | 0,r=>by simp[Nm.full]
 | n+1,r=>by
  rw[Nm.full];cases Nm.look Nm.tab r with
  | none=>simp
  | some p=>have:=Nm.zg3 n p.1;simp;omega
end Go.Proofs.YtamfgmaipajodaaGreatDoor
