import Derived.Test.YthnmmmkeamcfkaaGreatDoorQMath
set_option maxHeartbeats 0
set_option maxRecDepth 20000
set_option linter.unusedSimpArgs false
set_option linter.unusedVariables false
namespace Go.Proofs.YthnmmmkeamcfkaaGreatDoor
open Go.Proofs.Tryz
namespace Cn
def passE (p:V.Pass):Int :=
 if p.name.toList= [] then (K.rulesF p.rules).1 else if R.passes p.name=true then (if 0<p.rules.length then 8 else 0) else 7
def firstP:Nat->List V.Pass->Int×Int
 | _,[]=>(0,0)
 | k,p::l=>if passE p=0 then firstP (k+1) l else (passE p,(k:Int))
def wrongF (s:V.Script):Int×Int :=
 if s.has=true/\¬S.wrongE s.only=0 then (S.wrongE s.only,0) else if 60<s.passes.length then (5,0) else firstP 0 s.passes
theorem zf9 {l:List V.Pass}{k:Nat}{p:V.Pass}(h:l[k]?=some p):firstP k (l.drop k)=if passE p=0 then firstP (k+1) (l.drop (k+1)) else (passE p,(k:Int)):=by
 have hlt:=(qL.1 h).1;rw[List.drop_eq_getElem_cons hlt];have:l[k]=p:=by rw[List.getElem?_eq_getElem hlt] at h;exact Option.some.inj h
 rw[this];rfl
theorem zf8 {l:List V.Pass}:∀ {k:Nat},(firstP k l).1=0->(∀p∈l,passE p=0)/\firstP k l=(0,0):=by
 induction l with
 | nil=>intro k _;exact⟨fun p hp=>by (cases hp),rfl⟩
 | cons x l ih =>
  intro k h;rw[firstP] at h ⊢
  by_cases hx:passE x=0
  ·rw[if_pos hx] at h ⊢;refine⟨fun p hp=> ?_,(ih h).2⟩;rcases List.mem_cons.1 hp with rfl | hp
   ·exact hx
   ·exact(ih h).1 p hp
  ·rw[if_neg hx] at h;exact absurd h hx
theorem zjs {s:V.Script}(h:(wrongF s).1=0):(s.has=true->S.wrongE s.only=0)/\s.passes.length<=60/\(∀p∈s.passes,passE p=0)/\wrongF s=(0,0):=by
 unfold wrongF at h ⊢
 by_cases h1:s.has=true/\¬S.wrongE s.only=0
 ·rw[if_pos h1] at h;exact absurd h h1.2
 ·rw[if_neg h1] at h ⊢
  by_cases h2:60<s.passes.length
  ·rw[if_pos h2] at h;exact absurd h (by decide)
  ·rw[if_neg h2] at h ⊢;refine⟨fun hh=>Classical.byContradiction fun h3=>h1 ⟨hh,h3⟩,by omega,(zf8 h).1,(zf8 h).2⟩
abbrev Pl:=List K.Rule->List Int->List Int×Int
def passF (pl:Pl) (p:V.Pass) (x:List Int):List Int×Int :=
 if p.name.toList= [] then pl p.rules x
 else if p.name.toList= [117,112,112,101,114] then (x.map up,0)
 else if p.name.toList= [108,111,119,101,114] then (x.map low,0)
 else if p.name.toList= [110,117,108,108] then (x,0) else ([],0)
def thru (pl:Pl):Nat->List V.Pass->List Int->List Int×Int×Int
 | _,[],x=>(x,0,0)
 | k,p::l,x=>if (passF pl p x).2=0 then thru pl (k+1) l (passF pl p x).1 else ([],(passF pl p x).2,(k:Int))
theorem zpl {pl:Pl}{l:List V.Pass}{k:Nat}{p:V.Pass}{x:List Int}(h:l[k]?=some p):thru pl k (l.drop k) x=if (passF pl p x).2=0 then thru pl (k+1) (l.drop (k+1)) (passF pl p x).1 else ([],(passF pl p x).2,(k:Int)):=by
 have hlt:=(qL.1 h).1;rw[List.drop_eq_getElem_cons hlt];have:l[k]=p:=by rw[List.getElem?_eq_getElem hlt] at h;exact Option.some.inj h
 rw[this];rfl
def Tx (x:List Int):Prop:=x.length<=4000/\K.allR x=true
theorem Tx.nil:Tx []:=⟨by simp,rfl⟩
theorem zpm {t:List Int}:K.textE t=0↔Tx t:=by
 unfold K.textE Tx
 by_cases h:4000<t.length
 ·rw[if_pos h];exact⟨fun h=>absurd h (by decide),fun h=>by omega⟩
 ·rw[if_neg h];cases K.allR t <;> simp <;> omega
theorem Tx.sub {x y:List Int}(h:Tx x)(hl:y.length<=x.length)(hs:∀r∈y,r∈x):Tx y :=
 ⟨Nat.le_trans hl h.1,List.all_eq_true.2 fun r hr=>List.all_eq_true.1 h.2 r (hs r hr)⟩
theorem Tx.range {x:List Int}(h:Tx x):∀r∈x,0<=r/\r<=1114111:=fun r hr=>by
 have:=List.all_eq_true.1 h.2 r hr;simp[M.right] at this;omega
theorem zsm {r:Int}(h:M.right r=true):M.right (up r)=true:=by
 simp[M.right] at h ⊢;unfold up;have:=zbw r;omega
theorem zq4 {r:Int}(h:M.right r=true):M.right (low r)=true:=by
 simp[M.right] at h ⊢;unfold low;have:=zbw (r+32);have:=zbw (r+80)
 repeat' split
 all_goals omega
theorem Tx.map {x:List Int}{f:Int->Int}(hf:∀r,M.right r=true->M.right (f r)=true)(h:Tx x):Tx (x.map f) :=
 ⟨by simpa using h.1,List.all_eq_true.2 fun r hr=>by
  obtain⟨q,hq,rfl⟩:=List.mem_map.1 hr
  exact hf q (List.all_eq_true.1 h.2 q hq)⟩
theorem zl4 {pl:Pl}(hpl:∀l x,Tx (pl l x).1){p:V.Pass}{x:List Int}(hx:Tx x):Tx (passF pl p x).1:=by
 unfold passF
 repeat' split
 ·exact hpl _ _
 ·exact hx.map fun r=>zsm
 ·exact hx.map fun r=>zq4
 ·exact hx
 ·exact Tx.nil
theorem zpk {pl:Pl}(hpl:∀l x,Tx (pl l x).1){l:List V.Pass}:∀ {k:Nat} {x:List Int},Tx x->Tx (thru pl k l x).1:=by
 induction l with
 | nil=>intro k x hx;exact hx
 | cons p l ih =>
  intro k x hx;rw[thru];split
  ·exact ih (zl4 hpl hx)
  ·exact Tx.nil
def joinP (r:Int):List (List Int×Bool)->List (List Int×Bool)
 | (x,true)::q=>(r::x,true)::q
 | q=>([r],true)::q
def cut (P:Int->Bool):List Int->List (List Int×Bool)
 | []=> []
 | r::t=>if P r=true then joinP r (cut P t) else ([r],false)::cut P t
theorem zrt {P:Int->Bool}{r:Int}{t:List Int}(h:P r=false):cut P (r::t)=([r],false)::cut P t:=by
 rw[cut,if_neg (by simp[h])]
theorem zue {P:Int->Bool}{b:List Int}(hb:∀r,b.head?=some r->P r=false):∀(r:Int),joinP r (cut P b)=([r],true)::cut P b:=by
 intro r;cases b with
 | nil=>rfl
 | cons y t=>rw[zrt (hb y rfl)];rfl
theorem zuy {P:Int->Bool}{b:List Int}(hb:∀r,b.head?=some r->P r=false):∀ {a:List Int},a≠ []->(∀r∈a,P r=true)->cut P (a++b)=(a,true)::cut P b:=by
 intro a
 induction a with
 | nil=>intro h;exact absurd rfl h
 | cons r a ih =>
  intro _ h;rw[List.cons_append,cut,if_pos (h r List.mem_cons_self)]
  by_cases ha:a= []
  ·subst ha;exact zue hb r
  ·rw[ih ha fun x hx=>h x (List.mem_cons_of_mem _ hx)];rfl
def snocP (m:Bool) (r:Int):List (List Int×Bool)->List (List Int×Bool)
 | []=> [([r],m)]
 | [(x,true)]=>if m=true then [(x++ [r],true)] else [(x,true),([r],m)]
 | q::l=>q::snocP m r l
theorem zb9 {m:Bool}{r:Int}{q:List Int×Bool}{l:List (List Int×Bool)}(hl:l≠ []):snocP m r (q::l)=q::snocP m r l:=by
 obtain⟨x,b⟩:=q;cases l with
 | nil=>exact absurd rfl hl
 | cons y l=>cases b <;> rfl
theorem ztv {y:Int}{l:List (List Int×Bool)}:joinP y l≠ []:=by
 unfold joinP;split <;> simp
theorem zpu {m:Bool}{r y:Int}{l:List (List Int×Bool)}(hl:l≠ []):snocP m r (joinP y l)=joinP y (snocP m r l):=by
 match l,hl with
 | (x,true)::q,_ =>
  cases q with
  | nil =>
   cases m <;> rfl
  | cons z q =>
   rw[zb9 (by simp)];show snocP m r ((y::x,true)::z::q)=_;rw[zb9 (by simp)];rfl
 | (x,false)::q,_ =>
  show snocP m r (([y],true)::(x,false)::q)=_;rw[zb9 (by simp)];cases q with
  | nil=>rfl
  | cons z q=>rw[zb9 (by simp)];rfl
theorem zux {P:Int->Bool}{r:Int}{t:List Int}:cut P (r::t)≠ []:=by
 rw[cut];split
 ·exact ztv
 ·simp
theorem zmh {P:Int->Bool}{r:Int}:∀ {t:List Int},cut P (t++ [r])=snocP (P r) r (cut P t):=by
 intro t
 induction t with
 | nil =>
  show cut P [r]= [([r],P r)];rw[cut];cases h:P r <;> rfl
 | cons y t ih =>
  rw[List.cons_append,cut,ih];cases t with
  | nil =>
   show (if P y=true then joinP y [([r],P r)] else ([y],false):: [([r],P r)])=snocP (P r) r (cut P [y]);rw[cut];cases h1:P y <;> cases h2:P r <;> rfl
  | cons z t =>
   conv=>rhs;rw[cut]
   split
   ·rw[zpu zux]
   ·rw[zb9 zux]
def runP (pl:Pl) (ps:List V.Pass):List (List Int×Bool)->List Int->List Int×Int×Int
 | [],out=>(out,0,0)
 | q::l,out=>if q.2=true then (if (thru pl 0 ps q.1).2.1=0 then runP pl ps l (out++(thru pl 0 ps q.1).1) else ([],(thru pl 0 ps q.1).2)) else runP pl ps l (out++q.1)
def inS (s:V.Script) (r:Int):Bool:= !s.has||S.memb s.only r
def goF (pl:Pl) (s:V.Script) (t:List Int):List Int×Int×Int :=
 if (wrongF s).1=0 then
  if K.textE t=0 then
   if (runP pl s.passes (cut (inS s) t) []).2.1=0 then
    if 4000<(runP pl s.passes (cut (inS s) t) []).1.length then ([],4,(s.passes.length:Int)) else ((runP pl s.passes (cut (inS s) t) []).1,0,0)
   else ([],(runP pl s.passes (cut (inS s) t) []).2)
  else ([],K.textE t,0)
 else ([],wrongF s)
end Cn
namespace K
open Go.Proofs.YthnmmmkeamcfkaaGreatDoor.S
def headS (r:Rule):List Sp:=r.source.headD []
def firstsL (l:List Rule):List Sp:=l.flatMap headS
end K
section
open Go.RowKit Go.Shelf
theorem znt (r:Int)(w:World) :
  Calls prog 121 #[.int .i32 r] w fun e w'=>e= .returned (.bool (M.right r))/\w'=w:=by
 go_enter func121,ntmps121
 go_wp2
 all_goals go_ret
 all_goals refine⟨L.zaj ?_,rfl⟩
 all_goals (unfold M.right;rw[Bool.eq_iff_iff];simp;try omega)
theorem zkm (r:Int)(w:World) :
  Calls prog 120 #[.int .i32 r] w fun e w'=>e= .returned (.bool (!M.right r))/\w'=w:=by
 go_enter func120,ntmps120
 go_wp2_with (go_at_call 121;refine(znt r _).mono ?_;rintro e w' ⟨rfl,rfl⟩)
 go_ret;exact⟨rfl,rfl⟩
theorem znv (w:World)(v:Value)(l:List Int)(R:L.Rd w v .i32 l)(hl:l.length<=4000) :
  Calls prog 65 #[v,.func (.func 120) #[] #[]] w fun e w'=>∃i:Int,e= .returned (.int .i64 i)/\decide (0<=i)= !K.allR l/\Below w.heap.size w w':=by
 obtain⟨ao,cap,rfl,hn,hc⟩:=R;have eg:∀args w,(callFunc 120 args).run prog w= .ok (.enter 120 args) w:=enters_of func120 (by kernel_rfl) rfl
 go_enter func65,ntmps65
 go_wp2
 go_loopw [8] (fun i wr=>∃k:Nat,k<=l.length/\i= .int .i64 k/\Hid (K.allR (l.take k)=true)/\Hid (Below w.heap.size w wr)) (fun i _=>l.length - (intOf i).toNat)
 case atStart=>exact⟨0,Nat.zero_le _,rfl,by show K.allR (l.take 0)=true;simp[K.allR],qR w⟩
 case round =>
  obtain⟨k,hk,rfl,HW,HB⟩:=hrel
  by_cases hlt:k<l.length
  ·obtain⟨b,off,rfl,hcell⟩:=hc (by intro h;subst h;simp at hlt);obtain⟨x,hx⟩:∃x,l[k]?=some x:=⟨l[k],by simp[hlt]⟩;have c1:=hcell k x hx;have hb:=L.block_lt c1;rw[<- HB.out.cell (p:=⟨b,_,none⟩) hb] at c1;have HX:=qH hx;have hsz:=HB.out.size;have hob:=zkm x wr;clear hx hcell hc;cases hbad:M.right x with
   | false =>
    rw[hbad] at hob;have HR:=qH hbad;clear hbad
    go_wp2_with fail
    refine hob.mono ?_;rintro e w1 ⟨rfl,rfl⟩;go_wp2;go_ret;refine⟨k,rfl,?_,HB.out⟩;have:K.allR l=false:=List.all_eq_false.2 ⟨_,List.mem_of_getElem? HX.out,by rw[HR.out];simp⟩;rw[this];simp
   | true =>
    rw[hbad] at hob;have HR:=qH hbad;clear hbad
    go_wp2_with fail
    refine hob.mono ?_;rintro e w1 ⟨rfl,rfl⟩;go_wp2
    go_roundw
    case rel =>
     refine⟨k+1,by omega,by go_num,?_,HB.out⟩;show K.allR (l.take (k+1))=true;have h:=HW.out;unfold K.allR at h ⊢;rw[List.take_add_one,HX.out,List.all_append,h];simp[HR.out]
    case measure=>simp[intOf];omega
  ·go_wp2;go_ret
   refine⟨-1,rfl,?_,HB.out⟩;have h:=HW.out;rw[List.take_of_length_le (by omega)] at h;rw[h];rfl
theorem zhx (w:World)(v:Value)(l:List Int)(R:L.Rd w v .i32 l)(hl:l.length<=4000) :
  Calls prog 119 #[v,.func (.func 120) #[] #[]] w fun e w'=>e= .returned (.bool (!K.allR l))/\Below w.heap.size w w':=by
 have h:=znv w v l R hl;obtain⟨ao,cap,rfl,hn,hc⟩:=R;clear hc
 go_enter func119,ntmps119
 go_wp2_with fail
 refine h.mono ?_;rintro e w1 ⟨i,rfl,hi,hb⟩;have HI:Hid _:=hi;clear hi;go_wp2;go_ret;exact⟨L.zaj HI.out,hb⟩
theorem zdz (w:World)(v:Value)(l:List Int)(R:L.Rd w v .i32 l)(hl:l.length<=4000) :
  Calls prog 64 #[v] w fun e w'=>e= .returned (.bool (K.allR l))/\Below w.heap.size w w':=by
 have h:=zhx w v l R hl;obtain⟨ao,cap,rfl,hn,hc⟩:=R;clear hc
 go_enter func64,ntmps64
 go_wp2_with fail
 refine h.mono ?_;rintro e w1 ⟨rfl,hb⟩;go_wp2;go_ret;exact⟨by simp,hb⟩
theorem zf0 (w:World)(v:Value)(l:List Int)(R:L.Rd w v .i32 l)(hl:l.length<=140737488355328) :
  Calls prog 27 #[v] w fun e w'=>e= .returned (.int .i64 (K.textE l))/\Below w.heap.size w w':=by
 have h:=zdz w v l R;obtain⟨ao,cap,rfl,hn,hc⟩:=R;clear hc;unfold K.textE
 by_cases h4:4000<l.length
 ·rw[if_pos h4]
  go_enter func27,ntmps27
  go_wp2;go_ret
  exact⟨rfl,qR w⟩
 ·rw[if_neg h4];have h':=h (by omega);clear h;generalize K.allR l=bb at h' ⊢;cases bb with
  | true =>
   go_enter func27,ntmps27
   go_wp2_with fail
   refine h'.mono ?_;rintro e w1 ⟨rfl,hb⟩;go_wp2;go_ret;exact⟨rfl,hb⟩
  | false =>
   go_enter func27,ntmps27
   go_wp2_with fail
   refine h'.mono ?_;rintro e w1 ⟨rfl,hb⟩;go_wp2;go_ret;exact⟨rfl,hb⟩
end
section
open Go.RowKit Go.Shelf
theorem zb8 (w:World)(v:Value)(l:List (List S.Sp))(R:K.Ss w v l) :
  Calls prog 123 #[v] w fun e w'=>e= .returned (.int .i64 (K.setsE l))/\Below w.heap.size w w':=by
 have HR0:=qH R;have hfew:=R.few;obtain⟨ao,cap,rfl⟩:=R.len;clear R;unfold K.setsE
 by_cases hbig:20<l.length
 ·rw[if_pos hbig]
  go_enter func123,ntmps123
  go_wp2;go_ret
  exact⟨rfl,qR w⟩
 ·rw[if_neg hbig]
  go_enter func123,ntmps123
  go_wp2
  go_loopw [11] (fun i wr=>∃k:Nat,k<=l.length/\i= .int .i64 k/\Hid (K.firstE l=K.firstE (l.drop k))/\Hid (Below w.heap.size w wr)) (fun i _=>l.length - (intOf i).toNat)
  case atStart=>exact⟨0,Nat.zero_le _,rfl,rfl,qR w⟩
  case round =>
   obtain⟨k,hk,rfl,HW,HB⟩:=hrel
   by_cases hlt:k<l.length
   ·obtain⟨s,hs⟩:∃s,l[k]?=some s:=⟨l[k],by simp[hlt]⟩;obtain⟨b,off,so,sc,rfl,c1,R1,F1⟩:=(HR0.out.below HB.out).at hs;have HD:=K.zk2 hs;rw[<- HW.out] at HD;have hsz:=HB.out.size;have hw:=zby wr _ s R1 F1;clear R1 F1 hs;obtain⟨e0,he0⟩:∃e0,e0=S.wrongE s:=⟨_,rfl⟩;rw[<- he0] at HD hw;have HD2:=qH HD;clear HD he0
    by_cases h0:e0=0
    ·subst h0
     go_wp2_with fail
     refine hw.mono ?_;rintro e w1 ⟨rfl,hb⟩;have HB1:=qH <| HB.out.trans (hb.mono hsz);go_wp2
     go_roundw
     case rel=>exact⟨k+1,by omega,by go_num,by show _=_;have:=HD2.out;simpa using this,HB1.out⟩
     case measure=>simp[intOf];omega
    ·go_wp2_with fail
     refine hw.mono ?_;rintro e w1 ⟨rfl,hb⟩;have HB1:=qH <| HB.out.trans (hb.mono hsz);go_wp2;go_ret;exact⟨by have h1:=HD2.out;rw[if_neg h0] at h1;rw[h1];rfl,HB1.out⟩
   ·go_wp2;go_ret
    refine⟨?_,HB.out⟩;rw[HW.out,List.drop_eq_nil_of_le (by omega)];rfl
theorem zny (w:World)(v:Value)(r:K.Rule)(R:K.RuIs w v r) :
  Calls prog 74 #[v] w fun e w'=>e= .returned (.int .i64 (K.ruleE r))/\Below w.heap.size w w':=by
 obtain⟨bo,bc,so,sc,ao,ac,tgo,tc,rfl,R1,R2,R3,R4,hl4,hcur⟩:=R;have f2:=R2.few;have hI1:=hcur.1;have hI2:=hcur.2;have B2:=qH <| fun o1 o2=>((qR w).alloc qN o1).alloc (by simp) o2
 have C1:=qH <| fun X hX=>zb8 X _ _ (R1.below hX)
 have C2:=qH <| fun X hX=>zb8 X _ _ (R2.below hX)
 have C3:=qH <| fun X hX=>zb8 X _ _ (R3.below hX)
 have C4:Hid (r.target.length<=20->∀X,Below w.heap.size w X->Calls prog 64 #[.slice tgo r.target.length tc] X fun e w'=>e= .returned (.bool (K.allR r.target))/\Below X.heap.size X w'):=fun h X hX=>zdz X _ _ (R4.below hX qN) (by omega)
 obtain⟨o,HO⟩:∃o,Hid (K.ruleE r=o):=⟨_,rfl⟩;rw[HO.out];unfold K.ruleE K.tailE at HO;obtain⟨e1,he1⟩:∃e1,e1=K.setsE r.before:=⟨_,rfl⟩;obtain⟨e2,he2⟩:∃e2,e2=K.setsE r.source:=⟨_,rfl⟩;obtain⟨e3,he3⟩:∃e3,e3=K.setsE r.after:=⟨_,rfl⟩;obtain⟨e4,he4⟩:∃e4,e4=K.allR r.target:=⟨_,rfl⟩;rw[<- he1,<- he2,<- he3,<- he4] at HO;rw[<- he1] at C1;rw[<- he2] at C2;rw[<- he3] at C3;rw[<- he4] at C4;clear he1 he2 he3 he4 R1 R2 R3 R4 hcur;obtain⟨st,fi,be,sou,af,ta,cu⟩:=r;simp only at *
 go_enter func74,ntmps74
 go_wp2;refine wp_loop_rounds 4 ?_
 rw[rounds_succ]
 go_wp2_with fail
 refine(C1.out _ (B2.out _ _)).mono ?_;rintro e w1 ⟨rfl,hb⟩;obtain⟨h1,h2,HB1,hs1⟩:=K.zar hb;have HB1':=qH HB1;have HH1:Hid (w1.heap[w.heap.size]?=some (.cells #[.bool st,.bool fi,.slice bo be.length bc,.slice so sou.length sc,.slice ao af.length ac,.slice tgo ta.length tc,.int .i64 cu] 50)/\w1.heap[w.heap.size+1]?=some (.cells #[.slice bo be.length bc,.slice so sou.length sc,.slice ao af.length ac] 48)):=⟨h1,h2⟩;clear hb HB1 h1 h2
 by_cases q1:e1=0
 ·subst q1;have d2:=K.zad (i:=1) HH1.out.2 rfl;go_wp2;rw[rounds_succ]
  go_wp2_with fail
  refine(C2.out _ HB1'.out).mono ?_;rintro e w2 ⟨rfl,hb⟩;have HB2:=qH <| HB1'.out.trans (hb.mono (by omega));have HH2:Hid (w2.heap[w.heap.size]?=some (.cells #[.bool st,.bool fi,.slice bo be.length bc,.slice so sou.length sc,.slice ao af.length ac,.slice tgo ta.length tc,.int .i64 cu] 50)/\w2.heap[w.heap.size+1]?=some (.cells #[.slice bo be.length bc,.slice so sou.length sc,.slice ao af.length ac] 48)):=⟨K.zae HH1.out.1 hb,K.zae HH1.out.2 hb⟩;have hs2:=hb.size;clear hb d2
  by_cases q2:e2=0
  ·subst q2;have d3:=K.zad (i:=2) HH2.out.2 rfl;go_wp2;rw[rounds_succ]
   go_wp2_with fail
   refine(C3.out _ HB2.out).mono ?_;rintro e w3 ⟨rfl,hb⟩;have HB3:=qH <| HB2.out.trans (hb.mono (by omega));have HH3:=qH <| K.zae HH2.out.1 hb;have hs3:=hb.size;clear hb d3
   by_cases q3:e3=0
   ·subst q3;have d3:=K.zad (i:=3) HH3.out rfl;have d5:=K.zad (i:=5) HH3.out rfl;have d6:=K.zad (i:=6) HH3.out rfl
    have HO2:Hid ((if sou.length=0 then (6:Int) else if 20<ta.length then 5 else if e4=false then 3 else if cu<0 then 3 else if (ta.length:Int)<cu then 3 else 0)=o):=by
     have h:=HO.out;rw[if_neg (by simp),if_neg (by simp),if_neg (by simp)] at h;exact h
    go_wp2;rw[rounds_succ]
    by_cases q4:sou.length=0
    ·go_wp2;go_ret
     exact⟨by rw[<- HO2.out,if_pos q4];rfl,HB3.out⟩
    ·by_cases q5:20<ta.length
     ·go_wp2;go_ret
      exact⟨by rw[<- HO2.out,if_neg q4,if_pos q5];rfl,HB3.out⟩
     ·have hC4:=C4.out (by omega) w3 HB3.out
      go_wp2_with fail
      refine hC4.mono ?_;rintro e w4 ⟨rfl,hb⟩;have HB4:=qH <| HB3.out.trans (hb.mono (by omega));have HH4:=K.zae HH3.out hb;have g5:=K.zad (i:=5) HH4 rfl;have g6:=K.zad (i:=6) HH4 rfl;clear hb HH4 d3 d5 d6
      have HO3:Hid ((if e4=false then (3:Int) else if cu<0 then 3 else if (ta.length:Int)<cu then 3 else 0)=o):=by
       have h:=HO2.out;rw[if_neg q4,if_neg q5] at h;exact h
      cases e4 with
      | false =>
       go_wp2;go_ret
       exact⟨by rw[<- HO3.out];rfl,HB4.out⟩
      | true =>
       by_cases q6:cu<0
       ·go_wp2;go_ret
        exact⟨by rw[<- HO3.out,if_neg (by simp),if_pos q6];rfl,HB4.out⟩
       ·by_cases q7:(ta.length:Int)<cu
        ·go_wp2;go_ret
         exact⟨by rw[<- HO3.out,if_neg (by simp),if_neg (by omega),if_pos (by omega)];rfl,HB4.out⟩
        ·go_wp2;go_ret
         exact⟨by rw[<- HO3.out,if_neg (by simp),if_neg (by omega),if_neg (by omega)];rfl,HB4.out⟩
   ·go_wp2;go_ret
    exact⟨by rw[<- HO.out,if_neg (by simp),if_neg (by simp),if_pos q3];rfl,HB3.out⟩
  ·go_wp2;go_ret
   exact⟨by rw[<- HO.out,if_neg (by simp),if_pos q2];rfl,HB2.out⟩
 ·go_wp2;go_ret
  exact⟨by rw[<- HO.out,if_pos q1];rfl,HB1'.out⟩
