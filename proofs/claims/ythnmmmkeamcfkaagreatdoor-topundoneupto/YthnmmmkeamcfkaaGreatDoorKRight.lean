import Derived.Test.YthnmmmkeamcfkaaGreatDoorTDecode
import Derived.Defers
import Derived.Recover
set_option maxHeartbeats 0
namespace Go.Proofs.YthnmmmkeamcfkaaGreatDoor
open Go.Proofs.Tryz
section
open Go.RowKit
set_option maxRecDepth 20000
def R.readE (o:T.Out (List R.Part)) (w:World) (e:Ending) (w':World):Prop :=
 match o with
 | .ok t _=>∃v,e= .returned (.tuple #[v,.agg #[.int .i64 0,.int .i64 0]])/\R.RowP w.heap.size w' v t/\t.length<=200/\Below w.heap.size w w'
 | .bad er q=>e= .returned (.tuple #[.slice none 0 0,.agg #[.int .i64 er,.int .i64 q]])/\Below w.heap.size w w'
def R.faultV (er:Int) (q:Nat):Value:= .iface 38 (.agg #[.int .i64 er,.int .i64 q])
theorem zkg (x:Value)(w:World):(Instr.typeAssert (.iface 38 x) 20 38 true).run prog w= .ok (.tuple #[x,.bool true]) w:=by kernel_rfl
theorem zkf (w:World):(Instr.typeAssert .nilIface 20 38 true).run prog w= .ok (.tuple #[.agg #[.int .i64 0,.int .i64 0],.bool false]) w:=by kernel_rfl
theorem zdv (bs bf:Nat)(er:Int)(q:Nat)(older:List PanicEntry)(w:World)(vs f1 f2:Value)(hs:S.Bx w bs 72 vs)(hf:w.heap[bf]?=some (.cells #[f1,f2] 38))(hne:bs≠bf) :
  CallsD prog 57 #[.pointer (some ⟨bs,0,none⟩),.pointer (some ⟨bf,0,none⟩)] (.panicking ({ v:=R.faultV er q,recovered:=false }::older)) w fun e u' w' =>
   e= .returned (.tuple #[])/\u'= .panicking ({ v:=R.faultV er q,recovered:=true }::older)/\S.Bx w' bs 72 (.slice none 0 0)/\w'.heap[bf]?=some (.cells #[.int .i64 er,.int .i64 q] 38)/\(∀B,B<=bs->B<=bf->Below B w w'):=by
 have hta:=fun x w=>zkg x w
 have hrep:Array.replicate 9 undef=#[undef,undef,undef,undef,undef,undef,undef,undef,undef]:=rfl;refine callsD_of_wpS func57 rfl fun c₀ cs hu=> ?_
 apply wpS_seq;apply wpS_region;simp[wpOpsS,go_sem,recoverD,hu,ntmps57,Exit.thenS,R.faultV,hrep,hta];refine wpS_of_wp ?_;have bW:=(qR w).alloc qN (.cells #[.int .i64 er,.int .i64 q] 38);have hx:=zcf (heap_alloc_new w (.cells #[.int .i64 er,.int .i64 q] 38));have hs':S.Bx _ bs 72 vs:=hs.below bW hs.lt;have hf':(w.alloc (.cells #[.int .i64 er,.int .i64 q] 38)).heap[bf]?=some (.cells #[f1,f2] 38):=by rw[bW.block bf (qA.1 hf).1];exact hf
 have hl1:=hs.lt;have hl2:=(qA.1 hf).1;have n1:¬w.heap.size=bs:=by omega
 have n2:¬w.heap.size=bf:=by omega
 have hsc:=hs'.cell;have hsf:=hs'.free;have hfc:=zcf hf';have HS:Hid (S.Bx _ bs 72 vs):=hs';have HF:Hid _:=hf';have HB:Hid (∀B,B<=w.heap.size->Below B w (w.alloc (.cells #[.int .i64 er,.int .i64 q] 38))):=fun B hB=>bW.mono hB
 obtain⟨x0,x1,_,_⟩:=hx;obtain⟨z0,z1,z2,z3⟩:=hfc;generalize w.alloc (.cells #[.int .i64 er,.int .i64 q] 38)=W at *;clear hs' hf' hs hf bW;go_wp2
 go_region
 have hA1:=HS.out.set (.slice none 0 0);have hF1:(W.setCell ⟨bs,0,none⟩ (.slice none 0 0)).heap[bf]?=some (.cells #[f1,f2] 38):=by rw[heap_setCell_other _ ⟨bs,0,none⟩ bf _ (Ne.symm hne)];exact HF.out
 have hF2:=zdp _ bf f1 f2 (.int .i64 er) (.int .i64 q) 38 hF1
 have hA2:S.Bx (((W.setCell ⟨bs,0,none⟩ (.slice none 0 0)).setCell ⟨bf,0,none⟩ (.int .i64 er)).setCell ⟨bf,1,none⟩ (.int .i64 q)).drew bs 72 (.slice none 0 0):=by
  show _=_;show (((W.setCell ⟨bs,0,none⟩ (.slice none 0 0)).setCell ⟨bf,0,none⟩ (.int .i64 er)).setCell ⟨bf,1,none⟩ (.int .i64 q)).heap[bs]?=_;rw[heap_setCell_other _ ⟨bf,1,none⟩ bs _ hne,heap_setCell_other _ ⟨bf,0,none⟩ bs _ hne];exact hA1
 have hB2:∀B,B<=bs->B<=bf->Below B w (((W.setCell ⟨bs,0,none⟩ (.slice none 0 0)).setCell ⟨bf,0,none⟩ (.int .i64 er)).setCell ⟨bf,1,none⟩ (.int .i64 q)).drew:=fun B h1 h2=>((((HB.out B (by omega)).setCell (p:=⟨bs,0,none⟩) h1 _).setCell (p:=⟨bf,0,none⟩) h2 _).setCell (p:=⟨bf,1,none⟩) h2 _).drew
 have hF3:(((W.setCell ⟨bs,0,none⟩ (.slice none 0 0)).setCell ⟨bf,0,none⟩ (.int .i64 er)).setCell ⟨bf,1,none⟩ (.int .i64 q)).drew.heap[bf]?=some (.cells #[.int .i64 er,.int .i64 q] 38):=hF2;generalize (((W.setCell ⟨bs,0,none⟩ (.slice none 0 0)).setCell ⟨bf,0,none⟩ (.int .i64 er)).setCell ⟨bf,1,none⟩ (.int .i64 q)).drew=X at hA2 hB2 hF3 ⊢;change bodyPostS prog Tryz.f57 c₀ cs _ Exit.normal _ _ X;simp[bodyPostS,results,results57];exact⟨hA2,hF3,hB2⟩
theorem zkd (ps pf:Addr)(w:World) :
  CallsD prog 57 #[.pointer (some ps),.pointer (some pf)] .returning w fun e u' w' =>
   e= .returned (.tuple #[])/\u'= .returning/\∃o,w'=w.alloc o:=by
 have hta:=fun w=>zkf w
 have hrep:Array.replicate 9 undef=#[undef,undef,undef,undef,undef,undef,undef,undef,undef]:=rfl;refine callsD_of_wpS func57 rfl fun c₀ cs hu=> ?_
 apply wpS_seq;apply wpS_region;simp[wpOpsS,go_sem,recoverD,hu,ntmps57,Exit.thenS,hrep,hta];refine wpS_of_wp ?_;go_wp2;cases c₀
 simp_all[bodyPostS,results,results57]
 exact⟨_,rfl⟩
theorem zfn {fn:Func}{p u:Tmp}(h:fn.results=#[.cell p 72,.cell u 38])(tmps:Array Value)(w:World)(bs bf:Nat)(v y1 y2:Value)(hs:S.Bx w bs 72 v)(hf:w.heap[bf]?=some (.cells #[y1,y2] 38))
  (hp:tmps.getD p undef= .pointer (some ⟨bs,0,none⟩)) (hu:tmps.getD u undef= .pointer (some ⟨bf,0,none⟩)):(results fn tmps).run prog w= .ok (.tuple #[v,.agg #[y1,y2]]) w:=by
 have hl:=run_loadVar_row (P:=prog) w bf 38 38 #[y1,y2] (0,0) _ hf underlying38 rfl (by kernel_rfl);have hc:=hs.cell
 have hl2:(loadVar 72 ⟨bs,0,none⟩).run prog w= .ok v w:=by
  simp[go_sem,hc]
 have e:(results fn tmps).run prog w=((asAddr (tmps.getD p undef)).run prog w).andThen fun a w₁ => ((loadVar 72 a).run prog w₁).andThen fun x w₂ => ((asAddr (tmps.getD u undef)).run prog w₂).andThen fun b w₃ => ((loadVar 38 b).run prog w₃).andThen fun y w₄ => .ok (.tuple #[x,y]) w₄ := by
  simp only[results,h];simp[Sem.run_bind,Result.andThen]
 rw[e,hp,hu];simp[asAddr,Result.andThen,hl,hl2]
theorem zfo (hK:T.ClassOk)(s:ByteArray)(hs:s.size<=1099511627776)(w:World) :
  Calls prog 24 #[.string s] w (R.readE (R.read (M.rn s)) w):=by
 have hmf:∀(fn:Fn) (first cap:Array Value) (w:World),(Instr.makeFunc fn first cap).run prog w= .ok (.func fn first cap) w:=fun _ _ _ _=>rfl
 obtain⟨o,HO⟩:∃o,Hid (R.read (M.rn s)=o):=⟨_,rfl⟩;rw[HO.out]
 go_enter_defers func24,ntmps24
 go_wp2_with fail
 have HX0:Hid (S.Bx (w.alloc (.cells #[.slice none 0 0] 72)) w.heap.size 72 (.slice none 0 0)):=S.Bx.new w _ _;have bA:=(qR w).alloc qN (.cells #[.slice none 0 0] 72);have bB:Below w.heap.size w ((w.alloc (.cells #[.slice none 0 0] 72)).alloc (.cells #[.int .i64 0,.int .i64 0] 38)):=bA.alloc (by simp) _;have hsz:(w.alloc (.cells #[.slice none 0 0] 72)).heap.size=w.heap.size+1:=by simp
 have HX:S.Bx ((w.alloc (.cells #[.slice none 0 0] 72)).alloc (.cells #[.int .i64 0,.int .i64 0] 38)) w.heap.size 72 (.slice none 0 0):=HX0.out.below ((qR _).alloc qN _) (by rw[hsz];omega)
 have HFb:((w.alloc (.cells #[.slice none 0 0] 72)).alloc (.cells #[.int .i64 0,.int .i64 0] 38)).heap[w.heap.size+1]?=some (.cells #[.int .i64 0,.int .i64 0] 38):=by
  have:=heap_alloc_new (w.alloc (.cells #[.slice none 0 0] 72)) (.cells #[.int .i64 0,.int .i64 0] 38);rw[hsz] at this;exact this
 refine(zha s _ hs).mono ?_;generalize (w.alloc (.cells #[.slice none 0 0] 72)).alloc (.cells #[.int .i64 0,.int .i64 0] 38)=W2 at bB HX HFb;clear HX0 bA hsz;rintro e w3 ⟨v,rfl,own,b3⟩;have hX3:=HX.below b3 HX.lt;have hF3:w3.heap[w.heap.size+1]?=some (.cells #[.int .i64 0,.int .i64 0] 38):=by rw[b3.block _ (qA.1 HFb).1];exact HFb
 have B3:=bB.trans (b3.mono bB.size);have hrt:=zlx s;generalize M.rn s=l at own HO hrt;have bW:=(qR w3).alloc qN (.cells #[v,.int .i64 0] 128);have HX4:=qH <| hX3.below bW hX3.lt
 have HF4:Hid ((w3.alloc (.cells #[v,.int .i64 0] 128)).heap[w.heap.size+1]?=some (.cells #[.int .i64 0,.int .i64 0] 38)):=by
  show _=_;rw[bW.block _ (qA.1 hF3).1];exact hF3
 have HB4:=qH <| B3.trans (bW.mono B3.size)
 by_cases hbig:16000<l.length
 ·obtain⟨vo,vc,hv⟩:∃vo vc,v= .slice vo l.length vc:=by
   rcases own.2 with ⟨rfl,h0⟩|⟨g,cap,cur,rfl,_⟩
   ·exact⟨none,0,by rw[h0]⟩
   ·exact⟨_,_,rfl⟩
  subst hv;clear own hX3 hF3 B3 bB HX HFb b3 bW
  go_wp2_with (go_at_call 58;refine(zav _ 4 0).mono ?_;unfold T.thrown;rintro e w5 ⟨rfl,rfl⟩)
  refine leaves_cons (f:=57) (args:=#[.pointer (some ⟨w.heap.size,0,none⟩),.pointer (some ⟨w.heap.size+1,0,none⟩)]) (by simp) (by simp[go_sem]) ?_;refine(zdv w.heap.size (w.heap.size+1) 4 0 [] _ _ _ _ HX4.out HF4.out (by omega)).mono ?_;rintro e u' w6 ⟨rfl,rfl,hA,hF,hB⟩;refine⟨_,zfn (by rfl) _ _ w.heap.size (w.heap.size+1) _ _ _ hA hF rfl rfl,?_⟩;rw[<- HO.out];unfold R.read;rw[if_pos hbig];exact⟨rfl,HB4.out.trans (hB w.heap.size qN (by omega))⟩
 ·obtain⟨ao,cap,tb,hv,CW⟩:=T.Cur.new 128 own (by omega) hrt;subst hv;have HCW:Hid _:=CW;have HNb:=qH <| (qA.1 hF3).1;clear own CW hX3 hF3 B3 bB HX HFb b3 bW
  go_wp2_with fail
  refine(ztc hK _ _ tb cap ao l HCW.out).mono ?_;generalize w3.alloc (.cells #[.slice ao l.length cap,.int .i64 0] 128)=W4 at HX4 HF4 HB4 HCW;intro e w5 h;cases hc:R.parts l with
  | bad er q =>
   rw[hc] at h;obtain⟨rfl,g5⟩:=h;have hX5:=HX4.out.grown g5 (by have:=HNb.out;simp;omega)
   have hF5:w5.heap[w.heap.size+1]?=some (.cells #[.int .i64 0,.int .i64 0] 38):=by
    rw[g5.block _ (qA.1 HF4.out).1 (by have:=HNb.out;simp;omega)];exact HF4.out
   have HB5:=qH <| Below.grown HB4.out g5 HB4.out.size (fun k hk=>by cases hk;have:=HNb.out;omega);have HX5:Hid _:=hX5;have HF5:Hid _:=hF5;have HHc:Hid _:=hc;clear hX5 hF5 g5 hc;unfold T.thrown;go_wp2;refine leaves_cons (f:=57) (args:=#[.pointer (some ⟨w.heap.size,0,none⟩),.pointer (some ⟨w.heap.size+1,0,none⟩)]) (by simp) (by simp[go_sem]) ?_;refine(zdv w.heap.size (w.heap.size+1) er q [] _ _ _ _ HX5.out HF5.out (by omega)).mono ?_;rintro e u' w6 ⟨rfl,rfl,hA,hF,hB⟩;refine⟨_,zfn (by rfl) _ _ w.heap.size (w.heap.size+1) _ _ _ hA hF rfl rfl,?_⟩;rw[<- HO.out];unfold R.read;rw[if_neg hbig,HHc.out];exact⟨rfl,HB5.out.trans (hB w.heap.size qN (by omega))⟩
  | ok t q =>
   rw[hc] at h;obtain⟨v5,rfl,⟨hr5,hl5⟩,C5,g5⟩:=h;have hX5:=HX4.out.grown g5 (by have:=HNb.out;simp;omega)
   have hF5:w5.heap[w.heap.size+1]?=some (.cells #[.int .i64 0,.int .i64 0] 38):=by
    rw[g5.block _ (qA.1 HF4.out).1 (by have:=HNb.out;simp;omega)];exact HF4.out
   have HB5:=qH <| Below.grown HB4.out g5 HB4.out.size (fun k hk=>by cases hk;have:=HNb.out;omega);have HX5:=qH hX5;have HF5:Hid _:=hF5;have HHc:Hid _:=hc;have x0:=hX5.cell;have x1:=hX5.free;obtain⟨y0,y1,y2,y3⟩:=zcf hF5;have hW4:w.heap.size+2<=W4.heap.size:=by have:=(qA.1 HF4.out).1;omega
   have HR5:=qH hr5;obtain⟨vo,vc,hv⟩:=R.Row.slice hr5;subst hv;clear hX5 hF5 g5 hc hr5 C5;go_wp2;have hne:w.heap.size≠w.heap.size+1:=by omega
   have g1:w5.grownBy (w5.setCell ⟨w.heap.size,0,none⟩ (.slice vo t.length vc)) (some w.heap.size):=R.zak _ _ _ _;have g2:(w5.setCell ⟨w.heap.size,0,none⟩ (.slice vo t.length vc)).grownBy (((w5.setCell ⟨w.heap.size,0,none⟩ (.slice vo t.length vc)).setCell ⟨w.heap.size+1,0,none⟩ (.int .i64 0)).setCell ⟨w.heap.size+1,1,none⟩ (.int .i64 0)) (some (w.heap.size+1)):=S.zaa (R.zak _ _ _ _) (R.zak _ _ _ _);have R3:=R.Row.cur (R.Row.cur HR5.out g1 (by omega)) g2 (by omega);have hF1:(w5.setCell ⟨w.heap.size,0,none⟩ (.slice vo t.length vc)).heap[w.heap.size+1]?=some (.cells #[.int .i64 0,.int .i64 0] 38):=by rw[heap_setCell_other _ ⟨w.heap.size,0,none⟩ _ _ (Ne.symm hne)];exact HF5.out
   have hF2:=zdp _ (w.heap.size+1) _ _ (.int .i64 0) (.int .i64 0) 38 hF1
   have hA2:S.Bx (((w5.setCell ⟨w.heap.size,0,none⟩ (.slice vo t.length vc)).setCell ⟨w.heap.size+1,0,none⟩ (.int .i64 0)).setCell ⟨w.heap.size+1,1,none⟩ (.int .i64 0)) w.heap.size 72 (.slice vo t.length vc):=by
    show _=_;rw[heap_setCell_other _ ⟨w.heap.size+1,1,none⟩ _ _ hne,heap_setCell_other _ ⟨w.heap.size+1,0,none⟩ _ _ hne];exact HX5.out.set (.slice vo t.length vc)
   have hB2:Below w.heap.size w (((w5.setCell ⟨w.heap.size,0,none⟩ (.slice vo t.length vc)).setCell ⟨w.heap.size+1,0,none⟩ (.int .i64 0)).setCell ⟨w.heap.size+1,1,none⟩ (.int .i64 0)):=((HB5.out.setCell (p:=⟨w.heap.size,0,none⟩) qN _).setCell (p:=⟨w.heap.size+1,0,none⟩) (Nat.le_succ _) _).setCell (p:=⟨w.heap.size+1,1,none⟩) (Nat.le_succ _) _;generalize ((w5.setCell ⟨w.heap.size,0,none⟩ (.slice vo t.length vc)).setCell ⟨w.heap.size+1,0,none⟩ (.int .i64 0)).setCell ⟨w.heap.size+1,1,none⟩ (.int .i64 0)=X at R3 hF2 hA2 hB2 ⊢;refine leaves_cons (f:=57) (args:=#[.pointer (some ⟨w.heap.size,0,none⟩),.pointer (some ⟨w.heap.size+1,0,none⟩)]) (by simp) (by simp[go_sem]) ?_;refine(zkd ⟨w.heap.size,0,none⟩ ⟨w.heap.size+1,0,none⟩ _).mono ?_;rintro e u' w6 ⟨rfl,rfl,ob,rfl⟩;have bX:=(qR X).alloc qN ob;refine⟨_,zfn (by rfl) _ _ w.heap.size (w.heap.size+1) _ _ _ (hA2.below bX hA2.lt) (by rw[bX.block _ (qA.1 hF2).1];exact hF2) rfl rfl,?_⟩;rw[<- HO.out];unfold R.read;rw[if_neg hbig,HHc.out];exact⟨_,rfl,R.Row.down (R.Row.below R3 bX) (by omega),hl5,hB2.trans (bX.mono hB2.size)⟩
end
namespace R
open S (Sp)
open T (Out see skipW cut)
set_option linter.unusedVariables false
theorem zwq {l:List Int}{p q:Nat}{e:Int}(h:T.num l p= .bad e q):e≠0:=by
 unfold T.num at h
 repeat' split at h
 all_goals (cases h;try decide)
theorem zwt {l:List Int}{p q:Nat}{e:Int}(h:T.esc l p= .bad e q):e≠0:=by
 unfold T.esc at h
 repeat' split at h
 ·exact zwq h
 all_goals (cases h;try decide)
theorem zr0 {l:List Int}{p q:Nat}{e:Int}(h:T.chr l p= .bad e q):e≠0:=by
 unfold T.chr at h
 repeat' split at h
 ·exact zwt h
 all_goals (cases h;try decide)
theorem zva {l:List Int}{p q:Nat}{e:Int}(h:T.span l p= .bad e q):e≠0:=by
 unfold T.span at h;cases h1:T.chr l p with
 | bad e1 r=>rw[h1] at h;cases h;exact zr0 h1
 | ok lo r =>
  rw[h1] at h;simp only at h;split at h
  ·cases h
  ·cases h2:T.chr l (r+1) with
   | bad e1 r1=>rw[h2] at h;cases h;exact zr0 h2
   | ok hi r1 =>
    rw[h2] at h;simp only at h;split at h <;> cases h
    decide
theorem zw1 {l:List Int}{p q:Nat}{e:Int}(h:T.cls l p= .bad e q):e≠0:=by
 unfold T.cls at h;split at h
 ·cases h;decide
 ·split at h
  ·cases h;decide
  ·split at h <;> cases h
   decide
theorem zek {P:Int->Bool}{p q:Nat}{e:Int}(h:T.made P p= .bad e q):e≠0:=by
 unfold T.made at h;split at h <;> cases h
 decide
theorem zsn {sub:Nat->Out (List Sp)}(hs:∀p e q,sub p= .bad e q->e≠0){l:List Int}{s:List Sp}{p q:Nat}{e:Int}(h:T.part sub l s p= .bad e q):e≠0:=by
 unfold T.part at h;split at h
 ·cases h1:sub (T.skipW T.blank l (p+1)) with
  | bad e r=>rw[h1] at h;cases h;exact hs _ _ _ h1
  | ok u r=>rw[h1] at h;exact zek h
 ·split at h
  ·cases h1:sub (T.skipW T.blank l (p+1)) with
   | bad e r=>rw[h1] at h;cases h;exact hs _ _ _ h1
   | ok u r=>rw[h1] at h;exact zek h
  ·split at h
   ·cases h1:T.cls l p with
    | bad e r=>rw[h1] at h;cases h;exact zw1 h1
    | ok u r=>rw[h1] at h;exact zek h
   ·split at h
    ·cases h1:sub p with
     | bad e r=>rw[h1] at h;cases h;exact hs _ _ _ h1
     | ok u r=>rw[h1] at h;exact zek h
    ·cases h1:T.span l p with
     | bad e r=>rw[h1] at h;cases h;exact zva h1
     | ok u r=>rw[h1] at h;exact zek h
theorem zph {sub:Nat->Out (List Sp)}{l:List Int}{s t:List Sp}{p q:Nat}(h:T.part sub l s p= .ok t q):p<l.length:=by
 apply Classical.byContradiction;intro hn;have hs:see l p= -1:=T.zds (by omega)
 have hc:T.chr l p= .bad 2 p:=by
  unfold T.chr;rw[hs,if_neg (by decide),if_neg (by decide)]
 unfold T.part at h;rw[hs,if_neg (by decide),if_neg (by decide),if_neg (fun h=>absurd h.1 (by decide)),if_neg (by decide)] at h;unfold T.span at h;rw[hc] at h;cases h
theorem zq6 {sub:Nat->Out (List Sp)}(hsub:∀p t q,sub p= .ok t q->p<q)(hs:∀p e q,sub p= .bad e q->e≠0){l:List Int}:∀(f:Nat) (s:List Sp) (p q:Nat) (e:Int),0<f->l.length<p+f->T.loop f sub l s p= .bad e q->e≠0:=by
 intro f
 induction f with
 | zero=>intro s p q e h0;omega
 | succ f ih =>
  intro s p q e _ hf h;rw[T.loop] at h;split at h
  ·cases h
  ·cases h1:T.part sub l s p with
   | bad e1 r=>rw[h1] at h;cases h;exact zsn hs h1
   | ok u r =>
    rw[h1] at h;simp only at h;have:=zkj hsub h1;have:=zph h1;have:=T.za3 T.blank l r;exact ih _ _ _ _ (by omega) (by omega) h
theorem zj2 {l:List Int}:∀(n p:Nat) (e:Int) (q:Nat),T.setN n l p= .bad e q->e≠0:=by
 intro n
 induction n with
 | zero=>intro p e q h;rw[T.setN] at h;split at h <;> (cases h;decide)
 | succ n ih =>
  intro p e q h;rw[T.setN] at h;split at h
  ·cases h;decide
  ·split at h
   ·cases h1:T.loop (l.length+1) (T.setN n l) l [] (T.skipW T.blank l (p+2)) with
    | bad e r=>rw[h1] at h;cases h;exact zq6 (zhl n) ih _ _ _ _ _ (by omega) (by omega) h1
    | ok u r=>rw[h1] at h;exact zek h
   ·exact zq6 (zhl n) ih _ _ _ _ _ (by omega) (by omega) h
theorem zlq {l:List Int}{p q:Nat}{e:Int}(h:varAt l p= .bad e q):e≠0:=by
 unfold varAt at h;split at h <;> cases h
 decide
theorem zv0 {l:List Int}{p q:Nat}{e:Int}(h:item l p= .bad e q):e≠0:=by
 unfold item at h;split at h
 ·cases h1:T.setN 20 l p with
  | bad e r=>rw[h1] at h;cases h;exact zj2 _ _ _ _ h1
  | ok s r=>rw[h1] at h;cases h
 ·split at h
  ·cases h1:varAt l p with
   | bad e r=>rw[h1] at h;cases h;exact zlq h1
   | ok s r=>rw[h1] at h;cases h
  ·split at h
   ·split at h <;> cases h
    decide
   ·split at h
    ·cases h1:T.chr l p with
     | bad e r=>rw[h1] at h;cases h;exact zr0 h1
     | ok s r =>
      rw[h1] at h;simp only at h;split at h <;> cases h
      decide
    ·cases h
theorem ztx {l:List Int}{p q:Nat}{ys:List Item}(h:item l p= .ok (some ys) q):p<l.length:=by
 apply Classical.byContradiction;intro hn;have hs:see l p= -1:=T.zds (by omega);have hv:varNext l p=false:=by unfold varNext;rw[hs];rfl
 unfold item at h;rw[hs,if_neg (by decide),if_neg (by simp[hv]),if_neg (by decide),if_neg (by decide)] at h;cases h
theorem zrc {l:List Int}:∀(f:Nat) (xs:List Item) (c:Int) (p q:Nat) (e:Int),0<f->l.length<p+f->itemsN f l xs c p= .bad e q->e≠0:=by
 intro f
 induction f with
 | zero=>intro xs c p q e h0;omega
 | succ f ih =>
  intro xs c p q e _ hf h;rw[itemsN] at h;have hg:=zmb l p;split at h
  ·rename_i h124
   have hlt:gap l p<l.length:=Classical.byContradiction fun hn=>by rw[T.zds (by omega)] at h124;exact absurd h124 (by decide)
   split at h
   ·cases h;decide
   ·exact ih _ _ _ _ _ (by omega) (by omega) h
  ·cases h1:item l (gap l p) with
   | bad e1 r=>rw[h1] at h;cases h;exact zv0 h1
   | ok o r =>
    rw[h1] at h;cases o with
    | none=>cases h
    | some ys =>
     simp only at h;have:=zrd h1;have:=ztx h1;split at h
     ·cases h;decide
     ·exact ih _ _ _ _ _ (by omega) (by omega) h
theorem zh1 {l:List Int}{p q:Nat}{e:Int}(h:items l p= .bad e q):e≠0:=zrc _ _ _ _ _ _ (by omega) (by omega) h
theorem zpo {l:List Int}{s:Side}{p q:Nat}{e:Int}(h:sideTail l s p= .bad e q):e≠0:=by
 unfold sideTail at h;split at h
 ·cases h1:items l (p+1) with
  | bad e1 r=>rw[h1] at h;cases h;exact zh1 h1
  | ok x r =>
   rw[h1] at h;simp only at h;split at h
   ·cases h;decide
   ·split at h <;> cases h
 ·cases h
theorem zpz {l:List Int}{p q:Nat}{e:Int}(h:side l p= .bad e q):e≠0:=by
 unfold side at h;simp only at h;split at h
 ·rename_i h1;cases h;exact zh1 h1
 ·split at h
  ·split at h
   ·cases h;decide
   ·split at h
    ·cases h;decide
    ·split at h
     ·rename_i h1;cases h;exact zh1 h1
     ·exact zpo h
  ·exact zpo h
theorem zwu {l:List Int}{p q:Nat}{e:Int}(h:dirAt l p= .bad e q):e≠0:=by
 unfold dirAt at h;simp only at h
 repeat' split at h
 all_goals (cases h;try decide)
theorem zp3 {l:List Int}{p q:Nat}{e:Int}(h:rule l p= .bad e q):e≠0:=by
 unfold rule at h;split at h
 ·rename_i h1;cases h;exact zpz h1
 ·split at h
  ·rename_i h1;cases h;exact zwu h1
  ·split at h
   ·rename_i h1;cases h;exact zpz h1
   ·cases h
theorem zsj {l:List Int}{p q:Nat}{e:Int}(h:wholeAt l p= .bad e q):e≠0:=by
 unfold wholeAt at h;split at h
 ·split at h
  ·rename_i h1;cases h;exact zj2 _ _ _ _ h1
  ·cases h
 ·split at h <;> cases h
  decide
theorem zvr {l:List Int}{p q:Nat}{e:Int}(h:part l p= .bad e q):e≠0:=by
 unfold part at h;split at h
 ·split at h
  ·cases h;decide
  ·exact zsj h
 ·split at h
  ·split at h
   ·rename_i h1;cases h;exact zlq h1
   ·split at h
    ·split at h
     ·rename_i h1;cases h;exact zj2 _ _ _ _ h1
     ·cases h
    ·exact zp3 h
  ·exact zp3 h
theorem zt7 {l:List Int}{p q:Nat}{e:Int}(h:ended l p= .bad e q):e≠0:=by
 unfold ended at h;split at h
 ·rename_i h1;cases h;exact zvr h1
 ·split at h
  ·cases h;decide
  ·split at h
   ·rename_i h1;cases h;exact h1
   ·cases h
theorem zqk {l:List Int}:∀(f:Nat) (xs:List Part) (p q:Nat) (e:Int),xs.length<=200->202<=xs.length+f->partsN f l xs p= .bad e q->e≠0:=by
 intro f
 induction f with
 | zero=>intro xs p q e h1 h2;omega
 | succ f ih =>
  intro xs p q e h1 h2 h;rw[partsN] at h;split at h
  ·cases h
  ·split at h
   ·cases h;decide
   ·split at h
    ·rename_i h3;cases h;exact zt7 h3
    ·exact ih _ _ _ _ (by simp;omega) (by simp;omega) h
theorem zvm {l:List Int}{q:Nat}{e:Int}(h:read l= .bad e q):e≠0:=by
 unfold read at h;split at h
 ·cases h;decide
 ·exact zqk _ _ _ _ _ (by simp) (by simp) h
end R
namespace K
open Go.RowKit
theorem zad {w:World}{b i:Nat}{c:Array Value}{t:TypeId}{v:Value}(h:w.heap[b]?=some (.cells c t))(hv:c[i]?=some v):w.cell? ⟨b,i,none⟩=some v:=by
 rw[World.cell?];simp[h,hv]
theorem zae {w w':World}{b:Nat}{o:Obj}(h:w.heap[b]?=some o)(hb:Below w.heap.size w w'):w'.heap[b]?=some o:=by
 rw[hb.block b (qA.1 h).1];exact h
theorem zau {w w1:World}{o1:Obj}(h:Below (w.alloc o1).heap.size (w.alloc o1) w1):w1.heap[w.heap.size]?=some o1/\Below w.heap.size w w1/\w.heap.size+1<=w1.heap.size:=by
 have hs:=h.size;simp at hs;refine⟨zae (heap_alloc_new w o1) h,((qR w).alloc qN o1).trans (h.mono (by simp)),hs⟩
theorem zar {w w1:World}{o1 o2:Obj}(h:Below ((w.alloc o1).alloc o2).heap.size ((w.alloc o1).alloc o2) w1) :
  w1.heap[w.heap.size]?=some o1/\w1.heap[w.heap.size+1]?=some o2/\Below w.heap.size w w1/\w.heap.size+2<=w1.heap.size:=by
 have hs:=h.size;simp at hs;have e1:=heap_alloc_new (w.alloc o1) o2;simp at e1;have e2:=(Below.heap_alloc (w.alloc o1) o2 w.heap.size (by simp)).trans (heap_alloc_new w o1);exact⟨zae e2 h,zae (by simpa using e1) h,(((qR w).alloc qN o1).alloc (by simp) o2).trans (h.mono (by simp;omega)),by omega⟩
theorem box2 {w:World}{g:Nat}{a b:Value}{t:TypeId}(hg:w.heap[g]?=some (.cells #[a,b] t)):w.cell? ⟨g,0,none⟩=some a/\w.cell? ⟨g,1,none⟩=some b/\w.frozen? ⟨g,0,none⟩=false/\w.frozen? ⟨g,1,none⟩=false:=by
 refine⟨?_,?_,?_,?_⟩
 ·rw[World.cell?];simp[hg]
 ·rw[World.cell?];simp[hg]
 ·rw[World.frozen?];simp[hg]
 ·rw[World.frozen?];simp[hg]
end K
namespace K
def allR (l:List Int):Bool:=l.all M.right
def textE (l:List Int):Int:=if 4000<l.length then 4 else if allR l=true then 0 else 3
end K
