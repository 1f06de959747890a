import Derived.Test.YthnmmmkeamcfkaaGreatDoorRRd9
import Derived.Defers
import Derived.Recover
set_option maxHeartbeats 0
namespace Go.Proofs.YthnmmmkeamcfkaaGreatDoor
open Go.Proofs.Tryz
section
open Go.RowKit
theorem zcy (s:ByteArray)(w:World)(hs:s.size<=1099511627776) :
  Calls prog 10 #[.string s] w fun e w'=>∃v,e= .returned v/\w'.ownsRow (w.heap.size+1) 21 1 v (M.rn s).length ((M.rn s).map (Value.int .i32))/\Below w.heap.size w w':=by
 obtain⟨i0,hi,hz0,hz1,hz2⟩:=info_parts Tryz.infoI32
 go_enter func10,ntmps10
 go_wp2
 go_loopw [3] (fun v wr=>∃(pos fuel:Nat) (acc:List Int),wr.heap[w.heap.size]?=some (.stringIter s pos)/\wr.ownsRow (w.heap.size+1) 21 1 v acc.length (acc.map (Value.int .i32))/\Below w.heap.size w wr/\Hid (acc++(M.steps s fuel pos).map (fun x=>(x.2:Int))=M.rn s)/\s.size<=pos+fuel/\acc.length<=pos) (fun _ wr=>s.size - wr.iterPos w.heap.size)
 case atStart=>exact⟨0,s.size,[],World.iter_heap w s 0,World.ownsRow_nil _ _ _ _,(qR _).alloc qN _,rfl,by omega,by simp⟩
 case round =>
  obtain⟨pos,fuel,acc,hit,hown,hbw,HS,hb,hlen⟩:=hrel;have hpos0:=iterPos_of hit
  by_cases hp:pos<s.size
  ·have hnx:∀ty,(Instr.next (.pointer (some ⟨w.heap.size,0,none⟩)) true ty).run prog wr=_:=fun ty=>Lib.run_next_any_at wr w.heap.size s pos ty hit hp
   have hwd:=M.width_pos s pos hp;obtain⟨fuel,rfl⟩:∃f',fuel=f'+1:=⟨fuel - 1,by omega⟩;have hit2:=Lib.iterAt_heap wr w.heap.size s pos (pos+(Utf8.decode s pos).2) hit;have hbw2:=Lib.below_iterAt hbw (k:=w.heap.size) qN s (pos+(Utf8.decode s pos).2);have hown2:=ownsRow_iterAt hown (k:=w.heap.size) (by omega) s (pos+(Utf8.decode s pos).2);obtain⟨W1,hW1⟩:∃W1,W1=wr.iterAt w.heap.size s (pos+(Utf8.decode s pos).2):=⟨_,rfl⟩;rw[<- hW1] at hnx hit2 hbw2 hown2;have hBlt:=lt_of_block hit2;clear hW1 hit hown hbw
   go_wp2_with (at_builtin;go_must (refine wpList_append_own _ rfl _ _ 33 rfl (w.heap.size+1) 21 i0 (.int .i32 0) 1 4 underlying33 hi hz0 hz1 hz2 rfl (by decide) _ _ _ rfl (hown2.alloc _) ⟨W1.heap.size,0,none⟩ 1 1 [.int .i32 ((Utf8.decode s pos).1:Int)] rfl rfl (cell_one_new _ _ _) (fun x hx=>by simp at hx;subst hx;rfl) (by unfold maxLen;omega) (by omega) (by simp;omega) ?_;intro v' w3 hown' hgrow3 hnil3;have X:=L.zrm hit2 hbw2 hown2 hown' hgrow3;clear hown' hgrow3 hnil3))
   go_roundw
   case rel=>exact⟨_,fuel,acc++ [((Utf8.decode s pos).1:Int)],X.out.2.1,(by simpa using X.out.1),X.out.2.2,(by show _=_;rw[<- HS.out];simp[M.steps,hp]),by omega,by simp;omega⟩
   case measure=>rw[iterPos_of X.out.2.1,hpos0];omega
  ·have hnx:∀ty,(Instr.next (.pointer (some ⟨w.heap.size,0,none⟩)) true ty).run prog wr=_:=fun ty=>Lib.run_next_end_at wr w.heap.size s pos ty hit hp
   go_wp2;go_ret
   have e:=HS.out;rw[M.zie s fuel pos hp,List.map_nil,List.append_nil] at e;subst e;exact⟨_,rfl,hown,hbw⟩
theorem ztl:∀(L:List UInt8),∀x∈M.ru L,M.right (x.1:Int)=true:=by
 intro L
 induction L using M.zxi with
 | h0=>intro x hx;simp[M.zxh] at hx
 | h1 L hL ih =>
  intro x hx;rw[M.zhf L hL] at hx;rcases List.mem_cons.1 hx with rfl | h
  ·exact M.zu1 L
  ·exact ih x h
theorem ztm (s:ByteArray):∀z∈M.rn s,M.right z=true:=by
 intro z hz;rw[M.zxl] at hz;obtain⟨x,hx,rfl⟩:=List.mem_map.1 hz;exact ztl _ x hx
end
section
open Go.RowKit
set_option maxRecDepth 20000
def R.readE (o:T.Out (List R.Part)) (w:World) (e:Ending) (w':World):Prop :=
 match o with
 | .ok t _=>∃v,e= .returned (.tuple #[v,.agg #[.int .i64 0,.int .i64 0]])/\R.RowP w.heap.size w' v t/\t.length<=200/\Below w.heap.size w w'
 | .bad er q=>e= .returned (.tuple #[.slice none 0 0,.agg #[.int .i64 er,.int .i64 q]])/\Below w.heap.size w w'
def R.faultV (er:Int) (q:Nat):Value:= .iface 38 (.agg #[.int .i64 er,.int .i64 q])
theorem zj9 (x:Value)(w:World):(Instr.typeAssert (.iface 38 x) 20 38 true).run prog w= .ok (.tuple #[x,.bool true]) w:=by kernel_rfl
theorem zj8 (w:World):(Instr.typeAssert .nilIface 20 38 true).run prog w= .ok (.tuple #[.agg #[.int .i64 0,.int .i64 0],.bool false]) w:=by kernel_rfl
theorem zdx (bs bf:Nat)(er:Int)(q:Nat)(older:List PanicEntry)(w:World)(vs f1 f2:Value)(hs:S.Bx w bs 72 vs)(hf:w.heap[bf]?=some (.cells #[f1,f2] 38))(hne:bs≠bf) :
  CallsD prog 57 #[.pointer (some ⟨bs,0,none⟩),.pointer (some ⟨bf,0,none⟩)] (.panicking ({ v:=R.faultV er q,recovered:=false }::older)) w fun e u' w' =>
   e= .returned (.tuple #[])/\u'= .panicking ({ v:=R.faultV er q,recovered:=true }::older)/\S.Bx w' bs 72 (.slice none 0 0)/\w'.heap[bf]?=some (.cells #[.int .i64 er,.int .i64 q] 38)/\(∀B,B<=bs->B<=bf->Below B w w'):=by
 have hta:=fun x w=>zj9 x w
 have hrep:Array.replicate 9 undef=#[undef,undef,undef,undef,undef,undef,undef,undef,undef]:=rfl;refine callsD_of_wpS func57 rfl fun c₀ cs hu=> ?_
 apply wpS_seq;apply wpS_region;simp[wpOpsS,go_sem,recoverD,hu,ntmps57,Exit.thenS,R.faultV,hrep,hta];refine wpS_of_wp ?_;have bW:=(qR w).alloc qN (.cells #[.int .i64 er,.int .i64 q] 38);have hx:=zce (heap_alloc_new w (.cells #[.int .i64 er,.int .i64 q] 38));have hs':S.Bx _ bs 72 vs:=hs.below bW hs.lt;have hf':(w.alloc (.cells #[.int .i64 er,.int .i64 q] 38)).heap[bf]?=some (.cells #[f1,f2] 38):=by rw[bW.block bf (qA.1 hf).1];exact hf
 have hl1:=hs.lt;have hl2:=(qA.1 hf).1;have n1:¬w.heap.size=bs:=by omega
 have n2:¬w.heap.size=bf:=by omega
 have hsc:=hs'.cell;have hsf:=hs'.free;have hfc:=zce hf';have HS:Hid (S.Bx _ bs 72 vs):=hs';have HF:Hid _:=hf';have HB:Hid (∀B,B<=w.heap.size->Below B w (w.alloc (.cells #[.int .i64 er,.int .i64 q] 38))):=fun B hB=>bW.mono hB
 obtain⟨x0,x1,_,_⟩:=hx;obtain⟨z0,z1,z2,z3⟩:=hfc;generalize w.alloc (.cells #[.int .i64 er,.int .i64 q] 38)=W at *;clear hs' hf' hs hf bW;go_wp2
 go_region
 have hA1:=HS.out.set (.slice none 0 0);have hF1:(W.setCell ⟨bs,0,none⟩ (.slice none 0 0)).heap[bf]?=some (.cells #[f1,f2] 38):=by rw[heap_setCell_other _ ⟨bs,0,none⟩ bf _ (Ne.symm hne)];exact HF.out
 have hF2:=zdu _ bf f1 f2 (.int .i64 er) (.int .i64 q) 38 hF1
 have hA2:S.Bx (((W.setCell ⟨bs,0,none⟩ (.slice none 0 0)).setCell ⟨bf,0,none⟩ (.int .i64 er)).setCell ⟨bf,1,none⟩ (.int .i64 q)).drew bs 72 (.slice none 0 0):=by
  show _=_;show (((W.setCell ⟨bs,0,none⟩ (.slice none 0 0)).setCell ⟨bf,0,none⟩ (.int .i64 er)).setCell ⟨bf,1,none⟩ (.int .i64 q)).heap[bs]?=_;rw[heap_setCell_other _ ⟨bf,1,none⟩ bs _ hne,heap_setCell_other _ ⟨bf,0,none⟩ bs _ hne];exact hA1
 have hB2:∀B,B<=bs->B<=bf->Below B w (((W.setCell ⟨bs,0,none⟩ (.slice none 0 0)).setCell ⟨bf,0,none⟩ (.int .i64 er)).setCell ⟨bf,1,none⟩ (.int .i64 q)).drew:=fun B h1 h2=>((((HB.out B (by omega)).setCell (p:=⟨bs,0,none⟩) h1 _).setCell (p:=⟨bf,0,none⟩) h2 _).setCell (p:=⟨bf,1,none⟩) h2 _).drew
 have hF3:(((W.setCell ⟨bs,0,none⟩ (.slice none 0 0)).setCell ⟨bf,0,none⟩ (.int .i64 er)).setCell ⟨bf,1,none⟩ (.int .i64 q)).drew.heap[bf]?=some (.cells #[.int .i64 er,.int .i64 q] 38):=hF2;generalize (((W.setCell ⟨bs,0,none⟩ (.slice none 0 0)).setCell ⟨bf,0,none⟩ (.int .i64 er)).setCell ⟨bf,1,none⟩ (.int .i64 q)).drew=X at hA2 hB2 hF3 ⊢;change bodyPostS prog Tryz.f57 c₀ cs _ Exit.normal _ _ X;simp[bodyPostS,results,results57];exact⟨hA2,hF3,hB2⟩
theorem zj6 (ps pf:Addr)(w:World) :
  CallsD prog 57 #[.pointer (some ps),.pointer (some pf)] .returning w fun e u' w' =>
   e= .returned (.tuple #[])/\u'= .returning/\∃o,w'=w.alloc o:=by
 have hta:=fun w=>zj8 w
 have hrep:Array.replicate 9 undef=#[undef,undef,undef,undef,undef,undef,undef,undef,undef]:=rfl;refine callsD_of_wpS func57 rfl fun c₀ cs hu=> ?_
 apply wpS_seq;apply wpS_region;simp[wpOpsS,go_sem,recoverD,hu,ntmps57,Exit.thenS,hrep,hta];refine wpS_of_wp ?_;go_wp2;cases c₀
 simp_all[bodyPostS,results,results57]
 exact⟨_,rfl⟩
theorem zfc {fn:Func}{p u:Tmp}(h:fn.results=#[.cell p 72,.cell u 38])(tmps:Array Value)(w:World)(bs bf:Nat)(v y1 y2:Value)(hs:S.Bx w bs 72 v)(hf:w.heap[bf]?=some (.cells #[y1,y2] 38))
  (hp:tmps.getD p undef= .pointer (some ⟨bs,0,none⟩)) (hu:tmps.getD u undef= .pointer (some ⟨bf,0,none⟩)):(results fn tmps).run prog w= .ok (.tuple #[v,.agg #[y1,y2]]) w:=by
 have hl:=run_loadVar_row (P:=prog) w bf 38 38 #[y1,y2] (0,0) _ hf underlying38 rfl (by kernel_rfl);have hc:=hs.cell
 have hl2:(loadVar 72 ⟨bs,0,none⟩).run prog w= .ok v w:=by
  simp[go_sem,hc]
 have e:(results fn tmps).run prog w=((asAddr (tmps.getD p undef)).run prog w).andThen fun a w₁ => ((loadVar 72 a).run prog w₁).andThen fun x w₂ => ((asAddr (tmps.getD u undef)).run prog w₂).andThen fun b w₃ => ((loadVar 38 b).run prog w₃).andThen fun y w₄ => .ok (.tuple #[x,y]) w₄ := by
  simp only[results,h];simp[Sem.run_bind,Result.andThen]
 rw[e,hp,hu];simp[asAddr,Result.andThen,hl,hl2]
theorem zp8 (hK:T.ClassOk)(s:ByteArray)(hs:s.size<=1099511627776)(w:World) :
  Calls prog 24 #[.string s] w (R.readE (R.read (M.rn s)) w):=by
 have hmf:∀(fn:Fn) (first cap:Array Value) (w:World),(Instr.makeFunc fn first cap).run prog w= .ok (.func fn first cap) w:=fun _ _ _ _=>rfl
 obtain⟨o,HO⟩:∃o,Hid (R.read (M.rn s)=o):=⟨_,rfl⟩;rw[HO.out]
 go_enter_defers func24,ntmps24
 go_wp2_with fail
 have HX0:Hid (S.Bx (w.alloc (.cells #[.slice none 0 0] 72)) w.heap.size 72 (.slice none 0 0)):=S.Bx.new w _ _;have bA:=(qR w).alloc qN (.cells #[.slice none 0 0] 72);have bB:Below w.heap.size w ((w.alloc (.cells #[.slice none 0 0] 72)).alloc (.cells #[.int .i64 0,.int .i64 0] 38)):=bA.alloc (by simp) _;have hsz:(w.alloc (.cells #[.slice none 0 0] 72)).heap.size=w.heap.size+1:=by simp
 have HX:S.Bx ((w.alloc (.cells #[.slice none 0 0] 72)).alloc (.cells #[.int .i64 0,.int .i64 0] 38)) w.heap.size 72 (.slice none 0 0):=HX0.out.below ((qR _).alloc qN _) (by rw[hsz];omega)
 have HFb:((w.alloc (.cells #[.slice none 0 0] 72)).alloc (.cells #[.int .i64 0,.int .i64 0] 38)).heap[w.heap.size+1]?=some (.cells #[.int .i64 0,.int .i64 0] 38):=by
  have:=heap_alloc_new (w.alloc (.cells #[.slice none 0 0] 72)) (.cells #[.int .i64 0,.int .i64 0] 38);rw[hsz] at this;exact this
 refine(zcy s _ hs).mono ?_;generalize (w.alloc (.cells #[.slice none 0 0] 72)).alloc (.cells #[.int .i64 0,.int .i64 0] 38)=W2 at bB HX HFb;clear HX0 bA hsz;rintro e w3 ⟨v,rfl,own,b3⟩;have hX3:=HX.below b3 HX.lt;have hF3:w3.heap[w.heap.size+1]?=some (.cells #[.int .i64 0,.int .i64 0] 38):=by rw[b3.block _ (qA.1 HFb).1];exact HFb
 have B3:=bB.trans (b3.mono bB.size);have hrt:=ztm s;generalize M.rn s=l at own HO hrt;have bW:=(qR w3).alloc qN (.cells #[v,.int .i64 0] 128);have HX4:=qH <| hX3.below bW hX3.lt
 have HF4:Hid ((w3.alloc (.cells #[v,.int .i64 0] 128)).heap[w.heap.size+1]?=some (.cells #[.int .i64 0,.int .i64 0] 38)):=by
  show _=_;rw[bW.block _ (qA.1 hF3).1];exact hF3
 have HB4:=qH <| B3.trans (bW.mono B3.size)
 by_cases hbig:16000<l.length
 ·obtain⟨vo,vc,hv⟩:∃vo vc,v= .slice vo l.length vc:=by
   rcases own.2 with ⟨rfl,h0⟩|⟨g,cap,cur,rfl,_⟩
   ·exact⟨none,0,by rw[h0]⟩
   ·exact⟨_,_,rfl⟩
  subst hv;clear own hX3 hF3 B3 bB HX HFb b3 bW
  go_wp2_with (go_at_call 58;refine(zas _ 4 0).mono ?_;unfold T.thrown;rintro e w5 ⟨rfl,rfl⟩)
  refine leaves_cons (f:=57) (args:=#[.pointer (some ⟨w.heap.size,0,none⟩),.pointer (some ⟨w.heap.size+1,0,none⟩)]) (by simp) (by simp[go_sem]) ?_;refine(zdx w.heap.size (w.heap.size+1) 4 0 [] _ _ _ _ HX4.out HF4.out (by omega)).mono ?_;rintro e u' w6 ⟨rfl,rfl,hA,hF,hB⟩;refine⟨_,zfc (by rfl) _ _ w.heap.size (w.heap.size+1) _ _ _ hA hF rfl rfl,?_⟩;rw[<- HO.out];unfold R.read;rw[if_pos hbig];exact⟨rfl,HB4.out.trans (hB w.heap.size qN (by omega))⟩
 ·obtain⟨ao,cap,tb,hv,CW⟩:=T.Cur.new 128 own (by omega) hrt;subst hv;have HCW:Hid _:=CW;have HNb:=qH <| (qA.1 hF3).1;clear own CW hX3 hF3 B3 bB HX HFb b3 bW
  go_wp2_with fail
  refine(ztw hK _ _ tb cap ao l HCW.out).mono ?_;generalize w3.alloc (.cells #[.slice ao l.length cap,.int .i64 0] 128)=W4 at HX4 HF4 HB4 HCW;intro e w5 h;cases hc:R.parts l with
  | bad er q =>
   rw[hc] at h;obtain⟨rfl,g5⟩:=h;have hX5:=HX4.out.grown g5 (by have:=HNb.out;simp;omega)
   have hF5:w5.heap[w.heap.size+1]?=some (.cells #[.int .i64 0,.int .i64 0] 38):=by
    rw[g5.block _ (qA.1 HF4.out).1 (by have:=HNb.out;simp;omega)];exact HF4.out
   have HB5:=qH <| Below.grown HB4.out g5 HB4.out.size (fun k hk=>by cases hk;have:=HNb.out;omega);have HX5:Hid _:=hX5;have HF5:Hid _:=hF5;have HHc:Hid _:=hc;clear hX5 hF5 g5 hc;unfold T.thrown;go_wp2;refine leaves_cons (f:=57) (args:=#[.pointer (some ⟨w.heap.size,0,none⟩),.pointer (some ⟨w.heap.size+1,0,none⟩)]) (by simp) (by simp[go_sem]) ?_;refine(zdx w.heap.size (w.heap.size+1) er q [] _ _ _ _ HX5.out HF5.out (by omega)).mono ?_;rintro e u' w6 ⟨rfl,rfl,hA,hF,hB⟩;refine⟨_,zfc (by rfl) _ _ w.heap.size (w.heap.size+1) _ _ _ hA hF rfl rfl,?_⟩;rw[<- HO.out];unfold R.read;rw[if_neg hbig,HHc.out];exact⟨rfl,HB5.out.trans (hB w.heap.size qN (by omega))⟩
  | ok t q =>
   rw[hc] at h;obtain⟨v5,rfl,⟨hr5,hl5⟩,C5,g5⟩:=h;have hX5:=HX4.out.grown g5 (by have:=HNb.out;simp;omega)
   have hF5:w5.heap[w.heap.size+1]?=some (.cells #[.int .i64 0,.int .i64 0] 38):=by
    rw[g5.block _ (qA.1 HF4.out).1 (by have:=HNb.out;simp;omega)];exact HF4.out
   have HB5:=qH <| Below.grown HB4.out g5 HB4.out.size (fun k hk=>by cases hk;have:=HNb.out;omega);have HX5:=qH hX5;have HF5:Hid _:=hF5;have HHc:Hid _:=hc;have x0:=hX5.cell;have x1:=hX5.free;obtain⟨y0,y1,y2,y3⟩:=zce hF5;have hW4:w.heap.size+2<=W4.heap.size:=by have:=(qA.1 HF4.out).1;omega
   have HR5:=qH hr5;obtain⟨vo,vc,hv⟩:=R.Row.slice hr5;subst hv;clear hX5 hF5 g5 hc hr5 C5;go_wp2;have hne:w.heap.size≠w.heap.size+1:=by omega
   have g1:w5.grownBy (w5.setCell ⟨w.heap.size,0,none⟩ (.slice vo t.length vc)) (some w.heap.size):=R.zaj _ _ _ _;have g2:(w5.setCell ⟨w.heap.size,0,none⟩ (.slice vo t.length vc)).grownBy (((w5.setCell ⟨w.heap.size,0,none⟩ (.slice vo t.length vc)).setCell ⟨w.heap.size+1,0,none⟩ (.int .i64 0)).setCell ⟨w.heap.size+1,1,none⟩ (.int .i64 0)) (some (w.heap.size+1)):=S.zaa (R.zaj _ _ _ _) (R.zaj _ _ _ _);have R3:=R.Row.cur (R.Row.cur HR5.out g1 (by omega)) g2 (by omega);have hF1:(w5.setCell ⟨w.heap.size,0,none⟩ (.slice vo t.length vc)).heap[w.heap.size+1]?=some (.cells #[.int .i64 0,.int .i64 0] 38):=by rw[heap_setCell_other _ ⟨w.heap.size,0,none⟩ _ _ (Ne.symm hne)];exact HF5.out
   have hF2:=zdu _ (w.heap.size+1) _ _ (.int .i64 0) (.int .i64 0) 38 hF1
   have hA2:S.Bx (((w5.setCell ⟨w.heap.size,0,none⟩ (.slice vo t.length vc)).setCell ⟨w.heap.size+1,0,none⟩ (.int .i64 0)).setCell ⟨w.heap.size+1,1,none⟩ (.int .i64 0)) w.heap.size 72 (.slice vo t.length vc):=by
    show _=_;rw[heap_setCell_other _ ⟨w.heap.size+1,1,none⟩ _ _ hne,heap_setCell_other _ ⟨w.heap.size+1,0,none⟩ _ _ hne];exact HX5.out.set (.slice vo t.length vc)
   have hB2:Below w.heap.size w (((w5.setCell ⟨w.heap.size,0,none⟩ (.slice vo t.length vc)).setCell ⟨w.heap.size+1,0,none⟩ (.int .i64 0)).setCell ⟨w.heap.size+1,1,none⟩ (.int .i64 0)):=((HB5.out.setCell (p:=⟨w.heap.size,0,none⟩) qN _).setCell (p:=⟨w.heap.size+1,0,none⟩) (Nat.le_succ _) _).setCell (p:=⟨w.heap.size+1,1,none⟩) (Nat.le_succ _) _;generalize ((w5.setCell ⟨w.heap.size,0,none⟩ (.slice vo t.length vc)).setCell ⟨w.heap.size+1,0,none⟩ (.int .i64 0)).setCell ⟨w.heap.size+1,1,none⟩ (.int .i64 0)=X at R3 hF2 hA2 hB2 ⊢;refine leaves_cons (f:=57) (args:=#[.pointer (some ⟨w.heap.size,0,none⟩),.pointer (some ⟨w.heap.size+1,0,none⟩)]) (by simp) (by simp[go_sem]) ?_;refine(zj6 ⟨w.heap.size,0,none⟩ ⟨w.heap.size+1,0,none⟩ _).mono ?_;rintro e u' w6 ⟨rfl,rfl,ob,rfl⟩;have bX:=(qR X).alloc qN ob;refine⟨_,zfc (by rfl) _ _ w.heap.size (w.heap.size+1) _ _ _ (hA2.below bX hA2.lt) (by rw[bX.block _ (qA.1 hF2).1];exact hF2) rfl rfl,?_⟩;rw[<- HO.out];unfold R.read;rw[if_neg hbig,HHc.out];exact⟨_,rfl,R.Row.down (R.Row.below R3 bX) (by omega),hl5,hB2.trans (bX.mono hB2.size)⟩
end
namespace R
open S (Sp)
open T (Out see skipW cut)
set_option linter.unusedVariables false
end R
namespace K
open Go.RowKit
theorem zah {w:World}{b i:Nat}{c:Array Value}{t:TypeId}{v:Value}(h:w.heap[b]?=some (.cells c t))(hv:c[i]?=some v):w.cell? ⟨b,i,none⟩=some v:=by
 rw[World.cell?];simp[h,hv]
theorem zae {w w':World}{b:Nat}{o:Obj}(h:w.heap[b]?=some o)(hb:Below w.heap.size w w'):w'.heap[b]?=some o:=by
 rw[hb.block b (qA.1 h).1];exact h
theorem zbh {w w1:World}{o1:Obj}(h:Below (w.alloc o1).heap.size (w.alloc o1) w1):w1.heap[w.heap.size]?=some o1/\Below w.heap.size w w1/\w.heap.size+1<=w1.heap.size:=by
 have hs:=h.size;simp at hs;refine⟨zae (heap_alloc_new w o1) h,((qR w).alloc qN o1).trans (h.mono (by simp)),hs⟩
theorem zbo {w w1:World}{o1 o2:Obj}(h:Below ((w.alloc o1).alloc o2).heap.size ((w.alloc o1).alloc o2) w1) :
  w1.heap[w.heap.size]?=some o1/\w1.heap[w.heap.size+1]?=some o2/\Below w.heap.size w w1/\w.heap.size+2<=w1.heap.size:=by
 have hs:=h.size;simp at hs;have e1:=heap_alloc_new (w.alloc o1) o2;simp at e1;have e2:=(Below.heap_alloc (w.alloc o1) o2 w.heap.size (by simp)).trans (heap_alloc_new w o1);exact⟨zae e2 h,zae (by simpa using e1) h,(((qR w).alloc qN o1).alloc (by simp) o2).trans (h.mono (by simp;omega)),by omega⟩
theorem box2 {w:World}{g:Nat}{a b:Value}{t:TypeId}(hg:w.heap[g]?=some (.cells #[a,b] t)):w.cell? ⟨g,0,none⟩=some a/\w.cell? ⟨g,1,none⟩=some b/\w.frozen? ⟨g,0,none⟩=false/\w.frozen? ⟨g,1,none⟩=false:=by
 refine⟨?_,?_,?_,?_⟩
 ·rw[World.cell?];simp[hg]
 ·rw[World.cell?];simp[hg]
 ·rw[World.frozen?];simp[hg]
 ·rw[World.frozen?];simp[hg]
end K
