import Derived.Test.YthnmmmkeamcfkaaGreatDoorVScript
set_option maxHeartbeats 0
set_option maxRecDepth 20000
set_option linter.unusedSimpArgs false
set_option linter.unusedVariables false
namespace Go.Proofs.YthnmmmkeamcfkaaGreatDoor
open Go.Proofs.Tryz
section
open Go.RowKit Go.Shelf
theorem V.zaq {w:World}{g:Nat}{c:Array Value}{t:TypeId}(h:w.heap[g]?=some (.cells c t))(o:Obj)(i:Nat):(w.alloc o).frozen? ⟨g,i,none⟩=false:=by
 have e:=Below.heap_alloc w o g (qA.1 h).1;rw[World.frozen?,show (w.alloc o).heap[(⟨g,i,none⟩:Addr).block]?=w.heap[g]? from e,h];simp
theorem V.zai {w:World}{a:Addr}{v:Value}(h:w.cell? a=some v)(o:Obj):(w.alloc o).cell? a=some v:=by
 have e:=Below.heap_alloc w o a.block (World.block_lt_of_cell? w a h);rw[World.cell?_of_block e];exact h
theorem V.box2 {w:World}{g:Nat}{a b:Value}{t:TypeId}(hg:w.heap[g]?=some (.cells #[a,b] t)):w.cell? ⟨g,0,none⟩=some a/\w.cell? ⟨g,1,none⟩=some b/\w.frozen? ⟨g,0,none⟩=false/\w.frozen? ⟨g,1,none⟩=false:=by
 refine⟨?_,?_,?_,?_⟩
 ·rw[World.cell?];simp[hg]
 ·rw[World.cell?];simp[hg]
 ·rw[World.frozen?];simp[hg]
 ·rw[World.frozen?];simp[hg]
namespace V
def Tells (w:World) (f:ByteArray->Option Value) (kn:Known):Prop :=
 ∀s:ByteArray,(f s).isSome=(kn s).isSome/\S.Rd w ((f s).getD (.slice none 0 0)) ((kn s).getD [])/\((kn s).getD []).length<=200/\S.Fit ((kn s).getD [])
theorem Tells.none (w:World):Tells w (fun _=>none) (fun _=>none):=fun _=>⟨rfl,S.Rd.nil w,by simp,fun x hx=>by cases hx⟩
theorem Tells.below {w w':World}{f:ByteArray->Option Value}{kn:Known}{B:Nat}(h:Tells w f kn)(hb:Below B w w')(hB:w.heap.size<=B):Tells w' f kn:=fun s=>⟨(h s).1,(h s).2.1.below hb hB,(h s).2.2⟩
theorem Tells.unk {w:World}{f:ByteArray->Option Value}{kn:Known}(h:Tells w f kn):V.unk f=unkP kn:=by
 funext x;unfold V.unk unkP;rw[(h x.name).1]
theorem Tells.unkS {w:World}{f:ByteArray->Option Value}{kn:Known}(h:Tells w f kn)(s:R.Side):V.unkS f s=unkSP kn s:=by
 unfold V.unkS unkSP;rw[h.unk]
def VarsIs (w:World) (B:Nat) (kn:Known):Prop:=∃n f,V.MapIs w B n f/\Tells w f kn
end V
theorem zg4 (w:World)(v:Value)(l:List R.Part)(R0:R.Pts w v l)(hbad:¬(R.wrong l).1=0) :
  Calls prog 60 #[v] w fun e w'=>e= .returned (.tuple #[.map none,.agg #[.int .i64 (R.wrong l).1,.int .i64 (R.wrong l).2]])/\Below w.heap.size w w':=by
 have HA:=qH <| fun o=>(qR w).alloc qN o
 have HW:=qH <| fun o=>zjm _ _ l (R0.below (HA.out o))
 obtain⟨ao,cap,rfl⟩:=R0.len;obtain⟨⟨e1,e2⟩,he⟩:∃o,R.wrong l=o:=⟨_,rfl⟩;rw[he] at HW hbad ⊢;simp only at HW hbad ⊢;clear he R0
 go_enter func60,ntmps60
 go_wp2_with fail
 refine(HW.out _).mono ?_;rintro e w1 ⟨rfl,b1⟩;obtain⟨h1,B1,s1⟩:=K.zbh b1;have HB2:=qH <| fun o=>B1.alloc (by omega) o
 have k0:∀o,(w1.alloc o).cell? ⟨w.heap.size,0,none⟩=some (.int .i64 0):=fun o=>V.zai (K.zah h1 rfl) o
 have k1:∀o,(w1.alloc o).cell? ⟨w.heap.size,1,none⟩=some (.int .i64 0):=fun o=>V.zai (K.zah h1 rfl) o
 have g0:=fun o i=>V.zaq h1 o i
 clear b1 B1 HW h1;go_wp2
 go_region
 go_wp2;refine bodyPost_ret (v:= .tuple #[.map none,.agg #[.int .i64 e1,.int .i64 e2]]) (by simp[results,results60,go_sem, *]) rfl ?_
 exact⟨rfl,(((HB2.out _).setCell (p:=⟨w.heap.size,0,none⟩) qN _).setCell (p:=⟨w.heap.size,1,none⟩) qN _).drew⟩
theorem V.zqk {p:R.Part}(hE:R.partE p=0):(p.kind=1∨p.kind=3->S.wrongE p.set=0)/\(p.kind=2->R.ruleE p=0)/\(p.kind=1∨p.kind=2∨p.kind=3∨p.kind=4):=by
 unfold R.partE at hE
 by_cases h1:p.kind=1
 ·rw[if_pos h1] at hE;refine⟨fun _=> ?_,fun h=>by omega,.inl h1⟩;split at hE
  ·exact hE
  ·exact absurd hE (by decide)
 ·rw[if_neg h1] at hE
  by_cases h3:p.kind=3
  ·rw[if_pos h3] at hE;exact⟨fun _=>hE,fun h=>by omega,by omega⟩
  ·rw[if_neg h3] at hE
   by_cases h4:p.kind=4
   ·exact⟨fun h=>by omega,fun h=>by omega,by omega⟩
   ·rw[if_neg h4] at hE
    by_cases h2:p.kind=2
    ·rw[if_pos h2] at hE;exact⟨fun h=>by omega,fun _=>hE,by omega⟩
    ·rw[if_neg h2] at hE;exact absurd hE (by decide)
theorem zt3 (w0 w:World)(hX:Below w0.heap.size w0 w)(v:Value)(p:R.Part)(bm bf bu B n:Nat)(f:ByteArray->Option Value)(kn:V.Known)(flt:Bool)(HE:V.Env w bm bf bu B n f flt)(HT:V.Tells w0 f kn)(RR:R.PtIs w0 v p)(hp:R.partE p=0)(hn:n<=1000)(F:Nat)(hF:F<=B/\F<=bf/\F<=w.heap.size) :
  Calls prog 163 #[v,.pointer (some ⟨bm,0,none⟩),.pointer (some ⟨bf,0,none⟩),.pointer (some ⟨bu,0,none⟩)] w fun e w' =>
   e= .returned (.int .i64 (V.stepE kn flt p))/\(V.stepE kn flt p=0->∃n' f',n'<=n+1/\V.Env w' bm bf bu B n' f' (V.stepF flt p)/\V.Tells w0 f' (V.stepK kn p))/\Below F w w':=by
 have RR':=RR.keeps (R.Keeps.of_below hX qN);obtain⟨hset,hrule,hkind⟩:=V.zqk hp;unfold V.stepE V.stepF V.stepK
 by_cases h1:p.kind=1
 ·simp only[if_pos h1,if_neg (show ¬p.kind=3 by omega)];refine(zt2 w v p bm bf bu B n f flt HE RR' h1 (by omega) F ⟨hF.1,hF.2.2⟩).mono ?_;rintro e w' ⟨h,hb⟩;rw[(HT p.name).1] at h;rcases h with ⟨hs,he,henv⟩|⟨hs,he,so,sc,hv,hr,henv⟩
  ·rw[if_pos hs];exact⟨he,fun h=>absurd h (by decide),hb⟩
  ·rw[if_neg (by rw[hs];decide)];refine⟨he,fun _=>⟨n+1,_,qN,henv,fun t=> ?_⟩,hb⟩
   by_cases ht:t=p.name
   ·simp only[if_pos ht];have hz:=hset (.inl h1);obtain⟨so',sc',v4,v5,v6,v7,v8,v9,v10,v11,v12,v13,v14,v15,hv',hr',hf',_⟩:=RR;rw[hv'] at hv;have hv2:Value.slice so' p.set.length sc'= .slice so p.set.length sc:=by simpa [V.setVal] using hv
    rw[<- hv2];exact⟨rfl,hr',(S.zaw.1 hz).1,hf'⟩
   ·simp only[if_neg ht];exact HT t
 ·by_cases h3:p.kind=3
  ·simp only[if_neg h1,if_pos h3];refine(zkg w v p bm bf bu B n f flt HE RR' h3 F ⟨hF.2.1,hF.2.2⟩).mono ?_;rintro e w' ⟨he,henv,hb⟩;exact⟨he,fun _=>⟨n,f,by omega,henv,HT⟩,hb⟩
  ·by_cases h2:p.kind=2
   ·simp only[if_neg h1,if_neg h3,if_pos h2];obtain⟨_,hl,hr,_⟩:=R.zau (hrule h2)
    have hfew:∀(s:R.Side) m,R.sideE s m=0->V.Few s:=fun s m h=>by
     obtain⟨a,b,c,_⟩:=R.zct h;have h1:=(R.zbw.1 a).1;have h2:=(R.zbw.1 b).1;have h3:=(R.zbw.1 c).1;exact⟨by omega,by omega,by omega⟩
    refine(zq6 w v p bm bf bu B n f flt HE RR' h2 ⟨hfew _ _ hl,hfew _ _ hr⟩).mono ?_;rintro e w' ⟨he,henv,hb⟩;rw[HT.unkS,HT.unkS] at he;exact⟨he,fun _=>⟨n,f,by omega,henv,HT⟩,hb.mono hF.2.2⟩
   ·simp only[if_neg h1,if_neg h3,if_neg h2];refine(zq7 w v p bm bf bu B n f flt HE RR' ⟨h1,h2,h3⟩).mono ?_;rintro e w' ⟨he,henv,hb⟩;exact⟨he,fun _=>⟨n,f,by omega,henv,HT⟩,hb.mono hF.2.2⟩
theorem zh9 (w:World)(v:Value)(l:List R.Part)(R0:R.Pts w v l)(hgood:(R.wrong l).1=0)(o1:Int)(o2:Nat)(okn:V.Known)(hO:V.ordF 0 (fun _=>none) false l=((o1,o2),okn)) :
  Calls prog 60 #[v] w fun e w'=>((o1=0/\∃B,e= .returned (.tuple #[.map (some B),.agg #[.int .i64 0,.int .i64 0]])/\V.VarsIs w' B okn)∨(o1≠0/\e= .returned (.tuple #[.map none,.agg #[.int .i64 o1,.int .i64 o2]])))/\Below w.heap.size w w':=by
 obtain⟨hl,hE,hck⟩:=R.zf8 hgood;have HO:=qH hO;have HE:=qH hE;have HA:=qH <| fun o=>(qR w).alloc qN o
 have HW:Hid (∀o,Calls prog 111 #[v] (w.alloc o) fun e w'=>e= .returned (.agg #[.int .i64 0,.int .i64 0])/\Below (w.alloc o).heap.size (w.alloc o) w'):=fun o=>by
  have h:=zjm _ _ l (R0.below (HA.out o));rw[hck] at h;exact h
 have HR:=qH R0;obtain⟨ao,cap,rfl⟩:=R0.len;have eg:∀args w,(callFunc 163 args).run prog w= .ok (.enter 163 args) w:=enters_of func163 (by kernel_rfl) rfl;have hmm:=@run_makeMap prog;clear R0 hO hE hck hgood
 go_enter func60,ntmps60
 go_wp2_with fail
 refine(HW.out _).mono ?_;rintro e w1 ⟨rfl,b1⟩;obtain⟨h1,B1,s1⟩:=K.zbh b1;obtain⟨w2,hw2⟩:∃w2,w2=w1.alloc (.cells #[.int .i64 0,.int .i64 0] 38):=⟨_,rfl⟩;have hB2:Below w.heap.size w w2:=by rw[hw2];exact B1.alloc (by omega) _
 have hX2:w2.heap[w.heap.size]?=some (.cells #[.int .i64 0,.int .i64 0] 38):=by rw[hw2];exact(Below.heap_alloc w1 _ _ (by omega)).trans h1
 have hs2:=(qA.1 hX2).1;have hb3:Below w2.heap.size w2 (w2.alloc (.map #[] 0)):=(qR w2).alloc qN _
 have HOr:Hid (Calls prog 112 #[.map (some w2.heap.size)] (w2.alloc (.map #[] 0)) fun e w'=>e= .returned (.func (.func 163) #[] #[.pointer (some ⟨(w2.alloc (.map #[] 0)).heap.size,0,none⟩),.pointer (some ⟨(w2.alloc (.map #[] 0)).heap.size+1,0,none⟩),.pointer (some ⟨(w2.alloc (.map #[] 0)).heap.size+2,0,none⟩)]) /\
   V.Env w' (w2.alloc (.map #[] 0)).heap.size ((w2.alloc (.map #[] 0)).heap.size+1) ((w2.alloc (.map #[] 0)).heap.size+2) w2.heap.size 0 (fun _=>none) false/\Below (w2.alloc (.map #[] 0)).heap.size (w2.alloc (.map #[] 0)) w'/\w'.heap.size=(w2.alloc (.map #[] 0)).heap.size+3):=zqq _ _ _ _ (V.MapIs.made w2)
 have hsz3:(w2.alloc (.map #[] 0)).heap.size=w2.heap.size+1:=by simp
 rw[hsz3] at HOr;have hsz2:w2.heap.size=w1.heap.size+1:=by rw[hw2];simp
 have HB2:=qH hB2;have HX2:=qH hX2;clear b1 B1 HW h1 hB2 hX2 HA
 go_wp2_with fail
 rw[<- hw2,<- hsz2];refine HOr.out.mono ?_;rintro e w3 ⟨rfl,env3,b3,s3⟩;have HEnv:=qH env3;have HB3:=qH <| hb3.trans (b3.mono (by omega));obtain⟨Q,hQ⟩:∃Q,Q=w2.heap.size:=⟨_,rfl⟩;rw[<- hQ];clear b3 s3 env3 HOr hw2 hsz2 hsz3 hb3;go_wp2
 go_loopw [21] (fun i wr=>∃(k n:Nat) (f:ByteArray->Option Value) (kn:V.Known) (flt:Bool),k<=l.length/\i= .int .i64 k/\n<=k/\Hid (V.ordF k kn flt (l.drop k)=((o1,o2),okn))/\Hid (V.Env wr (w2.heap.size+1) (w2.heap.size+1+1) (w2.heap.size+1+2) w2.heap.size n f flt)/\Hid (V.Tells w f kn)/\Hid (Below w2.heap.size w2 wr)) (fun i _=>l.length - (RowKit.intOf i).toNat)
 case atStart=>exact⟨0,0,_,_,_,Nat.zero_le _,rfl,qN,HO,HEnv,V.Tells.none w,HB3⟩
 case round =>
  clear HO HEnv HB3;obtain⟨k,n,f,kn,flt,hk,rfl,hnk,HP,HV,HT,HB⟩:=hrel;have HBW:=qH <| HB2.out.trans (HB.out.mono (by omega))
  have HXr:Hid (wr.heap[w.heap.size]?=some (.cells #[.int .i64 0,.int .i64 0] 38)):=by
   show _=_;rw[HB.out.block _ hs2];exact HX2.out
  by_cases hlt:k<l.length
  ·obtain⟨p,hp⟩:∃x,l[k]?=some x:=⟨l[k],by simp[hlt]⟩;obtain⟨ao',cap',e',hcs⟩:=HR.out;cases e';obtain⟨b,off,rfl,hcell⟩:=hcs (by intro h;subst h;simp at hlt);obtain⟨so,sc,lbo,lbc,lso,lsc,lao,lac,rbo,rbc,rso,rsc,rao,rac,c0,c1,c2,c3,c4,c5,c6,c7,c8,c9,c10,c11,c12,c13,c14,c15,hP⟩:=hcell k p hp;have lb:=L.block_lt c0;rw[<- HBW.out.cell (p:=⟨b,off+k*16,none⟩) lb] at c0;rw[<- HBW.out.cell (p:=⟨b,off+k*16+1,none⟩) lb] at c1;rw[<- HBW.out.cell (p:=⟨b,off+k*16+2,none⟩) lb] at c2;rw[<- HBW.out.cell (p:=⟨b,off+k*16+3,none⟩) lb] at c3;rw[<- HBW.out.cell (p:=⟨b,off+k*16+4,none⟩) lb] at c4;rw[<- HBW.out.cell (p:=⟨b,off+k*16+5,none⟩) lb] at c5;rw[<- HBW.out.cell (p:=⟨b,off+k*16+6,none⟩) lb] at c6;rw[<- HBW.out.cell (p:=⟨b,off+k*16+7,none⟩) lb] at c7;rw[<- HBW.out.cell (p:=⟨b,off+k*16+8,none⟩) lb] at c8;rw[<- HBW.out.cell (p:=⟨b,off+k*16+9,none⟩) lb] at c9;rw[<- HBW.out.cell (p:=⟨b,off+k*16+10,none⟩) lb] at c10;rw[<- HBW.out.cell (p:=⟨b,off+k*16+11,none⟩) lb] at c11;rw[<- HBW.out.cell (p:=⟨b,off+k*16+12,none⟩) lb] at c12;rw[<- HBW.out.cell (p:=⟨b,off+k*16+13,none⟩) lb] at c13;rw[<- HBW.out.cell (p:=⟨b,off+k*16+14,none⟩) lb] at c14;rw[<- HBW.out.cell (p:=⟨b,off+k*16+15,none⟩) lb] at c15;have HE2:Hid (V.ordF k kn flt (l.drop k)=if V.stepE kn flt p=0 then V.ordF (k+1) (V.stepK kn p) (V.stepF flt p) (l.drop (k+1)) else ((V.stepE kn flt p,k),fun _=>none)):=V.zqr hp;have hEp:=HE.out p (List.mem_of_getElem? hp)
   have HN:Hid (∀o,Calls prog 163 #[.agg #[.int .i64 p.kind,.string p.name,.slice so p.set.length sc,.int .i64 p.dir,.bool p.left.start,.bool p.left.fin,.slice lbo p.left.before.length lbc,.slice lso p.left.source.length lsc,.slice lao p.left.after.length lac,.int .i64 p.left.cursor,.bool p.right.start,.bool p.right.fin,.slice rbo p.right.before.length rbc,.slice rso p.right.source.length rsc,.slice rao p.right.after.length rac,.int .i64 p.right.cursor],.pointer (some ⟨w2.heap.size+1,0,none⟩),.pointer (some ⟨w2.heap.size+1+1,0,none⟩),.pointer (some ⟨w2.heap.size+1+2,0,none⟩)] (wr.alloc o) fun e w' =>
     e= .returned (.int .i64 (V.stepE kn flt p))/\(V.stepE kn flt p=0->∃n' f',n'<=n+1/\V.Env w' (w2.heap.size+1) (w2.heap.size+1+1) (w2.heap.size+1+2) w2.heap.size n' f' (V.stepF flt p)/\V.Tells w f' (V.stepK kn p))/\Below w2.heap.size (wr.alloc o) w'):=fun o =>
    zt3 w (wr.alloc o) (HBW.out.alloc HBW.out.size o) _ p _ _ _ _ n f kn flt (HV.out.below ((qR wr).alloc qN o)) HT.out hP hEp (by omega) w2.heap.size ⟨qN,by omega,by have:=HB.out.size;simp;omega⟩
   obtain⟨z,HZ⟩:∃z,Hid (V.stepE kn flt p=z):=⟨_,rfl⟩;rw[HZ.out] at HN HE2;generalize V.stepK kn p=kn' at HN HE2;generalize V.stepF flt p=flt' at HN HE2;have HAl:=qH <| fun o=>HB.out.alloc HB.out.size o
   have hw2r:=HB.out.size;clear hp hcell hcs hP hEp HZ HV HT;obtain⟨pk,pn,ps,pd,⟨lst,lfi,lbe,lsr,laf,lcu⟩,⟨rst,rfi,rbe,rsr,raf,rcu⟩⟩:=p;simp only at c0 c1 c2 c3 c4 c5 c6 c7 c8 c9 c10 c11 c12 c13 c14 c15 HN
   go_wp2_with fail
   refine(HN.out _).mono ?_;rintro e w4 ⟨rfl,hst,b4⟩;have HB4:=qH <| (HAl.out _).trans b4
   have hX4:w4.heap[w.heap.size]?=some (.cells #[.int .i64 0,.int .i64 0] 38):=by
    rw[HB4.out.block _ hs2];exact HX2.out
   clear b4 HN HAl c0 c1 c2 c3 c4 c5 c6 c7 c8 c9 c10 c11 c12 c13 c14 c15
   by_cases hz:z=0
   ·subst hz;obtain⟨n',f',hn',env',tells'⟩:=hst rfl;have HV':=qH env';have HT':=qH tells';clear hst env' tells' hX4;go_wp2
    go_roundw
    case rel=>exact⟨k+1,n',f',kn',flt',by omega,by go_num,by omega,by show _=_;rw[<- HP.out,HE2.out];simp,HV',HT',HB4⟩
    case measure=>simp[RowKit.intOf];omega
   ·obtain⟨x0,x1,f0,f1⟩:=V.box2 hX4;have HBW4:=qH <| HB2.out.trans (HB4.out.mono (by omega));clear hst hX4;go_wp2;refine bodyPost_ret (v:= .tuple #[.map none,.agg #[.int .i64 z,.int .i64 k]]) (by simp[results,results60,go_sem, *]) rfl ?_;have h:=HE2.out;rw[HP.out,if_neg hz] at h;cases h;exact⟨.inr ⟨hz,rfl⟩,(HBW4.out.setCell (p:=⟨w.heap.size,0,none⟩) qN _).setCell (p:=⟨w.heap.size,1,none⟩) qN _⟩
  ·have h:=HP.out;rw[List.drop_eq_nil_of_le (by omega)] at h;have HP2:Hid ((((0:Int),(0:Nat)),kn)=((o1,o2),okn)):=h;obtain⟨x0,x1,f0,f1⟩:=V.box2 HXr.out;clear h HP;go_wp2;refine bodyPost_ret (v:= .tuple #[.map (some w2.heap.size),.agg #[.int .i64 0,.int .i64 0]]) (by simp[results,results60,go_sem, *]) rfl ?_;have he:=HP2.out;simp only[Prod.mk.injEq] at he;obtain⟨⟨rfl,rfl⟩,rfl⟩:=he;have hbb:=HB.out;refine⟨.inl ⟨rfl,w2.heap.size,rfl,n,f,HV.out.2.2.2.1.block ?_,fun s=> ?_⟩,(HBW.out.setCell (p:=⟨w.heap.size,0,none⟩) qN _).setCell (p:=⟨w.heap.size,1,none⟩) qN _⟩
   ·rw[heap_setCell_other _ ⟨w.heap.size,1,none⟩ _ _ (by simp;omega),heap_setCell_other _ ⟨w.heap.size,0,none⟩ _ _ (by simp;omega)]
   ·have hfin:=(HBW.out.setCell (p:=⟨w.heap.size,0,none⟩) qN (.int .i64 0)).setCell (p:=⟨w.heap.size,1,none⟩) qN (.int .i64 0);exact HT.out.below hfin qN s
theorem zdq (w:World)(v:Value)(l:List R.Part)(R0:R.Pts w v l) :
  Calls prog 60 #[v] w fun e w'=>(((V.varsF l).1.1=0/\∃B,e= .returned (.tuple #[.map (some B),.agg #[.int .i64 0,.int .i64 0]])/\V.VarsIs w' B (V.varsF l).2)∨((V.varsF l).1.1≠0/\e= .returned (.tuple #[.map none,.agg #[.int .i64 (V.varsF l).1.1,.int .i64 (V.varsF l).1.2]])))/\Below w.heap.size w w':=by
 unfold V.varsF
 by_cases hg:(R.wrong l).1=0
 ·rw[if_pos hg];obtain⟨⟨⟨o1,o2⟩,okn⟩,hO⟩:∃o,V.ordF 0 (fun _=>none) false l=o:=⟨_,rfl⟩;rw[hO];exact zh9 w v l R0 hg o1 o2 okn hO
 ·rw[if_neg hg];exact(zg4 w v l R0 hg).mono fun e w' ⟨h1,h2⟩=>⟨.inr ⟨hg,h1⟩,h2⟩
end
section
open Go.RowKit
namespace V
theorem zik:∀ {ps:List Pass} {rvs:List Value} {j:Nat} {p:Pass} {rv:Value},ps[j]?=some p->rvs[j]?=some rv->(pcells ps rvs)[j*2]?=some (.string p.name)/\(pcells ps rvs)[j*2+1]?=some rv
 | [],_,j,p,rv,h,_=>by simp at h
 | _::_,[],j,p,rv,_,h=>by simp at h
 | q::ps,sv::rvs,0,p,rv,h1,h2=>by
  cases h1;cases h2;exact⟨rfl,rfl⟩
 | q::ps,sv::rvs,j+1,p,rv,h1,h2=>by
  have h:=zik (ps:=ps) (rvs:=rvs) (j:=j) (p:=p) (rv:=rv) (by simpa using h1) (by simpa using h2);have e1:(j+1)*2=j*2+1+1:=by omega
  have e2:(j+1)*2+1=j*2+1+1+1:=by omega
  have e:pcells (q::ps) (sv::rvs)= .string q.name::sv::pcells ps rvs:=rfl;rw[e,e2,e1];simpa using h
theorem RuRow.rus {F:Nat}{tops:List Nat}{w:World}{rv:Value}{rs:List K.Rule}(h:RuRow F tops w rv rs)(hl:rs.length<=1000):Rus w rv rs:=by
 obtain⟨cs,own,hcl,hcs,hm⟩:=h;rcases own.2 with ⟨e,h0⟩|⟨g,cap,cur,e,_⟩
 ·have:rs= []:=List.length_eq_zero_iff.1 h0;subst this;subst e;exact Rus.nil w
 ·subst e;refine⟨some ⟨g,0,none⟩,cap,rfl,by omega,fun _=>⟨g,0,rfl,fun j r hj=> ?_⟩⟩;have hcell:=World.ownsRow.cells own (g:=g) rfl
  obtain⟨c,hc⟩:∃c,cs[j]?=some c:=by
   have:j<cs.length:=by rw[hcl];exact(qL.1 hj).1
   exact⟨cs[j],by simp[this]⟩
  have hr:=(hm j r c hj hc).here;obtain⟨bo,bc,so,sc,ao,ac,to',tc,he,hrest⟩:=hr
  have he2:c= [.bool r.start,.bool r.fin,.slice bo r.before.length bc,.slice so r.source.length sc,.slice ao r.after.length ac,.slice to' r.target.length tc,.int .i64 r.cursor]:=by
   have h2:=Value.agg.inj he;simpa using congrArg Array.toList h2
  have at':∀(q:Nat) u,c[q]?=some u->w.cell? ⟨g,0+j*7+q,none⟩=some u:=fun q u hq=>by
   have h1:=hcell (j*7+q) u (R.flat_get (k:=7) (fun c hc=>(hcs c hc).1) j q c u hc hq);rw[L.addr_add] at h1;simpa [Nat.add_assoc] using h1
  subst he2;exact⟨bo,bc,so,sc,ao,ac,to',tc,at' 0 _ rfl,at' 1 _ rfl,at' 2 _ rfl,at' 3 _ rfl,at' 4 _ rfl,at' 5 _ rfl,at' 6 _ rfl,⟨bo,bc,so,sc,ao,ac,to',tc,rfl,hrest⟩⟩
theorem PS.pas {F:Nat}{tops:List Nat}{w:World}{vp:Value}{ps:List Pass}{rvs:List Value}(h:PS F tops w vp ps rvs)(hl:ps.length<=1000)(hr:∀p∈ps,p.rules.length<=1000):Pas w vp ps:=by
 rcases h.own.2 with ⟨e,h0⟩|⟨g,cap,cur,e,_⟩
 ·have:ps= []:=List.length_eq_zero_iff.1 h0;subst this;subst e;exact Pas.nil w
 ·subst e;refine⟨some ⟨g,0,none⟩,cap,rfl,by omega,fun _=>⟨g,0,rfl,fun j p hj=> ?_⟩⟩
  obtain⟨rv,hrv⟩:∃rv,rvs[j]?=some rv:=by
   have:j<rvs.length:=by rw[h.len];exact(qL.1 hj).1
   exact⟨rvs[j],by simp[this]⟩
  have hcell:=World.ownsRow.cells h.own (g:=g) rfl;obtain⟨a1,a2⟩:=zik hj hrv;have c1:=hcell _ _ a1;have c2:=hcell _ _ a2;rw[L.addr_add] at c1 c2;obtain⟨hrow,hn⟩:=h.rows j p rv hj hrv;have hrus:=hrow.rus (hr p (List.mem_of_getElem? hj));obtain⟨ro,rc,rfl⟩:=hrus.len;exact⟨c1,hn,ro,rc,by simpa [Nat.add_assoc] using c2,hrus⟩
theorem zw3 {l:List S.Sp}(h:S.wrongE l=0):S.Fit l:=S.Fit.zdd (S.zaw.1 h).2 (by decide)
theorem zeu {l:List R.Item}(h:R.itemsE l=0):Right l:=R.zbw.1 h
theorem zr3 {g:ByteArray->List S.Sp}(hg:∀s,S.Fit (g s)){x:R.Item}(h:R.itemE x=0):S.Fit (setOf g x):=by
 rcases R.zkn h with ⟨h1,h2⟩|⟨h1,h2⟩|⟨h1,h2⟩
 ·have h3:0<=x.rune/\x.rune<=1114111:=by
   simp only[M.right,decide_eq_true_eq] at h2;omega
  unfold setOf;simp only[h1];intro y hy;simp at hy;subst hy;simp only;omega
 ·unfold setOf;simp only[h1];simpa using zw3 h2
 ·unfold setOf;simp only[h1];simpa using hg _
theorem zne {ps:List Pass}{r:K.Rule}{k:Nat}(h:ps.length<=k/\∀p∈ps,p.rules.length<=k):(putP ps r).length<=k+1/\∀p∈putP ps r,p.rules.length<=k+1:=by
 unfold putP;cases hl:ps.getLast? with
 | none =>
  have:ps= []:=List.getLast?_eq_none_iff.1 hl;subst this;simp
 | some q =>
  obtain⟨init,rfl⟩:=List.getLast?_eq_some_iff.1 hl;have hq:=h.2 q (by simp);have hi:∀p∈init,p.rules.length<=k:=fun p hp=>h.2 p (by simp[hp])
  have hlen:=h.1;simp at hlen;simp only;split
  ·refine⟨by simp;omega,fun p hp=> ?_⟩;simp at hp;rcases hp with hp | rfl
   ·have:=hi p hp;omega
   ·simp;omega
  ·refine⟨by simp;omega,fun p hp=> ?_⟩;simp at hp;rcases hp with hp | rfl | rfl
   ·have:=hi p hp;omega
   ·omega
   ·simp
theorem zhd {g:ByteArray->List S.Sp}{s:Script}{p:R.Part}{k:Nat}(h:s.passes.length<=k/\∀p∈s.passes,p.rules.length<=k):(scrStep g s p).passes.length<=k+1/\∀q∈(scrStep g s p).passes,q.rules.length<=k+1:=by
 have h':s.passes.length<=k+1/\∀p∈s.passes,p.rules.length<=k+1:=⟨by have:=h.1;omega,fun p hp=>by have:=h.2 p hp;omega⟩;unfold scrStep;split
 ·exact h'
 ·split
  ·refine⟨by have:=h.1;simp;omega,fun q hq=> ?_⟩;simp at hq;rcases hq with hq | rfl
   ·exact h'.2 q hq
   ·simp
  ·split
   ·split
    ·exact h'
    ·exact zne h
   ·exact h'
theorem zii (g:ByteArray->List S.Sp)(l:List R.Part):∀k,k<=l.length->(scr g (l.take k)).passes.length<=k/\∀p∈(scr g (l.take k)).passes,p.rules.length<=k:=by
 intro k
 induction k with
 | zero=>intro _;simp[scr]
 | succ k ih =>
  intro hk;have e:l.take (k+1)=l.take k++ [l[k]]:=by rw[List.take_add_one,List.getElem?_eq_getElem (by omega)];rfl
  have h:=zhd (g:=g) (p:=l[k]) (ih (by omega));rw[e];unfold scr at h ⊢;rw[List.foldl_append];exact h
end V
theorem K.zaq {w:World}{g:Nat}{c:Array Value}{t:TypeId}(h:w.heap[g]?=some (.cells c t))(o:Obj)(i:Nat):(w.alloc o).frozen? ⟨g,i,none⟩=false:=by
 have e:=Below.heap_alloc w o g (qA.1 h).1;rw[World.frozen?,show (w.alloc o).heap[(⟨g,i,none⟩:Addr).block]?=w.heap[g]? from e,h];simp
theorem K.zai {w:World}{a:Addr}{v:Value}(h:w.cell? a=some v)(o:Obj):(w.alloc o).cell? a=some v:=by
 have e:=Below.heap_alloc w o a.block (World.block_lt_of_cell? w a h);rw[World.cell?_of_block e];exact h
end
section
open Go.RowKit Go.Lib
theorem V.five {w W:World}{B a b:Nat}(hb:Below B w W)(ha:B<=a)(hbb:B<=b)(v0 v1 v2 v3 v4:Value) :
  Below B w (((((W.setCell ⟨a,0,none⟩ v0).setCell ⟨a,1,none⟩ v1).setCell ⟨a,2,none⟩ v2).setCell ⟨b,0,none⟩ v3).setCell ⟨b,1,none⟩ v4) :=
 ((((hb.setCell (p:=⟨a,0,none⟩) ha _).setCell (p:=⟨a,1,none⟩) ha _).setCell (p:=⟨a,2,none⟩) ha _).setCell (p:=⟨b,0,none⟩) hbb _).setCell (p:=⟨b,1,none⟩) hbb _
theorem zrz (w:World)(v:Value)(l:List R.Part)(R0:R.Pts w v l)(hbad:(V.varsF l).1.1≠0) :
  Calls prog 25 #[v] w fun e w'=>e= .returned (.tuple #[.agg #[.bool false,.slice none 0 0,.slice none 0 0],.agg #[.int .i64 (V.varsF l).1.1,.int .i64 (V.varsF l).1.2]])/\Below w.heap.size w w':=by
 have HA:=qH <| fun o1 o2=>((qR w).alloc qN o1).alloc (by simp) o2
 have HC:Hid (∀o1 o2,Calls prog 60 #[v] ((w.alloc o1).alloc o2) fun e w'=>e= .returned (.tuple #[.map none,.agg #[.int .i64 (V.varsF l).1.1,.int .i64 (V.varsF l).1.2]])/\Below ((w.alloc o1).alloc o2).heap.size ((w.alloc o1).alloc o2) w'):=fun o1 o2 =>
  (zdq _ _ l (R0.below (HA.out _ _))).mono fun e w' ⟨h1,h2⟩=>⟨h1.elim (fun h=>absurd h.1 hbad) fun h=>h.2,h2⟩
 obtain⟨ao,cap,rfl⟩:=R0.len;obtain⟨⟨⟨e1,e2⟩,kn⟩,he⟩:∃o,V.varsF l=o:=⟨_,rfl⟩;rw[he] at HC hbad ⊢;simp only at HC hbad ⊢;clear he R0
 go_enter func25,ntmps25
 go_wp2_with fail
 refine(HC.out _ _).mono ?_;rintro e w1 ⟨rfl,b1⟩;obtain⟨h1,h2,B1,s1⟩:=K.zbo b1;have HB2:=qH <| fun o=>B1.alloc (by omega) o
 have k0:∀o,(w1.alloc o).cell? ⟨w.heap.size,0,none⟩=some (.bool false):=fun o=>K.zai (K.zah h1 rfl) o
 have k1:∀o,(w1.alloc o).cell? ⟨w.heap.size,1,none⟩=some (.slice none 0 0):=fun o=>K.zai (K.zah h1 rfl) o
 have k2:∀o,(w1.alloc o).cell? ⟨w.heap.size,2,none⟩=some (.slice none 0 0):=fun o=>K.zai (K.zah h1 rfl) o
 have k3:∀o,(w1.alloc o).cell? ⟨w.heap.size+1,0,none⟩=some (.int .i64 0):=fun o=>K.zai (K.zah h2 rfl) o
 have k4:∀o,(w1.alloc o).cell? ⟨w.heap.size+1,1,none⟩=some (.int .i64 0):=fun o=>K.zai (K.zah h2 rfl) o
 have g0:=fun o i=>K.zaq h1 o i
 have g1:=fun o i=>K.zaq h2 o i
 clear b1 B1 HC h1 h2;go_wp2
 go_region
 go_wp2;refine bodyPost_ret (v:= .tuple #[.agg #[.bool false,.slice none 0 0,.slice none 0 0],.agg #[.int .i64 e1,.int .i64 e2]]) (by simp[results,results25,go_sem, *]) rfl ?_
 exact⟨rfl,(V.five (HB2.out _) qN (by omega) _ _ _ _ _).drew⟩
end
section
open Go.RowKit Go.Lib
namespace V
theorem done {F:Nat}{tops:List Nat}{w:World}{vo vp:Value}{s:Script}{rvs:List Value}(hL:Leaf tops w fun W=>S.Rd W vo s.only)(hn:s.only.length<=17592186044160)(hP:PS F tops w vp s.passes rvs)(hl:s.passes.length<=1000)(hr:∀p∈s.passes,p.rules.length<=1000){a b:Nat}(ha:a∈tops)(hb:b∈tops)(haF:a<F)(hbF:b<F)(v0 v1 v2 v3 v4:Value) :
  ScIs (((((w.setCell ⟨a,0,none⟩ v0).setCell ⟨a,1,none⟩ v1).setCell ⟨a,2,none⟩ v2).setCell ⟨b,0,none⟩ v3).setCell ⟨b,1,none⟩ v4) (.agg #[.bool s.has,vo,vp]) s:=by
 have h1:=(((((hL.moves (Moves.store w 0 v0 ha)).moves (Moves.store _ 1 v1 ha)).moves (Moves.store _ 2 v2 ha)).moves (Moves.store _ 0 v3 hb)).moves (Moves.store _ 1 v4 hb)).here;have h2:=(((((hP.store 0 v0 ha haF).store 1 v1 ha haF).store 2 v2 ha haF).store 0 v3 hb hbF).store 1 v4 hb hbF).pas hl hr;obtain⟨oo,oc,rfl⟩:=zee h1;obtain⟨po,pc,rfl⟩:=h2.len;exact⟨oo,oc,po,pc,rfl,h1,by omega,h2⟩
theorem PS.moved {F:Nat}{tops:List Nat}{w:World}{vp:Value}{ps:List Pass}{rvs:List Value}(h:PS F tops w vp ps rvs){W:World}(hs:w.heap.size<=W.heap.size)(hn:∀b,b<w.heap.size->b∉tops->W.heap[b]?=w.heap[b]?)(ho:∀k,F<=k->k<w.heap.size->W.heap[k]?=w.heap[k]?):PS F tops W vp ps rvs :=
 ⟨h.len,zdy h.own fun g hg=>ho g (h.own.lt g hg).1 (h.own.lt g hg).2,fun j p rv h1 h2=>⟨(h.rows j p rv h1 h2).1.step hs hn (fun k hk=> .inl hk) fun g hg=>ho g (h.rvlt (List.mem_of_getElem? h2) g hg).1 (h.rvlt (List.mem_of_getElem? h2) g hg).2,(h.rows j p rv h1 h2).2⟩,h.top,h.apart,h.diff,fun k hk=>Nat.lt_of_lt_of_le (h.lt k hk) hs⟩
def Firm (F:Nat) (w:World) (v:Value) (s:Script):Prop:=∀W:World,w.heap.size<=W.heap.size->(∀b,F<=b->b<w.heap.size->W.heap[b]?=w.heap[b]?)->ScIs W v s
theorem Firm.here {F:Nat}{w:World}{v:Value}{s:Script}(h:Firm F w v s):ScIs w v s:=h w qN fun _ _ _=>rfl
theorem Firm.on {F:Nat}{w w':World}{v:Value}{s:Script}(h:Firm F w v s)(hs:w.heap.size<=w'.heap.size)(hb:∀b,F<=b->b<w.heap.size->w'.heap[b]?=w.heap[b]?):Firm F w' v s :=
 fun W h1 h2=>h W (Nat.le_trans hs h1) fun b hF hl=>(h2 b hF (Nat.lt_of_lt_of_le hl hs)).trans (hb b hF hl)
theorem Firm.store {F:Nat}{w:World}{v:Value}{s:Script}(h:Firm F w v s)(a i:Nat)(u:Value)(ha:a<F):Firm F (w.setCell ⟨a,i,none⟩ u) v s :=
 h.on (by simp) fun b hF _=>heap_setCell_other w ⟨a,i,none⟩ b u (by simp;omega)
theorem done2 {F B T:Nat}{tops:List Nat}{w:World}{vo vp:Value}{s:Script}{rvs:List Value}(hL:Leaf tops w fun W=>S.Rd W vo s.only)(hn:s.only.length<=17592186044160)(hP:PS F tops w vp s.passes rvs)(hl:s.passes.length<=1000)(hr:∀p∈s.passes,p.rules.length<=1000)(hall:∀q,q<=T->q∈tops)(hB:B+1<=T)(hF:T<F)(v0 v1 v2 v3 v4:Value) :
  Firm B (((((w.setCell ⟨B,0,none⟩ v0).setCell ⟨B,1,none⟩ v1).setCell ⟨B,2,none⟩ v2).setCell ⟨B+1,0,none⟩ v3).setCell ⟨B+1,1,none⟩ v4) (.agg #[.bool s.has,vo,vp]) s:=by
 intro W hs hW;have hsz:w.heap.size<=W.heap.size:=by simpa using hs
 have hk:∀k,T<k->k<w.heap.size->W.heap[k]?=w.heap[k]?:=fun k h1 h2=>by
  have e:=hW k (by omega) (by simpa using h2);rw[heap_setCell_other _ ⟨B+1,1,none⟩ k _ (by simp;omega),heap_setCell_other _ ⟨B+1,0,none⟩ k _ (by simp;omega),heap_setCell_other _ ⟨B,2,none⟩ k _ (by simp;omega),heap_setCell_other _ ⟨B,1,none⟩ k _ (by simp;omega),heap_setCell_other _ ⟨B,0,none⟩ k _ (by simp;omega)] at e;exact e
 have hnt:∀b,b<w.heap.size->b∉tops->W.heap[b]?=w.heap[b]?:=fun b hb hn=>hk b (Classical.byContradiction fun h=>hn (hall b (by omega))) hb
 have h1:=hL W hsz hnt;have h2:=(hP.moved hsz hnt fun k hF' hl=>hk k (by omega) hl).pas hl hr;obtain⟨oo,oc,rfl⟩:=zee h1;obtain⟨po,pc,rfl⟩:=h2.len;exact⟨oo,oc,po,pc,rfl,h1,by omega,h2⟩
theorem zvy {l:List R.Part}(h:(varsF l).1.1=0):l.length<=200/\(∀p∈l,R.partE p=0):=by
 unfold varsF at h
 by_cases hg:(R.wrong l).1=0
 ·have:=R.zf8 hg;exact⟨this.1,this.2.1⟩
 ·rw[if_neg hg] at h;exact absurd h hg
theorem zwk {g:ByteArray->List S.Sp}(hg:∀s,S.Fit (g s)){p:R.Part}(h:R.partE p=0):PartOk g p:=by
 rcases R.zkb h with ⟨h1,h2,h3⟩|⟨h1,h2⟩|⟨h1,h2⟩|⟨h1,h2⟩
 ·exact⟨fun e=>by omega,fun e=>by omega,fun e=>by omega⟩
 ·exact⟨fun e=>by have:=(S.zaw.1 h2).1;omega,fun e=>by omega,fun e=>by omega⟩
 ·refine⟨fun e=>by omega,fun _=> ?_,fun e=>by omega⟩;unfold R.passes at h2;have h3:=of_decide_eq_true h2;have hs:p.name.size=p.name.toList.length:=by simp[ByteArray.toList_eq]
  rw[hs];rcases h3 with h3 | h3 | h3 | h3 <;> rw[h3] <;> decide
 ·refine⟨fun e=>by omega,fun e=>by omega,fun _ _=> ?_⟩;obtain⟨_,hl,hr,_⟩:=R.zau h2;obtain⟨a1,a2,a3,_⟩:=R.zct hl;obtain⟨b1,b2,b3,_⟩:=R.zct hr;have r1:=zeu a1;have r2:=zeu a2;have r3:=zeu a3
  exact⟨⟨r1,r2,r3⟩,zeu b2,fun x hx=>by
   rcases hx with hx | hx | hx
   ·exact zr3 hg (r1.2 x hx)
   ·exact zr3 hg (r2.2 x hx)
   ·exact zr3 hg (r3.2 x hx)⟩
end V
theorem zom (w:World)(v:Value)(l:List R.Part)(R0:R.Pts w v l)(hg:(V.varsF l).1.1=0) :
  Calls prog 25 #[v] w fun e w'=>∃v',e= .returned (.tuple #[v',.agg #[.int .i64 0,.int .i64 0]])/\V.Firm w.heap.size w' v' (V.scr (V.gOf (V.varsF l).2) l)/\Below w.heap.size w w':=by
 obtain⟨hlen,hE⟩:=V.zvy hg;have HA:=qH <| fun o1 o2=>((qR w).alloc qN o1).alloc (by simp) o2
 have HC:Hid (∀o1 o2,Calls prog 60 #[v] ((w.alloc o1).alloc o2) fun e w'=>(∃B,e= .returned (.tuple #[.map (some B),.agg #[.int .i64 0,.int .i64 0]])/\V.VarsIs w' B (V.varsF l).2)/\Below ((w.alloc o1).alloc o2).heap.size ((w.alloc o1).alloc o2) w'):=fun o1 o2 =>
  (zdq _ _ l (R0.below (HA.out _ _))).mono fun e w' ⟨h1,h2⟩=>⟨h1.elim (fun h=>h.2) fun h=>absurd hg h.1,h2⟩
 have HR:=qH R0;obtain⟨ao,cap,rfl⟩:=R0.len;obtain⟨kn,hk⟩:∃o,(V.varsF l).2=o:=⟨_,rfl⟩;rw[hk] at HC ⊢;have HE:=qH hE;clear hk R0 hg hE
 go_enter func25,ntmps25
 go_wp2_with fail
 refine(HC.out _ _).mono ?_;rintro e w1 ⟨⟨B,rfl,n,f,hM,hT⟩,b1⟩;obtain⟨h1,h2,B1,s1⟩:=K.zbo b1;obtain⟨w2,hw2⟩:∃w2,w2=w1.alloc (.cells #[.int .i64 0,.int .i64 0] 38):=⟨_,rfl⟩;have bb:Below w1.heap.size w1 w2:=by rw[hw2];exact(qR w1).alloc qN _
 have hB2:=B1.trans (bb.mono (by omega));have hs2:w.heap.size+2<w2.heap.size:=by rw[hw2];simp;omega
 have x2:=(bb.block _ (by omega)).trans h1;have y2:=(bb.block _ (by omega)).trans h2;have HX:Hid (w2.heap[w.heap.size]?=some (.cells #[.bool false,.slice none 0 0,.slice none 0 0] 27)/\w2.heap[w.heap.size+1]?=some (.cells #[.int .i64 0,.int .i64 0] 38)):=⟨x2,y2⟩;have hT2:=hT.below bb qN;have hgf:∀s,S.Fit (V.gOf kn s):=fun s=>(hT s).2.2.2
 have HS:Hid (Calls prog 61 #[.slice ao l.length cap,.map (some B)] (w1.alloc (.cells #[.int .i64 0,.int .i64 0] 38)) fun e w'=>∃tops vo vp rvs,e= .returned (.agg #[.bool (V.scr (V.gOf kn) l).has,vo,vp])/\V.Leaf tops w' (fun W=>S.Rd W vo (V.scr (V.gOf kn) l).only)/\(V.scr (V.gOf kn) l).only.length<=17592186044160/\V.PS (w2.heap.size+2) tops w' vp (V.scr (V.gOf kn) l).passes rvs/\((V.scr (V.gOf kn) l).passes= []->vp= .slice none 0 0)/\(∀q,q<=w2.heap.size->q∈tops)/\Below w2.heap.size w2 w'):=by
  rw[<- hw2];exact zm8 w2 _ l (HR.out.below hB2) (by omega) B n f (V.gOf kn) (hM.below bb hM.lt) (fun s=>⟨(hT2 s).2.1,by have:=(hT2 s).2.2.1;unfold V.gOf;omega⟩) (fun p hp=>V.zwk hgf (HE.out p hp)) (fun k hk=>V.zii _ l k hk)
 have HSm:Hid ((V.scr (V.gOf kn) l).passes.length<=1000/\∀p∈(V.scr (V.gOf kn) l).passes,p.rules.length<=1000):=by
  have h:=V.zii (V.gOf kn) l l.length qN;rw[List.take_length] at h;exact⟨by have:=h.1;omega,fun p hp=>by have:=h.2 p hp;omega⟩
 have HB2:=qH hB2;clear hM hT b1 h1 h2 B1 bb hB2 x2 y2 hT2 hgf HC HE HR HA hw2
 go_wp2_with fail
 refine HS.out.mono ?_;rintro e w3 ⟨tops,vo,vp,rvs,rfl,hL,hfew,hPS,_,hall,b3⟩;have x3:=(b3.block _ (by omega)).trans HX.out.1;have y3:=(b3.block _ (by omega)).trans HX.out.2;obtain⟨r0,r1,r2,f0,f1,f2⟩:=V.box3 x3;obtain⟨u0,u1,g0,g1⟩:=V.box2 y3;have HD:Hid (∀v0 v1 v2 v3 v4,V.Firm w.heap.size (((((w3.setCell ⟨w.heap.size,0,none⟩ v0).setCell ⟨w.heap.size,1,none⟩ v1).setCell ⟨w.heap.size,2,none⟩ v2).setCell ⟨w.heap.size+1,0,none⟩ v3).setCell ⟨w.heap.size+1,1,none⟩ v4) (.agg #[.bool (V.scr (V.gOf kn) l).has,vo,vp]) (V.scr (V.gOf kn) l)):=fun v0 v1 v2 v3 v4=>V.done2 hL hfew hPS HSm.out.1 HSm.out.2 hall (by omega) (by omega) v0 v1 v2 v3 v4
 have HB3:=qH <| HB2.out.trans (b3.mono (by omega));obtain⟨oo,oc,hvo⟩:=V.zee hL.here;obtain⟨po,pn,pc,hvp⟩:=V.zfi hPS;have l3:=L.block_lt r0;have l4:=L.block_lt u0;subst hvo hvp;clear hL hfew hPS hall b3 x3 y3 HX HS HSm HB2;go_wp2;refine bodyPost_ret (v:= .tuple #[.agg #[.bool (V.scr (V.gOf kn) l).has,.slice oo (V.scr (V.gOf kn) l).only.length oc,.slice po pn pc],.agg #[.int .i64 0,.int .i64 0]]) (by simp[results,results25,go_sem, *]) rfl ?_;exact⟨_,rfl,HD.out _ _ _ _ _,V.five HB3.out qN (by omega) _ _ _ _ _⟩
theorem zuv (w:World)(v:Value)(l:List R.Part)(R0:R.Pts w v l)(hg:(V.varsF l).1.1=0) :
  Calls prog 25 #[v] w fun e w'=>∃v',e= .returned (.tuple #[v',.agg #[.int .i64 0,.int .i64 0]])/\V.ScIs w' v' (V.scr (V.gOf (V.varsF l).2) l)/\Below w.heap.size w w' :=
 (zom w v l R0 hg).mono fun _ _ ⟨v',h1,h2,h3⟩=>⟨v',h1,h2.here,h3⟩
theorem zr0 (w:World)(v:Value)(l:List R.Part)(R0:R.Pts w v l) :
  Calls prog 25 #[v] w fun e w'=>∃v',e= .returned (.tuple #[v',.agg #[.int .i64 (V.forthF l).2.1,.int .i64 ((V.forthF l).2.2:Nat)]])/\V.ScIs w' v' (V.forthF l).1/\Below w.heap.size w w':=by
 unfold V.forthF
 by_cases hg:(V.varsF l).1.1=0
 ·rw[if_pos hg];exact zuv w v l R0 hg
 ·rw[if_neg hg];exact(zrz w v l R0 hg).mono fun e w' ⟨h1,h2⟩=>⟨_,h1,⟨none,0,none,0,rfl,S.Rd.nil _,by simp,V.Pas.nil _⟩,h2⟩
