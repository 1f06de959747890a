import Derived.Test.YtcadaallpiekiaaGreatDoorShScrV
import Derived.Deep.MidRow
set_option maxHeartbeats 0
set_option maxRecDepth 20000
set_option linter.unusedSimpArgs false
set_option linter.unusedVariables false
namespace Go.Proofs.YtcadaallpiekiaaGreatDoor
open Go.Proofs.Tryz
namespace Sh
open Go.RowKit
set_option maxRecDepth 40000
def Fine (name:ByteArray):Prop:=∃t l q,textF name=(t,0)/\t.size<=1099511627776/\R.read (M.rn t)=.ok l q/\(V.varsF l).1.1=0
theorem zhx {name:ByteArray}{sc:V.Script}(h:Scr name sc):Fine name:=by
 obtain⟨t,l,q,h1,h2,h3,h4⟩:=h;refine⟨t,l,q,h1,h2,h3,?_⟩
 by_cases h:(V.varsF l).1.1=0
 ·exact h
 ·unfold V.forthF at h4;rw[if_neg h] at h4;exact absurd (congrArg (fun x=>x.2.1) h4) h
theorem zbe {name t:ByteArray}{u:List Int}(h1:textF name=(t,0))(h2:t.size<=1099511627776)(hr:T.rightL u)(he:T.bytesR u=t.data.toList)(key:(match R.read u with | .ok l _=>decide ((V.varsF l).1.1=0) | .bad _ _=>false)=true):Fine name:=by
 have hx:M.rn t=u:=by
  have h:=T.zc3 hr;rw[he] at h;exact h
 cases h:R.read u with
 | ok l q=>rw[h] at key;exact⟨t,l,q,h1,h2,by rw[hx];exact h,of_decide_eq_true key⟩
 | bad e q=>rw[h] at key;cases key
def vArrows:List Int:= [39,45,62,39,32,62,32,8594,32,59,10,39,60,45,39,32,62,32,8592,32,59,10]
theorem fineArrows:Fine nArrows:=zbe (t:=tArrows) (u:=vArrows) (by decide +kernel) (by decide) (by unfold T.rightL;decide) (by decide +kernel) (by kernel_rfl)
def vBlanks:List Int:= [35,32,111,110,101,32,98,108,97,110,107,32,119,104,101,114,101,32,116,104,101,114,101,32,119,101,114,101,32,109,111,114,101,10,39,32,39,32,123,32,39,32,39,32,62,32,59,10]
theorem fineBlanks:Fine nBlanks:=zbe (t:=tBlanks) (u:=vBlanks) (by decide +kernel) (by decide) (by unfold T.rightL;decide) (by decide +kernel) (by kernel_rfl)
def vCaesar:List Int:= [97,32,60,62,32,98,32,59,10,98,32,60,62,32,99,32,59,10,99,32,60,62,32,100,32,59,10,100,32,60,62,32,101,32,59,10,101,32,60,62,32,102,32,59,10,102,32,60,62,32,103,32,59,10,103,32,60,62,32,104,32,59,10,104,32,60,62,32,105,32,59,10,105,32,60,62,32,106,32,59,10,106,32,60,62,32,107,32,59,10,107,32,60,62,32,108,32,59,10,108,32,60,62,32,109,32,59,10,109,32,60,62,32,110,32,59,10,110,32,60,62,32,111,32,59,10,111,32,60,62,32,112,32,59,10,112,32,60,62,32,113,32,59,10,113,32,60,62,32,114,32,59,10,114,32,60,62,32,115,32,59,10,115,32,60,62,32,116,32,59,10,116,32,60,62,32,117,32,59,10,117,32,60,62,32,118,32,59,10,118,32,60,62,32,119,32,59,10,119,32,60,62,32,120,32,59,10,120,32,60,62,32,121,32,59,10,121,32,60,62,32,122,32,59,10,122,32,60,62,32,97,32,59,10]
theorem fineCaesar:Fine nCaesar:=zbe (t:=tCaesar) (u:=vCaesar) (by decide +kernel) (by decide) (by unfold T.rightL;decide) (by decide +kernel) (by kernel_rfl)
def vCyrillic:List Int:= [1078,32,60,62,32,122,104,32,59,10,1093,32,60,62,32,107,104,32,59,10,1072,32,60,62,32,97,32,59,10,1073,32,60,62,32,98,32,59,10,1074,32,60,62,32,118,32,59,10,1075,32,60,62,32,103,32,59,10,1076,32,60,62,32,100,32,59,10,1077,32,60,62,32,101,32,59,10,1079,32,60,62,32,122,32,59,10,1080,32,60,62,32,105,32,59,10,1081,32,60,62,32,106,32,59,10,1082,32,60,62,32,107,32,59,10,1083,32,60,62,32,108,32,59,10,1084,32,60,62,32,109,32,59,10,1085,32,60,62,32,110,32,59,10,1086,32,60,62,32,111,32,59,10,1087,32,60,62,32,112,32,59,10,1088,32,60,62,32,114,32,59,10,1089,32,60,62,32,115,32,59,10,1090,32,60,62,32,116,32,59,10,1091,32,60,62,32,117,32,59,10,1092,32,60,62,32,102,32,59,10]
theorem fineCyrillic:Fine nCyrillic:=zbe (t:=tCyrillic) (u:=vCyrillic) (by decide +kernel) (by decide) (by unfold T.rightL;decide) (by decide +kernel) (by kernel_rfl)
def vDashes:List Int:= [39,45,45,45,39,32,62,32,8212,32,59,10,39,45,45,39,32,62,32,8211,32,59,10]
theorem fineDashes:Fine nDashes:=zbe (t:=tDashes) (u:=vDashes) (by decide +kernel) (by decide) (by unfold T.rightL;decide) (by decide +kernel) (by kernel_rfl)
def vEdges:List Int:= [35,32,110,111,32,98,108,97,110,107,32,97,116,32,101,105,116,104,101,114,32,101,110,100,10,94,32,123,32,39,32,39,32,62,32,59,10,39,32,39,32,125,32,36,32,62,32,59,10]
theorem fineEdges:Fine nEdges:=zbe (t:=tEdges) (u:=vEdges) (by decide +kernel) (by decide) (by unfold T.rightL;decide) (by decide +kernel) (by kernel_rfl)
def vGerman:List Int:= [228,32,62,32,97,101,32,59,10,246,32,62,32,111,101,32,59,10,252,32,62,32,117,101,32,59,10,223,32,62,32,115,115,32,59,10,196,32,62,32,65,101,32,59,10,214,32,62,32,79,101,32,59,10,220,32,62,32,85,101,32,59,10]
theorem fineGerman:Fine nGerman:=zbe (t:=tGerman) (u:=vGerman) (by decide +kernel) (by decide) (by unfold T.rightL;decide) (by decide +kernel) (by kernel_rfl)
def vGreek:List Int:= [958,32,60,62,32,120,32,59,10,952,32,60,62,32,116,104,32,59,10,945,32,60,62,32,97,32,59,10,946,32,60,62,32,98,32,59,10,947,32,60,62,32,103,32,59,10,948,32,60,62,32,100,32,59,10,949,32,60,62,32,101,32,59,10,950,32,60,62,32,122,32,59,10,951,32,60,62,32,275,32,59,10,953,32,60,62,32,105,32,59,10,954,32,60,62,32,107,32,59,10,955,32,60,62,32,108,32,59,10,956,32,60,62,32,109,32,59,10,957,32,60,62,32,110,32,59,10,959,32,60,62,32,111,32,59,10,960,32,60,62,32,112,32,59,10,961,32,60,62,32,114,32,59,10,963,32,60,62,32,115,32,59,10,964,32,60,62,32,116,32,59,10,965,32,60,62,32,117,32,59,10,966,32,60,62,32,102,32,59,10,967,32,60,62,32,99,104,32,59,10,968,32,60,62,32,349,32,59,10,969,32,60,62,32,333,32,59,10]
theorem fineGreek:Fine nGreek:=zbe (t:=tGreek) (u:=vGreek) (by decide +kernel) (by decide) (by unfold T.rightL;decide) (by decide +kernel) (by kernel_rfl)
def vLeet:List Int:= [58,58,32,108,111,119,101,114,32,59,10,97,32,62,32,52,32,59,10,101,32,62,32,51,32,59,10,105,32,62,32,49,32,59,10,111,32,62,32,48,32,59,10,115,32,62,32,53,32,59,10,116,32,62,32,55,32,59,10]
theorem fineLeet:Fine nLeet:=zbe (t:=tLeet) (u:=vLeet) (by decide +kernel) (by decide) (by unfold T.rightL;decide) (by decide +kernel) (by kernel_rfl)
def vMorse:List Int:= [97,32,60,62,32,39,46,45,32,39,32,59,10,98,32,60,62,32,39,45,46,46,46,32,39,32,59,10,99,32,60,62,32,39,45,46,45,46,32,39,32,59,10,100,32,60,62,32,39,45,46,46,32,39,32,59,10,101,32,60,62,32,39,46,32,39,32,59,10,102,32,60,62,32,39,46,46,45,46,32,39,32,59,10,103,32,60,62,32,39,45,45,46,32,39,32,59,10,104,32,60,62,32,39,46,46,46,46,32,39,32,59,10,105,32,60,62,32,39,46,46,32,39,32,59,10,106,32,60,62,32,39,46,45,45,45,32,39,32,59,10,107,32,60,62,32,39,45,46,45,32,39,32,59,10,108,32,60,62,32,39,46,45,46,46,32,39,32,59,10,109,32,60,62,32,39,45,45,32,39,32,59,10,110,32,60,62,32,39,45,46,32,39,32,59,10,111,32,60,62,32,39,45,45,45,32,39,32,59,10,112,32,60,62,32,39,46,45,45,46,32,39,32,59,10,113,32,60,62,32,39,45,45,46,45,32,39,32,59,10,114,32,60,62,32,39,46,45,46,32,39,32,59,10,115,32,60,62,32,39,46,46,46,32,39,32,59,10,116,32,60,62,32,39,45,32,39,32,59,10,117,32,60,62,32,39,46,46,45,32,39,32,59,10,118,32,60,62,32,39,46,46,46,45,32,39,32,59,10,119,32,60,62,32,39,46,45,45,32,39,32,59,10,120,32,60,62,32,39,45,46,46,45,32,39,32,59,10,121,32,60,62,32,39,45,46,45,45,32,39,32,59,10,122,32,60,62,32,39,45,45,46,46,32,39,32,59,10]
theorem fineMorse:Fine nMorse:=zbe (t:=tMorse) (u:=vMorse) (by decide +kernel) (by decide) (by unfold T.rightL;decide) (by decide +kernel) (by kernel_rfl)
def vPoints:List Int:= [39,46,46,46,39,32,62,32,8230,32,59,10]
theorem finePoints:Fine nPoints:=zbe (t:=tPoints) (u:=vPoints) (by decide +kernel) (by decide) (by unfold T.rightL;decide) (by decide +kernel) (by kernel_rfl)
def vQuotes:List Int:= [94,32,123,32,39,34,39,32,62,32,8220,32,59,10,39,32,39,32,123,32,39,34,39,32,62,32,8220,32,59,10,39,34,39,32,62,32,8221,32,59,10]
theorem fineQuotes:Fine nQuotes:=zbe (t:=tQuotes) (u:=vQuotes) (by decide +kernel) (by decide) (by unfold T.rightL;decide) (by decide +kernel) (by kernel_rfl)
def vRovar:List Int:= [98,32,62,32,98,111,98,32,59,10,99,32,62,32,99,111,99,32,59,10,100,32,62,32,100,111,100,32,59,10,102,32,62,32,102,111,102,32,59,10,103,32,62,32,103,111,103,32,59,10,104,32,62,32,104,111,104,32,59,10,106,32,62,32,106,111,106,32,59,10,107,32,62,32,107,111,107,32,59,10,108,32,62,32,108,111,108,32,59,10,109,32,62,32,109,111,109,32,59,10,110,32,62,32,110,111,110,32,59,10,112,32,62,32,112,111,112,32,59,10,113,32,62,32,113,111,113,32,59,10,114,32,62,32,114,111,114,32,59,10,115,32,62,32,115,111,115,32,59,10,116,32,62,32,116,111,116,32,59,10,118,32,62,32,118,111,118,32,59,10,119,32,62,32,119,111,119,32,59,10,120,32,62,32,120,111,120,32,59,10,122,32,62,32,122,111,122,32,59,10]
theorem fineRovar:Fine nRovar:=zbe (t:=tRovar) (u:=vRovar) (by decide +kernel) (by decide) (by unfold T.rightL;decide) (by decide +kernel) (by kernel_rfl)
def vSqueeze:List Int:= [35,32,111,102,32,114,117,110,115,32,111,102,32,116,104,101,32,115,97,109,101,32,99,111,110,115,111,110,97,110,116,32,111,110,101,32,105,115,32,108,101,102,116,10,98,32,98,32,62,32,124,32,98,32,59,10,99,32,99,32,62,32,124,32,99,32,59,10,100,32,100,32,62,32,124,32,100,32,59,10]
theorem fineSqueeze:Fine nSqueeze:=zbe (t:=tSqueeze) (u:=vSqueeze) (by decide +kernel) (by decide) (by unfold T.rightL;decide) (by decide +kernel) (by kernel_rfl)
def vTelex:List Int:= [97,119,32,62,32,259,32,59,10,97,97,32,62,32,226,32,59,10,101,101,32,62,32,234,32,59,10,111,111,32,62,32,244,32,59,10,111,119,32,62,32,417,32,59,10,117,119,32,62,32,432,32,59,10,100,100,32,62,32,273,32,59,10]
theorem fineTelex:Fine nTelex:=zbe (t:=tTelex) (u:=vTelex) (by decide +kernel) (by decide) (by unfold T.rightL;decide) (by decide +kernel) (by kernel_rfl)
theorem ztc:∀x∈row,Fine x.1:=by
 intro x hx;unfold row at hx;simp only[List.mem_cons,List.not_mem_nil,or_false] at hx;rcases hx with rfl|rfl|rfl|rfl|rfl|rfl|rfl|rfl|rfl|rfl|rfl|rfl|rfl|rfl|rfl|rfl|rfl|rfl
 ·exact fineArrows
 ·exact fineBlanks
 ·exact fineCaesar
 ·exact fineCyrillic
 ·exact fineDashes
 ·exact zhx zvo
 ·exact fineEdges
 ·exact fineGerman
 ·exact fineGreek
 ·exact fineLeet
 ·exact fineMorse
 ·exact finePoints
 ·exact fineQuotes
 ·exact fineRovar
 ·exact zhx zvm
 ·exact fineSqueeze
 ·exact fineTelex
 ·exact zhx zvl
end Sh
section
open Go.RowKit Go.Lib
theorem ztb (w:World)(v:Value)(l:List R.Part)(R0:R.Pts w v l)(hbad:(V.varsF l).1.1≠0) :
  Calls prog 13 #[v] w fun e w'=>e=.returned (.tuple #[.agg #[.bool false,.slice none 0 0,.slice none 0 0],.agg #[.int .i64 (V.varsF l).1.1,.int .i64 (V.varsF l).1.2]])/\Bl w w':=by
 have HA:=qH<|fun o1 o2=>((qR w).alloc qN o1).alloc (by simp) o2
 have HC:Hid (∀o1 o2,Calls prog 31 #[v] ((w.alloc o1).alloc o2) fun e w'=>e=.returned (.tuple #[.map none,.agg #[.int .i64 (V.varsF l).1.1,.int .i64 (V.varsF l).1.2]])/\Below ((w.alloc o1).alloc o2).heap.size ((w.alloc o1).alloc o2) w'):=fun o1 o2 =>
  (zbr _ _ l (R0.below (HA.out _ _))).mono fun e w' ⟨h1,h2⟩=>⟨h1.elim (fun h=>absurd h.1 hbad) fun h=>h.2,h2⟩
 obtain⟨ao,cap,rfl⟩:=R0.len;obtain⟨⟨⟨e1,e2⟩,kn⟩,he⟩:∃o,V.varsF l=o:=⟨_,rfl⟩;rw[he] at HC hbad ⊢;simp only at HC hbad ⊢;clear he R0
 go_enter func13,ntmps13
 go_wp2_with fail
 refine(HC.out _ _).mono ?_;rintro e w1 ⟨rfl,b1⟩;obtain⟨h1,h2,B1,s1⟩:=K.za3 b1;have HB2:=qH<|fun o=>B1.alloc (by omega) o
 have k0:∀o,(w1.alloc o).cell? ⟨w.heap.size,0,none⟩=some (.bool false):=fun o=>K.zai (K.zad h1 rfl) o
 have k1:∀o,(w1.alloc o).cell? ⟨w.heap.size,1,none⟩=some (.slice none 0 0):=fun o=>K.zai (K.zad h1 rfl) o
 have k2:∀o,(w1.alloc o).cell? ⟨w.heap.size,2,none⟩=some (.slice none 0 0):=fun o=>K.zai (K.zad h1 rfl) o
 have k3:∀o,(w1.alloc o).cell? ⟨w.heap.size+1,0,none⟩=some (.int .i64 0):=fun o=>K.zai (K.zad h2 rfl) o
 have k4:∀o,(w1.alloc o).cell? ⟨w.heap.size+1,1,none⟩=some (.int .i64 0):=fun o=>K.zai (K.zad h2 rfl) o
 have g0:=fun o i=>K.zal h1 o i
 have g1:=fun o i=>K.zal h2 o i
 clear b1 B1 HC h1 h2;go_wp2
 go_region
 go_wp2;refine bodyPost_ret (v:=.tuple #[.agg #[.bool false,.slice none 0 0,.slice none 0 0],.agg #[.int .i64 e1,.int .i64 e2]]) (by simp[results,results13,go_sem, *]) rfl ?_
 exact⟨rfl,(V.five (HB2.out _) qN (by omega) _ _ _ _ _).drew⟩
theorem Tryz.vinfoPt:(prog.info? 104).map (fun i=>(i.zero,i.size,i.bytes))=some (some (.agg #[.int .i64 0,.string ⟨#[]⟩,.slice none 0 0,.int .i64 0,.bool false,.bool false,.slice none 0 0,.slice none 0 0,.slice none 0 0,.int .i64 0,.bool false,.bool false,.slice none 0 0,.slice none 0 0,.slice none 0 0,.int .i64 0]),16,232):=by kernel_rfl
namespace V
theorem zl6 {k:Nat}:∀ {cs:List (List Value)},(∀c∈cs,c.length=k)->∀ {j:Nat} {u:Value},cs.flatten[j]?=some u->∃i q c,cs[i]?=some c/\c[q]?=some u/\j=i*k+q
 | [],_,j,u,h=>by simp at h
 | c::cs,hc,j,u,h=>by
  have hl:=hc c (by simp);rw[List.flatten_cons] at h
  by_cases hj:j<c.length
  ·rw[List.getElem?_append_left hj] at h;exact⟨0,j,c,rfl,h,by simp⟩
  ·rw[List.getElem?_append_right (by omega)] at h;obtain⟨i,q,c',h1,h2,h3⟩:=zl6 (fun c' hc'=>hc c' (by simp[hc'])) h;refine⟨i+1,q,c',by simpa using h1,h2,?_⟩;rw[Nat.succ_mul];omega
theorem zl5 {k:Nat}:∀ {cs:List (List Value)},(∀c∈cs,c.length=k)->cs.flatten.length=cs.length*k
 | [],_=>by simp
 | c::cs,hc=>by
  rw[List.flatten_cons,List.length_append,hc c (by simp),zl5 (fun c' hc'=>hc c' (by simp[hc'])),List.length_cons,Nat.succ_mul];omega
def PCs (w:World) (cs:List (List Value)) (l:List R.Part):Prop:=cs.length=l.length/\(∀c∈cs,c.length=16/\∀u∈c,u.oneCell'=true)/\∀(j:Nat) p c,l[j]?=some p->cs[j]?=some c->R.PtIs w (.agg c.toArray) p
theorem zpj {w:World}{b off cap:Nat}{l:List R.Part}(h:R.Pts w (.slice (some ⟨b,off,none⟩) l.length cap) l):∃cs,PCs w cs l/\∀(j:Nat) c q u,cs[j]?=some c->c[q]?=some u->w.cell? ⟨b,off+j*16+q,none⟩=some u:=by
 obtain⟨ao,cap',e,hc⟩:=h;obtain⟨rfl,-,rfl⟩:=Value.slice.inj e
 have H:∀j,∃c:List Value,∀p,l[j]?=some p->(c.length=16/\∀u∈c,u.oneCell'=true)/\R.PtIs w (.agg c.toArray) p/\∀q u,c[q]?=some u->w.cell? ⟨b,off+j*16+q,none⟩=some u:=by
  intro j;cases hj:l[j]? with
  | none=>exact⟨[],fun p h=>by cases h⟩
  | some p =>
   obtain⟨b',off',hao,hcell⟩:=hc (by intro h;subst h;simp at hj);cases hao;obtain⟨so,sc,lbo,lbc,lso,lsc,lao,lac,rbo,rbc,rso,rsc,rao,rac,c0,c1,c2,c3,c4,c5,c6,c7,c8,c9,c10,c11,c12,c13,c14,c15,hP⟩:=hcell j p hj;refine⟨[.int .i64 p.kind,.string p.name,.slice so p.set.length sc,.int .i64 p.dir,.bool p.left.start,.bool p.left.fin,.slice lbo p.left.before.length lbc,.slice lso p.left.source.length lsc,.slice lao p.left.after.length lac,.int .i64 p.left.cursor,.bool p.right.start,.bool p.right.fin,.slice rbo p.right.before.length rbc,.slice rso p.right.source.length rsc,.slice rao p.right.after.length rac,.int .i64 p.right.cursor],fun p' h=> ?_⟩;cases h;refine⟨⟨rfl,fun u hu=> ?_⟩,hP,fun q u hq=> ?_⟩
   ·simp only[List.mem_cons,List.not_mem_nil,or_false] at hu;rcases hu with rfl|rfl|rfl|rfl|rfl|rfl|rfl|rfl|rfl|rfl|rfl|rfl|rfl|rfl|rfl|rfl <;> rfl
   ·match q,hq with
    | 0,hq=>cases hq;exact c0
    | 1,hq=>cases hq;exact c1
    | 2,hq=>cases hq;exact c2
    | 3,hq=>cases hq;exact c3
    | 4,hq=>cases hq;exact c4
    | 5,hq=>cases hq;exact c5
    | 6,hq=>cases hq;exact c6
    | 7,hq=>cases hq;exact c7
    | 8,hq=>cases hq;exact c8
    | 9,hq=>cases hq;exact c9
    | 10,hq=>cases hq;exact c10
    | 11,hq=>cases hq;exact c11
    | 12,hq=>cases hq;exact c12
    | 13,hq=>cases hq;exact c13
    | 14,hq=>cases hq;exact c14
    | 15,hq=>cases hq;exact c15
    | n+16,hq=>simp at hq
 obtain⟨f,hf⟩:=Classical.skolem.1 H
 have hcs:∀(j:Nat) c,((List.range l.length).map f)[j]?=some c->∃p,l[j]?=some p/\c=f j:=fun j c h=>by
  have hlt:=(qL.1 h).1;simp at hlt;refine⟨l[j],by simp[hlt],?_⟩;simp[hlt] at h;exact h.symm
 refine⟨(List.range l.length).map f,⟨by simp,fun c hc=> ?_,fun j p c h1 h2=> ?_⟩,fun j c q u h1 h2=> ?_⟩
 ·obtain⟨j,hj⟩:=List.getElem?_of_mem hc;obtain⟨p,hp,rfl⟩:=hcs j c hj;exact(hf j p hp).1
 ·obtain⟨p',hp,rfl⟩:=hcs j c h2;exact(hf j p h1).2.1
 ·obtain⟨p',hp,rfl⟩:=hcs j c h1;exact(hf j p' hp).2.2 q u h2
theorem zqy {w:World}{g cap:Nat}{l:List R.Part}{cs:List (List Value)}(h:PCs w cs l)(hc:∀(j:Nat) c q u,cs[j]?=some c->c[q]?=some u->w.cell? ⟨g,j*16+q,none⟩=some u):R.Pts w (.slice (some ⟨g,0,none⟩) l.length cap) l:=by
 refine⟨some ⟨g,0,none⟩,cap,rfl,fun _=>⟨g,0,rfl,fun j p hp=> ?_⟩⟩
 obtain⟨c,hcj⟩:∃c,cs[j]?=some c:=by
  have:j<cs.length:=by rw[h.1];exact(qL.1 hp).1
  exact⟨cs[j],by simp[this]⟩
 have hP:=h.2.2 j p c hp hcj;obtain⟨so,sc,lbo,lbc,lso,lsc,lao,lac,rbo,rbc,rso,rsc,rao,rac,he,_⟩:=hP.open
 have he2:c= [.int .i64 p.kind,.string p.name,.slice so p.set.length sc,.int .i64 p.dir,.bool p.left.start,.bool p.left.fin,.slice lbo p.left.before.length lbc,.slice lso p.left.source.length lsc,.slice lao p.left.after.length lac,.int .i64 p.left.cursor,.bool p.right.start,.bool p.right.fin,.slice rbo p.right.before.length rbc,.slice rso p.right.source.length rsc,.slice rao p.right.after.length rac,.int .i64 p.right.cursor]:=by
  simpa using congrArg Array.toList (Value.agg.inj he)
 subst he2
 have at':∀q u,([Value.int .i64 p.kind,.string p.name,.slice so p.set.length sc,.int .i64 p.dir,.bool p.left.start,.bool p.left.fin,.slice lbo p.left.before.length lbc,.slice lso p.left.source.length lsc,.slice lao p.left.after.length lac,.int .i64 p.left.cursor,.bool p.right.start,.bool p.right.fin,.slice rbo p.right.before.length rbc,.slice rso p.right.source.length rsc,.slice rao p.right.after.length rac,.int .i64 p.right.cursor]:List Value)[q]?=some u->w.cell? ⟨g,0+j*16+q,none⟩=some u:=fun q u hq=>by
  rw[Nat.zero_add];exact hc j _ q u hcj hq
 exact⟨so,sc,lbo,lbc,lso,lsc,lao,lac,rbo,rbc,rso,rsc,rao,rac,at' 0 _ rfl,at' 1 _ rfl,at' 2 _ rfl,at' 3 _ rfl,at' 4 _ rfl,at' 5 _ rfl,at' 6 _ rfl,at' 7 _ rfl,at' 8 _ rfl,at' 9 _ rfl,at' 10 _ rfl,at' 11 _ rfl,at' 12 _ rfl,at' 13 _ rfl,at' 14 _ rfl,at' 15 _ rfl,hP⟩
def OutIs (W:World) (g:Nat) (cs:List (List Value)):Prop:=(∀c∈cs,c.length=16)/\∃cur,W.heap[g]?=some (.cells cur 104)/\∀(j:Nat) c q u,cs[j]?=some c->c[q]?=some u->cur[j*16+q]?=some u
theorem OutIs.cell {W:World}{g:Nat}{cs:List (List Value)}(h:OutIs W g cs){j:Nat}{c:List Value}{q:Nat}{u:Value}(h1:cs[j]?=some c)(h2:c[q]?=some u):W.cell? ⟨g,j*16+q,none⟩=some u:=by
 obtain⟨_,cur,hg,hc⟩:=h;exact K.zad hg (hc j c q u h1 h2)
theorem OutIs.free {W:World}{g:Nat}{cs:List (List Value)}(h:OutIs W g cs)(i:Nat):W.frozen? ⟨g,i,none⟩=false:=by
 obtain⟨_,cur,hg,hc⟩:=h;exact frozen_of_row W g _ _ _ hg
theorem OutIs.other {W W':World}{g:Nat}{cs:List (List Value)}(h:OutIs W g cs)(he:W'.heap[g]?=W.heap[g]?):OutIs W' g cs:=by
 obtain⟨h0,cur,hg,hc⟩:=h;exact⟨h0,cur,he.trans hg,hc⟩
theorem OutIs.lt {W:World}{g:Nat}{cs:List (List Value)}(h:OutIs W g cs):g<W.heap.size:=by
 obtain⟨h0,cur,hg,hc⟩:=h;exact(qA.1 hg).1
theorem OutIs.set {W:World}{g k:Nat}{A B:List (List Value)}{c:List Value}(h:OutIs W g (A++c::B))(hA:A.length=k)(q:Nat)(hq:q<16)(v:Value):OutIs (W.setCell ⟨g,k*16+q,none⟩ v) g (A++c.set q v::B):=by
 obtain⟨h0,cur,hg,hc⟩:=h;have hcl:=h0 c (by simp);subst hA;refine⟨fun c' hc'=> ?_,_,heap_setCell_same W g _ _ _ v hg,fun j c' q' u h1 h2=> ?_⟩
 ·simp at hc';rcases hc' with h|rfl|h
  ·exact h0 c' (by simp[h])
  ·simp[hcl]
  ·exact h0 c' (by simp[h])
 ·have hold:(A++c::B)[A.length]?=some c:=by simp
  have hin:A.length*16+q<cur.size:=by
   have:=hc A.length c q (c[q]'(by omega)) hold (by simp[hcl,hq]);exact(qA.1 this).1
  rw[Array.getElem?_setIfInBounds]
  by_cases hj:j=A.length
  ·subst hj;rw[List.getElem?_append_right qN,Nat.sub_self] at h1;cases h1
   by_cases hqq:q=q'
   ·subst hqq;rw[if_pos rfl,if_pos hin];rw[List.getElem?_set_self (by omega)] at h2;exact h2
   ·rw[if_neg (by omega)];rw[List.getElem?_set_ne hqq] at h2;exact hc A.length c q' u hold h2
  ·have hold2:(A++c::B)[j]?=some c':=by
    by_cases hlt:j<A.length
    ·rw[List.getElem?_append_left hlt] at h1 ⊢;exact h1
    ·rw[List.getElem?_append_right (by omega)] at h1 ⊢;obtain⟨m,hm⟩:∃m,j-A.length=m+1:=⟨j-A.length-1,by omega⟩;rw[hm] at h1 ⊢;simpa using h1
   have hl':=h0 c' (List.mem_of_getElem? hold2);have hq':q'<16:=by rw[<- hl'];exact(qL.1 h2).1
   rw[if_neg (by omega)];exact hc j c' q' u hold2 h2
end V
theorem zm7 (w:World)(b off cap:Nat)(l:List R.Part)(cs:List (List Value))(hP:V.PCs w cs l)(hc:∀(j:Nat) c q u,cs[j]?=some c->c[q]?=some u->w.cell? ⟨b,off+j*16+q,none⟩=some u)(hl:l.length<=1000)(h0:0<l.length) :
  Calls prog 59 #[.slice (some ⟨b,off,none⟩) l.length cap] w fun e w'=>∃g cap',e=.returned (.slice (some ⟨g,0,none⟩) l.length cap')/\w.heap.size<=g/\V.OutIs w' g cs/\Bl w w':=by
 obtain⟨i0,hi,hz0,hz1,hz2⟩:=info_parts Tryz.vinfoPt;have q22:∀(w:World) (a:Option Addr) (n c n' c':Nat),(binOp .eql 34 (.slice a n c) (.slice none n' c')).run prog w=.ok (.bool a.isNone) w:=fun w a n c n' c'=>Lib.run_eql_slice_nil w _ _ a n c n' c' underlying34
 have h16:=fun c hc=>(hP.2.1 c hc).1
 have HC:Hid (∀j u,cs.flatten[j]?=some u->w.cell? ((⟨b,off,none⟩:Addr).add j)=some u):=by
  intro j u hj;obtain⟨i,q,c,h1,h2,rfl⟩:=V.zl6 h16 hj;rw[L.addr_add,<- Nat.add_assoc];exact hc i c q u h1 h2
 have HO:Hid (∀u∈cs.flatten,u.oneCell'=true):=fun u hu=>by
  obtain⟨c,hc,hu⟩:=List.mem_flatten.1 hu;exact(hP.2.1 c hc).2 u hu
 have HF:Hid (cs.flatten.length=l.length*16):=by
  rw[<- hP.1];exact V.zl5 h16
 have H16:=qH h16;have OW:Hid ((w.alloc (.cells #[] 104)).ownsRow w.heap.size 104 16 (.slice (some ⟨w.heap.size,0,none⟩) 0 0) 0 []):=World.ownsRow_made w #[] 0 qN (Nat.zero_le _) (by simp);clear hc hP h16
 go_enter func59,ntmps59
 go_wp2_with (at_builtin;go_must (refine wpList_append_own _ rfl _ _ 34 rfl w.heap.size 104 i0 _ 16 232 underlying34 hi hz0 hz1 hz2 rfl (by decide) _ _ _ rfl OW.out ⟨b,off,none⟩ l.length cap cs.flatten rfl HF.out (fun j u hj=>Lib.cell?_alloc_some _ (HC.out j u hj)) HO.out (by unfold maxLen;omega) (by omega) (by simp) ?_;intro v' w3 hown' hgrow3 hnil3))
 go_ret;rcases hown'.2 with ⟨_,h1⟩|⟨g,cap',cur,hv,hB,hg,hle,hmax,hsz,htk⟩
 ·omega
 ·refine⟨g,cap',by rw[hv];simp,hB,⟨H16.out,cur,hg,fun j c q u h1 h2=> ?_⟩,((qR w).alloc qN _).grown hgrow3 (by simp) (fun k hk=>(OW.out.lt k hk).1)⟩;have h3:=R.flat_get (k:=16) H16.out j q c u h1 h2;rw[<- (show cur.toList.take ((0+l.length)*16)=cs.flatten by simpa using htk)] at h3;rw[List.getElem?_take] at h3;split at h3
  ·simpa using h3
  ·cases h3
theorem ziv (w:World)(s:ByteArray)(hs:s.size<=140737488355328):Calls prog 60 #[.string s] w fun e w'=>e=.returned (.string (V.opp s))/\w'=w:=by
 cases h1:(s.toList== [117,112,112,101,114]) with
 | true =>
  go_enter func60,ntmps60
  go_wp2;go_ret
  exact⟨by simp only[V.opp,h1,if_true];rfl,rfl⟩
 | false =>
  cases h2:(s.toList== [108,111,119,101,114]) with
  | true =>
   go_enter func60,ntmps60
   go_wp2;go_ret
   exact⟨by simp only[V.opp,h1,h2,if_true,Bool.false_eq_true,if_false];rfl,rfl⟩
  | false =>
   go_enter func60,ntmps60
   go_wp2;go_ret
   exact⟨by simp only[V.opp,h1,h2,Bool.false_eq_true,if_false];rfl,rfl⟩
theorem zlk (w:World)(d:Int):Calls prog 61 #[.int .i64 d] w fun e w'=>e=.returned (.int .i64 (V.against d))/\w'=w:=by
 by_cases h1:d=1
 ·subst h1
  go_enter func61,ntmps61
  go_wp2;go_ret
  exact⟨by simp[V.against],rfl⟩
 ·by_cases h2:d=2
  ·subst h2
   go_enter func61,ntmps61
   go_wp2;go_ret
   exact⟨by simp[V.against],rfl⟩
  ·go_enter func61,ntmps61
   go_wp2;go_ret
   exact⟨by simp[V.against,h1,h2],rfl⟩
namespace V
theorem take {P:Program}{ops:Array Oper}{Q:Exit->Act->World->Prop}{md:Region.Mode}{S:World->Prop}(i d:Nat)(v:Value)(L':List Bool){oi:Oper}{fuel:Nat}{listed:Array Bool}{a:Act}{w:World}(hi:ops[i]?=some oi)(hd:oi.dst=some d)
  (hl:listed.setIfInBounds i true=L'.toArray) (hs:Region.noSelect ops=true) (hf:Region.free md ops listed i=true) (hr:(Region.ready md ops listed).contains i=true)
  (hQ:∀c a w,Q (.panic c) (a.put (some d) v) w->Q (.panic c) a w) (hy:YieldsIf P ops S oi v a) (hS:S w)
  (h:wpAnyH P md ops Q S fuel L'.toArray (a.put (some d) v) w):wpAnyH P md ops Q S (fuel+1) listed a w :=
 wpAnyH_take hi hs hf hr (by rw[hd];exact hQ) hy hS (by rw[hd,hl];exact h)
theorem stored {P:Program}{ops:Array Oper}{Q:Exit->Act->World->Prop}{md:Region.Mode}{S:World->Prop}(i:Nat)(L':List Bool)(ty:TypeId)(x y:Operand){oi:Oper}{fuel:Nat}{listed:Array Bool}{a:Act}{w:World}(hi:ops[i]?=some oi)(ho:oi.op=.store ty x y)(hgd:oi.guard=none)(hd:oi.dst=none)
  (hl:listed.setIfInBounds i true=L'.toArray) (hr:Region.ready md ops listed= [i]) (b o:Nat) (cells:List Value) (hx:a.eval x=.pointer (some ⟨b,o,none⟩)) (hy:a.eval y=.agg cells.toArray) (ht:w.there b o cells.length) (hinf:(P.info? ty).map (·.size)=some cells.length) (h1:cells.all (·.oneCell')=true)
  (hS:S (w.setCells b o cells)) (h:wpAnyH P md ops Q S fuel L'.toArray a (w.setCells b o cells)):wpAnyH P md ops Q S (fuel+1) listed a w :=
 wpAnyH_ready hr (by simp) (AllReadyH.cons hi (fun KK hK=>by
  have hw:Region.wanted oi (yielded ops a.tmps)=true:=by simp[Region.wanted,hgd]
  rw[if_pos hw];refine wp_store_mid ty x y ho b o cells.toArray hx hy (by simpa using ht) (by simpa using hinf) (by simpa using h1) ?_;rw[hd]
  exact hK.out _ _ (by simpa using hS) (fun _=>by rw[hl,show a.put none undef=a from rfl];simpa using h)) AllReadyH.nil)
theorem zeh {P:Program}(w:World)(b o:Nat)(ty:TypeId)(u v:Value)(hc:w.cell? ⟨b,o,none⟩=some u)(hf:w.frozen? ⟨b,o,none⟩=false)(hi:(P.info? ty).map (·.size)=some 1)(h1:v.oneCell'=true) :
  (storeVar ty ⟨b,o,none⟩ v).run P w=.ok () (w.setCell ⟨b,o,none⟩ v):=by
 have hcs:v.cells=#[v]:=by cases v <;> first|rfl|cases h1
 cases hq:P.info? ty with
 | none=>simp[hq] at hi
 | some i =>
  have hs:i.size=1:=by simpa [hq] using hi
  have hz:(⟨b,o,none⟩:Addr).add 0=⟨b,o,none⟩:=Addr.add_mid b o 0;simp[storeVar,sizeOf,typeInfo,hq,hcs,hs,storeCells,run_store P w _ v _ h1,hz,hc,hf]
theorem stored1 {P:Program}{ops:Array Oper}{Q:Exit->Act->World->Prop}{md:Region.Mode}{S:World->Prop}(i:Nat)(L':List Bool)(ty:TypeId)(x y:Operand){oi:Oper}{fuel:Nat}{listed:Array Bool}{a:Act}{w:World}(hi:ops[i]?=some oi)(ho:oi.op=.store ty x y)(hgd:oi.guard=none)(hd:oi.dst=none)
  (hl:listed.setIfInBounds i true=L'.toArray) (hr:Region.ready md ops listed= [i]) (b o:Nat) (u v:Value) (hx:a.eval x=.pointer (some ⟨b,o,none⟩)) (hy:a.eval y=v) (hc:w.cell? ⟨b,o,none⟩=some u) (hf:w.frozen? ⟨b,o,none⟩=false) (hinf:(P.info? ty).map (·.size)=some 1) (h1:v.oneCell'=true)
  (hS:S (w.setCell ⟨b,o,none⟩ v)) (h:wpAnyH P md ops Q S fuel L'.toArray a (w.setCell ⟨b,o,none⟩ v)):wpAnyH P md ops Q S (fuel+1) listed a w :=
 wpAnyH_ready hr (by simp) (AllReadyH.cons hi (fun KK hK=>by
  have hw:Region.wanted oi (yielded ops a.tmps)=true:=by simp[Region.wanted,hgd]
  rw[if_pos hw];unfold Oper.wp execOp;simp only[ho,hx,hy,Instr.storeAt,Instr.sureAddr,Sem.run_bind,Sem.run_pure,Result.andThen_ok,zeh w b o ty u v hc hf hinf h1];show KK (a.put oi.dst undef) _;rw[hd]
  exact hK.out _ _ hS (fun _=>by rw[hl,show a.put none undef=a from rfl];exact h)) AllReadyH.nil)
end V
