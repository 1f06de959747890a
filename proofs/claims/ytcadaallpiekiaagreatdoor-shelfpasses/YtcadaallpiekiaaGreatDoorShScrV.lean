import Derived.Test.YtcadaallpiekiaaGreatDoorShLeeP
set_option maxHeartbeats 0
set_option linter.unusedSimpArgs false
namespace Go.Proofs.YtcadaallpiekiaaGreatDoor
open Go.Proofs.Tryz
namespace Sh
open Go.RowKit
set_option maxRecDepth 40000
def uGerman:List Int:= [228,32,62,32,97,101,32,59,10,246,32,62,32,111,101,32,59,10,252,32,62,32,117,101,32,59,10,223,32,62,32,115,115,32,59,10,196,32,62,32,65,101,32,59,10,214,32,62,32,79,101,32,59,10,220,32,62,32,85,101,32,59,10]
theorem zvn:Scr nGerman (oneS (gmL.map r1)):=by
 have hx:M.rn tGerman=uGerman:=by
  have h:=T.zc3 (l:=uGerman) (by unfold T.rightL;decide);have e:T.bytesR uGerman=tGerman.data.toList:=by decide +kernel
  rw[e] at h;exact h
 have key:(match R.read uGerman with | .ok l _=>V.forthF l | .bad _ _=>(oneS (gmL.map r1),1,1))=(oneS (gmL.map r1),0,0):=by kernel_rfl
 cases h:R.read uGerman with
 | ok l q=>rw[h] at key;exact⟨tGerman,l,q,by decide +kernel,by decide,by rw[hx];exact h,key⟩
 | bad e q=>rw[h] at key;simp at key
def uRovar:List Int:= [98,32,62,32,98,111,98,32,59,10,99,32,62,32,99,111,99,32,59,10,100,32,62,32,100,111,100,32,59,10,102,32,62,32,102,111,102,32,59,10,103,32,62,32,103,111,103,32,59,10,104,32,62,32,104,111,104,32,59,10,106,32,62,32,106,111,106,32,59,10,107,32,62,32,107,111,107,32,59,10,108,32,62,32,108,111,108,32,59,10,109,32,62,32,109,111,109,32,59,10,110,32,62,32,110,111,110,32,59,10,112,32,62,32,112,111,112,32,59,10,113,32,62,32,113,111,113,32,59,10,114,32,62,32,114,111,114,32,59,10,115,32,62,32,115,111,115,32,59,10,116,32,62,32,116,111,116,32,59,10,118,32,62,32,118,111,118,32,59,10,119,32,62,32,119,111,119,32,59,10,120,32,62,32,120,111,120,32,59,10,122,32,62,32,122,111,122,32,59,10]
def uLeet:List Int:= [58,58,32,108,111,119,101,114,32,59,10,97,32,62,32,52,32,59,10,101,32,62,32,51,32,59,10,105,32,62,32,49,32,59,10,111,32,62,32,48,32,59,10,115,32,62,32,53,32,59,10,116,32,62,32,55,32,59,10]
end Sh
section
open Go.RowKit Go.Lib
set_option maxRecDepth 20000
set_option linter.unusedVariables false
theorem Sh.zrz:M.rn ⟨#[103,114,195,188,110]⟩= [103,114,252,110]:=by
 have h:=T.zc3 (l:= [103,114,252,110]) (by unfold T.rightL;decide);have e:T.bytesR [103,114,252,110]= [103,114,195,188,110]:=by decide +kernel
 rw[e] at h;exact h
theorem zj5 (hK:T.ClassOk)(w:World):Calls prog 19 #[] w fun e w'=>e=.returned (.bool true)/\Bl w w':=by
 obtain⟨pl,hpl⟩:=Cn.zpl
 have hgo:Cn.goF pl (Sh.oneS (Sh.gmL.map Sh.r1)) (M.rn ⟨#[103,114,195,188,110]⟩)=([103,114,117,101,110],0,0):=by
  have h:=Sh.go_g hpl (t:= [103,114,252,110]) (by decide) (by decide);rw[Sh.zrz,h];have e:([103,114,252,110]:List Int).flatMap (Sh.by1 Sh.gmL)= [103,114,117,101,110]:=by decide +kernel
  rw[e]
 have HT:Hid (∀X,Calls prog 10 #[.string { data:=#[103,101,114,109,97,110] },.bool false,.string { data:=#[103,114,195,188,110] }] X fun e w'=>e=.returned (.tuple #[.string { data:=#[103,114,117,101,110] },.int .i64 0])/\Bl X w'):=fun X=>by
  have h:=zif hK Sh.nGerman _ Sh.zvn ⟨#[103,114,195,188,110]⟩ (by decide) pl hpl _ hgo (by decide) X;have e:runesBytes [103,114,117,101,110]=⟨#[103,114,117,101,110]⟩:=by kernel_rfl
  rw[e] at h;exact h
 have HN:Hid (∀X,Calls prog 7 #[] X fun e w'=>∃ao cap,e=.returned (.slice ao 18 cap)/\Bl X w'):=fun X=>by
  refine(zff X).mono ?_;rintro e w' ⟨v,rfl,⟨ao,cap,rfl,_⟩,hb⟩;have hl:(Sh.row.map fun x=>x.1).length=18:=by decide
  exact⟨ao,cap,by rw[hl],hb⟩
 clear hgo hpl
 go_enter func19,ntmps19
 go_wp2_with fail
 refine(HT.out _).mono ?_;rintro e w1 ⟨rfl,b1⟩;have hN:=HN.out w1;clear HT HN
 go_wp2_with fail
 refine hN.mono ?_;rintro e w2 ⟨ao,cap,rfl,b2⟩;clear hN;go_wp2;go_ret;exact⟨rfl,b1.trans (b2.mono b1.size)⟩
end
namespace Sh
def cw (g:Option Int->Int->Option Int->List Int):Option Int->List Int->List Int
 | _,[]=> []
 | p,r::l=>g p r l.head?++cw g (some r) l
def pv (t:List Int):Nat->Option Int
 | 0=>none
 | j+1=>t[j]?
/- quotes -/
def rQ1:K.Rule:=⟨true,false,[],[[(34,34)]],[],[8220],1⟩
def rQ2:K.Rule:=⟨false,false,[[(32,32)]],[[(34,34)]],[],[8220],1⟩
def rQ3:K.Rule:=⟨false,false,[],[[(34,34)]],[],[8221],1⟩
def gQ (p:Option Int) (r:Int) (_:Option Int):List Int:=if r=34 then (if p=none∨p=some 32 then [8220] else [8221]) else [r]
def fQ (done:List Int) (r:Int) (_:List Int):List Int:=if r=34 then (if done= []∨done.getLast?=some 32 then [8220] else [8221]) else [r]
/- sigma -/
def sgN:List S.Sp:= [(0,879),(1024,1114111)]
def rS1:K.Rule:=⟨false,false,[],[[(963,963)]],[sgN],[962],1⟩
def rS2:K.Rule:=⟨false,true,[],[[(963,963)]],[],[962],1⟩
def nxS:Option Int->Bool|none=>true|some y=>S.memb sgN y
def gS (_:Option Int) (r:Int) (n:Option Int):List Int:=if r=963/\nxS n=true then [962] else [r]
/- dots -/
def dtN:List S.Sp:= [(33,33),(44,44),(46,46),(58,59),(63,63)]
def rD:K.Rule:=⟨false,false,[],[[(32,32)]],[dtN],[],0⟩
def nxD:Option Int->Bool|none=>false|some y=>S.memb dtN y
def gD (_:Option Int) (r:Int) (n:Option Int):List Int:=if r=32/\nxD n=true then [] else [r]
/- edges -/
def rE1:K.Rule:=⟨true,false,[],[[(32,32)]],[],[],0⟩
def rE2:K.Rule:=⟨false,true,[],[[(32,32)]],[],[],0⟩
def fE (done:List Int) (r:Int) (rest:List Int):List Int:=if r=32/\(done= []∨rest= []) then [] else [r]
def ed1 (d:List Int):List Int:=if d.getLast?=some 32 then d.dropLast else d
def ed:List Int->List Int
 | []=> []
 | r::t=>if r=32 then ed t else ed1 (r::t)
def vlen:Value->Nat | .slice _ n _=>n|_=>0
end Sh
namespace Sh
open Go.RowKit
set_option maxRecDepth 40000
theorem zca {P:Int->Bool}{s:List S.Sp}{p:Nat}(h:S.Is P s)(hl:s.length<=200):T.made P p=.ok s p:=by
 unfold T.made;rw[S.zui h,if_neg (by omega)]
def uDots:List Int:= [35,32,110,111,32,98,108,97,110,107,32,97,104,101,97,100,32,111,102,32,97,32,115,105,103,110,10,39,32,39,32,125,32,91,46,33,63,92,44,92,59,92,58,93,32,62,32,59,10]
theorem x_d:M.rn tDots=uDots:=by
 have h:=T.zc3 (l:=uDots) (by unfold T.rightL;decide);have e:T.bytesR uDots=tDots.data.toList:=by decide +kernel
 rw[e] at h;exact h
theorem dp0:T.part (T.setN 19 uDots) uDots [] 34=.ok [(46,46)] 35:=by
 have e:T.part (T.setN 19 uDots) uDots [] 34=T.made (S.orP [] [(46,46)]) 35:=by kernel_rfl
 rw[e];exact zca ⟨(S.zan.1 (by decide)).2,fun r=>by rw[Bool.eq_iff_iff];simp[S.orP,S.memb,S.inR];try omega⟩ (by decide)
theorem dp1:T.part (T.setN 19 uDots) uDots [(46,46)] 35=.ok [(33,33),(46,46)] 36:=by
 have e:T.part (T.setN 19 uDots) uDots [(46,46)] 35=T.made (S.orP [(46,46)] [(33,33)]) 36:=by kernel_rfl
 rw[e];exact zca ⟨(S.zan.1 (by decide)).2,fun r=>by rw[Bool.eq_iff_iff];simp[S.orP,S.memb,S.inR];try omega⟩ (by decide)
theorem dp2:T.part (T.setN 19 uDots) uDots [(33,33),(46,46)] 36=.ok [(33,33),(46,46),(63,63)] 37:=by
 have e:T.part (T.setN 19 uDots) uDots [(33,33),(46,46)] 36=T.made (S.orP [(33,33),(46,46)] [(63,63)]) 37:=by kernel_rfl
 rw[e];exact zca ⟨(S.zan.1 (by decide)).2,fun r=>by rw[Bool.eq_iff_iff];simp[S.orP,S.memb,S.inR];try omega⟩ (by decide)
theorem dp3:T.part (T.setN 19 uDots) uDots [(33,33),(46,46),(63,63)] 37=.ok [(33,33),(44,44),(46,46),(63,63)] 39:=by
 have e:T.part (T.setN 19 uDots) uDots [(33,33),(46,46),(63,63)] 37=T.made (S.orP [(33,33),(46,46),(63,63)] [(44,44)]) 39:=by kernel_rfl
 rw[e];exact zca ⟨(S.zan.1 (by decide)).2,fun r=>by rw[Bool.eq_iff_iff];simp[S.orP,S.memb,S.inR];try omega⟩ (by decide)
theorem dp4:T.part (T.setN 19 uDots) uDots [(33,33),(44,44),(46,46),(63,63)] 39=.ok [(33,33),(44,44),(46,46),(59,59),(63,63)] 41:=by
 have e:T.part (T.setN 19 uDots) uDots [(33,33),(44,44),(46,46),(63,63)] 39=T.made (S.orP [(33,33),(44,44),(46,46),(63,63)] [(59,59)]) 41:=by kernel_rfl
 rw[e];exact zca ⟨(S.zan.1 (by decide)).2,fun r=>by rw[Bool.eq_iff_iff];simp[S.orP,S.memb,S.inR];try omega⟩ (by decide)
theorem dp5:T.part (T.setN 19 uDots) uDots [(33,33),(44,44),(46,46),(59,59),(63,63)] 41=.ok [(33,33),(44,44),(46,46),(58,59),(63,63)] 43:=by
 have e:T.part (T.setN 19 uDots) uDots [(33,33),(44,44),(46,46),(59,59),(63,63)] 41=T.made (S.orP [(33,33),(44,44),(46,46),(59,59),(63,63)] [(58,58)]) 43:=by kernel_rfl
 rw[e];exact zca ⟨(S.zan.1 (by decide)).2,fun r=>by rw[Bool.eq_iff_iff];simp[S.orP,S.memb,S.inR];try omega⟩ (by decide)
theorem dSet:T.setN 20 uDots 33=.ok dtN 44:=by
 have e0:T.setN 20 uDots 33=T.loop 50 (T.setN 19 uDots) uDots [] 34:=by kernel_rfl
 have e1:T.loop 50 (T.setN 19 uDots) uDots [] 34=(match T.part (T.setN 19 uDots) uDots [] 34 with | .bad e q=> .bad e q | .ok t q=>T.loop 49 (T.setN 19 uDots) uDots t (T.skipW T.blank uDots q)):=by kernel_rfl
 rw[dp0] at e1;have g1:T.skipW T.blank uDots 35=35:=by decide +kernel
 simp only[g1] at e1;have e2:T.loop 49 (T.setN 19 uDots) uDots [(46,46)] 35=(match T.part (T.setN 19 uDots) uDots [(46,46)] 35 with | .bad e q=> .bad e q | .ok t q=>T.loop 48 (T.setN 19 uDots) uDots t (T.skipW T.blank uDots q)):=by kernel_rfl
 rw[dp1] at e2;have g2:T.skipW T.blank uDots 36=36:=by decide +kernel
 simp only[g2] at e2;have e3:T.loop 48 (T.setN 19 uDots) uDots [(33,33),(46,46)] 36=(match T.part (T.setN 19 uDots) uDots [(33,33),(46,46)] 36 with | .bad e q=> .bad e q | .ok t q=>T.loop 47 (T.setN 19 uDots) uDots t (T.skipW T.blank uDots q)):=by kernel_rfl
 rw[dp2] at e3;have g3:T.skipW T.blank uDots 37=37:=by decide +kernel
 simp only[g3] at e3;have e4:T.loop 47 (T.setN 19 uDots) uDots [(33,33),(46,46),(63,63)] 37=(match T.part (T.setN 19 uDots) uDots [(33,33),(46,46),(63,63)] 37 with | .bad e q=> .bad e q | .ok t q=>T.loop 46 (T.setN 19 uDots) uDots t (T.skipW T.blank uDots q)):=by kernel_rfl
 rw[dp3] at e4;have g4:T.skipW T.blank uDots 39=39:=by decide +kernel
 simp only[g4] at e4;have e5:T.loop 46 (T.setN 19 uDots) uDots [(33,33),(44,44),(46,46),(63,63)] 39=(match T.part (T.setN 19 uDots) uDots [(33,33),(44,44),(46,46),(63,63)] 39 with | .bad e q=> .bad e q | .ok t q=>T.loop 45 (T.setN 19 uDots) uDots t (T.skipW T.blank uDots q)):=by kernel_rfl
 rw[dp4] at e5;have g5:T.skipW T.blank uDots 41=41:=by decide +kernel
 simp only[g5] at e5;have e6:T.loop 45 (T.setN 19 uDots) uDots [(33,33),(44,44),(46,46),(59,59),(63,63)] 41=(match T.part (T.setN 19 uDots) uDots [(33,33),(44,44),(46,46),(59,59),(63,63)] 41 with | .bad e q=> .bad e q | .ok t q=>T.loop 44 (T.setN 19 uDots) uDots t (T.skipW T.blank uDots q)):=by kernel_rfl
 rw[dp5] at e6;have g6:T.skipW T.blank uDots 43=43:=by decide +kernel
 simp only[g6] at e6;have e:T.loop 44 (T.setN 19 uDots) uDots dtN 43=.ok dtN 44:=by kernel_rfl
 rw[e0,e1,e2,e3,e4,e5,e6];exact e
theorem dItem:R.item uDots 33=.ok (some [R.setI dtN]) 44:=by
 have h:T.see uDots 33=91:=by decide +kernel
 unfold R.item;rw[if_pos h,dSet]
theorem dItems:R.items uDots 32=.ok ([R.setI dtN],-1) 45:=by
 have g:R.gap uDots 32=33:=by decide +kernel
 have h:¬T.see uDots 33=124:=by decide +kernel
 have e:R.items uDots 32=R.itemsN 51 uDots [] (-1) 32:=by kernel_rfl
 rw[e,R.itemsN,g,if_neg h,dItem];show _=_
 kernel_rfl
def dSide:R.Side:=⟨false,false,[],[R.runeI 32],[R.setI dtN],-1⟩
theorem dTail:R.sideTail uDots ⟨false,false,[],[R.runeI 32],[],-1⟩ 31=.ok dSide 45:=by
 have h:T.see uDots 31=125:=by decide +kernel
 have h2:¬T.see uDots 45=36:=by decide +kernel
 unfold R.sideTail;rw[if_pos h,dItems];simp only;rw[if_neg (by decide),if_neg h2];rfl
def dPart:R.Part:=⟨2,⟨#[]⟩,[],1,dSide,⟨false,false,[],[],[],-1⟩⟩
theorem zs2:R.part uDots (R.gap uDots 0)=.ok dPart 47:=by
 have e1:R.part uDots (R.gap uDots 0)=(match R.sideTail uDots ⟨false,false,[],[R.runeI 32],[],-1⟩ 31 with | .bad e q=> .bad e q | .ok a q=>(match R.dirAt uDots q with | .bad e r=> .bad e r | .ok d r=>(match R.side uDots r with | .bad e t=> .bad e t | .ok b t=> .ok ⟨2,⟨#[]⟩,[],d,a,b⟩ t))):=by kernel_rfl
 rw[e1,dTail];show _=_
 kernel_rfl
theorem dEnded:R.ended uDots (R.gap uDots 0)=.ok dPart 48:=by
 have h1:¬(T.see uDots (R.gap uDots 47)≠59):=by decide +kernel
 have h2:¬(R.partE dPart≠0):=by decide +kernel
 have h3:R.gap uDots 47+1=48:=by decide +kernel
 unfold R.ended;rw[zs2];simp only;rw[if_neg h1,if_neg h2,h3]
theorem zvo:Scr nDots (oneS [rD]):=by
 have e1:R.read uDots=(match R.ended uDots (R.gap uDots 0) with | .bad e q=> .bad e q | .ok x q=>R.partsN 201 uDots ([]++ [x]) (R.gap uDots q)):=by kernel_rfl
 rw[dEnded] at e1;simp only at e1;have key:(match R.partsN 201 uDots ([]++ [dPart]) (R.gap uDots 48) with | .ok l _=>V.forthF l | .bad _ _=>(oneS [rD],1,1))=(oneS [rD],0,0):=by kernel_rfl
 cases h:R.partsN 201 uDots ([]++ [dPart]) (R.gap uDots 48) with
 | ok l q=>rw[h] at key e1;exact⟨tDots,l,q,by decide +kernel,by decide,by rw[x_d];exact e1,key⟩
 | bad e q=>rw[h] at key;simp at key
def uSigma:List Int:= [963,32,125,32,91,94,32,91,58,103,114,101,101,107,58,93,93,32,62,32,962,32,59,10,963,32,125,32,36,32,62,32,962,32,59,10]
theorem x_s:M.rn tSigma=uSigma:=by
 have h:=T.zc3 (l:=uSigma) (by unfold T.rightL;decide);have e:T.bytesR uSigma=tSigma.data.toList:=by decide +kernel
 rw[e] at h;exact h
theorem sPart0:T.part (T.setN 19 uSigma) uSigma [] 7=.ok [(880,1023)] 16:=by
 have e:T.part (T.setN 19 uSigma) uSigma [] 7=T.made (S.orP [] [(880,1023)]) 16:=by kernel_rfl
 rw[e];exact zca ⟨(S.zan.1 (by decide)).2,fun r=>by rw[Bool.eq_iff_iff];simp[S.orP,S.memb,S.inR];try omega⟩ (by decide)
theorem sSet:T.setN 20 uSigma 4=.ok sgN 17:=by
 have e0:T.setN 20 uSigma 4=(match T.loop 37 (T.setN 19 uSigma) uSigma [] 7 with | .bad e q=> .bad e q | .ok s q=>T.made (S.notP s) q):=by kernel_rfl
 have e1:T.loop 37 (T.setN 19 uSigma) uSigma [] 7=(match T.part (T.setN 19 uSigma) uSigma [] 7 with | .bad e q=> .bad e q | .ok t q=>T.loop 36 (T.setN 19 uSigma) uSigma t (T.skipW T.blank uSigma q)):=by kernel_rfl
 rw[sPart0] at e1;have e2:T.loop 36 (T.setN 19 uSigma) uSigma [(880,1023)] (T.skipW T.blank uSigma 16)=.ok [(880,1023)] 17:=by kernel_rfl
 rw[e0,e1];simp only;rw[e2];exact zca ⟨(S.zan.1 (by decide)).2,fun r=>by rw[Bool.eq_iff_iff];unfold sgN;simp[S.notP,S.memb,S.inR];try omega⟩ (by decide)
theorem sItem:R.item uSigma 4=.ok (some [R.setI sgN]) 17:=by
 have h:T.see uSigma 4=91:=by decide +kernel
 unfold R.item;rw[if_pos h,sSet]
theorem sItems:R.items uSigma 3=.ok ([R.setI sgN],-1) 18:=by
 have g:R.gap uSigma 3=4:=by decide +kernel
 have h:¬T.see uSigma 4=124:=by decide +kernel
 have e:R.items uSigma 3=R.itemsN 38 uSigma [] (-1) 3:=by kernel_rfl
 rw[e,R.itemsN,g,if_neg h,sItem];show _=_
 kernel_rfl
def sSide:R.Side:=⟨false,false,[],[R.runeI 963],[R.setI sgN],-1⟩
theorem sTail:R.sideTail uSigma ⟨false,false,[],[R.runeI 963],[],-1⟩ 2=.ok sSide 18:=by
 have h:T.see uSigma 2=125:=by decide +kernel
 have h2:¬T.see uSigma 18=36:=by decide +kernel
 unfold R.sideTail;rw[if_pos h,sItems];simp only;rw[if_neg (by decide),if_neg h2];rfl
def sPart:R.Part:=⟨2,⟨#[]⟩,[],1,sSide,⟨false,false,[],[R.runeI 962],[],-1⟩⟩
theorem zru:R.part uSigma (R.gap uSigma 0)=.ok sPart 22:=by
 have e1:R.part uSigma (R.gap uSigma 0)=(match R.sideTail uSigma ⟨false,false,[],[R.runeI 963],[],-1⟩ 2 with | .bad e q=> .bad e q | .ok a q=>(match R.dirAt uSigma q with | .bad e r=> .bad e r | .ok d r=>(match R.side uSigma r with | .bad e t=> .bad e t | .ok b t=> .ok ⟨2,⟨#[]⟩,[],d,a,b⟩ t))):=by kernel_rfl
 rw[e1,sTail];show _=_
 kernel_rfl
theorem sEnded:R.ended uSigma (R.gap uSigma 0)=.ok sPart 23:=by
 have h1:¬(T.see uSigma (R.gap uSigma 22)≠59):=by decide +kernel
 have h2:¬(R.partE sPart≠0):=by decide +kernel
 have h3:R.gap uSigma 22+1=23:=by decide +kernel
 unfold R.ended;rw[zru];simp only;rw[if_neg h1,if_neg h2,h3]
theorem zvm:Scr nSigma (oneS [rS1,rS2]):=by
 have e1:R.read uSigma=(match R.ended uSigma (R.gap uSigma 0) with | .bad e q=> .bad e q | .ok x q=>R.partsN 201 uSigma ([]++ [x]) (R.gap uSigma q)):=by kernel_rfl
 rw[sEnded] at e1;simp only at e1;have key:(match R.partsN 201 uSigma ([]++ [sPart]) (R.gap uSigma 23) with | .ok l _=>V.forthF l | .bad _ _=>(oneS [rS1,rS2],1,1))=(oneS [rS1,rS2],0,0):=by kernel_rfl
 cases h:R.partsN 201 uSigma ([]++ [sPart]) (R.gap uSigma 23) with
 | ok l q=>rw[h] at key e1;exact⟨tSigma,l,q,by decide +kernel,by decide,by rw[x_s];exact e1,key⟩
 | bad e q=>rw[h] at key;simp at key
end Sh
namespace Sh
open Go.RowKit
set_option maxRecDepth 40000
def uVowels:List Int:= [91,91,58,118,111,119,101,108,58,93,93,32,62,32,59,10]
theorem x_v:M.rn tVowels=uVowels:=by
 have h:=T.zc3 (l:=uVowels) (by unfold T.rightL;decide);have e:T.bytesR uVowels=tVowels.data.toList:=by decide +kernel
 rw[e] at h;exact h
theorem vPart0:T.part (T.setN 19 uVowels) uVowels [] 1=.ok vwS 10:=by
 have e:T.part (T.setN 19 uVowels) uVowels [] 1=T.made (S.orP [] vwS) 10:=by kernel_rfl
 rw[e];exact zca ⟨(S.zan.1 (by decide)).2,fun r=>by rw[Bool.eq_iff_iff];unfold vwS;simp[S.orP,S.memb,S.inR];try omega⟩ (by decide)
theorem vSet:T.setN 20 uVowels 0=.ok vwS 11:=by
 have e0:T.setN 20 uVowels 0=T.loop 17 (T.setN 19 uVowels) uVowels [] 1:=by kernel_rfl
 have e1:T.loop 17 (T.setN 19 uVowels) uVowels [] 1=(match T.part (T.setN 19 uVowels) uVowels [] 1 with | .bad e q=> .bad e q | .ok t q=>T.loop 16 (T.setN 19 uVowels) uVowels t (T.skipW T.blank uVowels q)):=by kernel_rfl
 rw[vPart0] at e1;have e2:T.loop 16 (T.setN 19 uVowels) uVowels vwS (T.skipW T.blank uVowels 10)=.ok vwS 11:=by kernel_rfl
 rw[e0,e1];simp only;rw[e2]
theorem vItem:R.item uVowels 0=.ok (some [R.setI vwS]) 11:=by
 have h:T.see uVowels 0=91:=by decide +kernel
 unfold R.item;rw[if_pos h,vSet]
theorem vItems:R.items uVowels 0=.ok ([R.setI vwS],-1) 12:=by
 have g:R.gap uVowels 0=0:=by decide +kernel
 have h:¬T.see uVowels 0=124:=by decide +kernel
 have e:R.items uVowels 0=R.itemsN 18 uVowels [] (-1) 0:=by kernel_rfl
 rw[e,R.itemsN,g,if_neg h,vItem];show _=_
 kernel_rfl
def vSide:R.Side:=⟨false,false,[],[R.setI vwS],[],-1⟩
def vPart:R.Part:=⟨2,⟨#[]⟩,[],1,vSide,⟨false,false,[],[],[],-1⟩⟩
theorem zri:R.part uVowels (R.gap uVowels 0)=T.Out.ok vPart 14:=by
 have e1:R.part uVowels (R.gap uVowels 0)=(match (match R.items uVowels 0 with | .bad e q=>T.Out.bad e q | .ok (xs,c) q=>R.sideTail uVowels ⟨false,false,[],xs,[],c⟩ q) with | .bad e q=> .bad e q | .ok a q=>(match R.dirAt uVowels q with | .bad e r=> .bad e r | .ok d r=>(match R.side uVowels r with | .bad e t=> .bad e t | .ok b t=> .ok ⟨2,⟨#[]⟩,[],d,a,b⟩ t))):=by
  have e2:R.part uVowels (R.gap uVowels 0)=(match R.side uVowels 0 with | .bad e q=> .bad e q | .ok a q=>(match R.dirAt uVowels q with | .bad e r=> .bad e r | .ok d r=>(match R.side uVowels r with | .bad e t=> .bad e t | .ok b t=> .ok ⟨2,⟨#[]⟩,[],d,a,b⟩ t))):=by kernel_rfl
  have e3:R.side uVowels 0=(match R.items uVowels 0 with | .bad e q=> .bad e q | .ok (xs,c) q=>R.sideTail uVowels ⟨false,false,[],xs,[],c⟩ q):=by
   have h1:decide (T.see uVowels (R.gap uVowels 0)=94)=false:=by decide +kernel
   have h2:R.gap uVowels 0=0:=by decide +kernel
   have h3:¬T.see uVowels 12=123:=by decide +kernel
   unfold R.side;rw[h2] at h1;simp only[h2,h1];rw[if_neg (by decide),vItems];simp only;rw[if_neg (fun h=>h.elim (fun h=>by cases h) h3)]
  rw[e2,e3]
 rw[e1,vItems];show _=_
 kernel_rfl
theorem vEnded:R.ended uVowels (R.gap uVowels 0)=.ok vPart 15:=by
 have h1:¬(T.see uVowels (R.gap uVowels 14)≠59):=by decide +kernel
 have h2:¬(R.partE vPart≠0):=by decide +kernel
 have h3:R.gap uVowels 14+1=15:=by decide +kernel
 unfold R.ended;rw[zri];simp only;rw[if_neg h1,if_neg h2,h3]
theorem zvl:Scr nVowels (oneS (vwL.map r1)):=by
 have e1:R.read uVowels=(match R.ended uVowels (R.gap uVowels 0) with | .bad e q=> .bad e q | .ok x q=>R.partsN 201 uVowels ([]++ [x]) (R.gap uVowels q)):=by kernel_rfl
 rw[vEnded] at e1;simp only at e1;have key:(match R.partsN 201 uVowels ([]++ [vPart]) (R.gap uVowels 15) with | .ok l _=>V.forthF l | .bad _ _=>(oneS (vwL.map r1),1,1))=(oneS (vwL.map r1),0,0):=by kernel_rfl
 cases h:R.partsN 201 uVowels ([]++ [vPart]) (R.gap uVowels 15) with
 | ok l q=>rw[h] at key e1;exact⟨tVowels,l,q,by decide +kernel,by decide,by rw[x_v];exact e1,key⟩
 | bad e q=>rw[h] at key;simp at key
end Sh
