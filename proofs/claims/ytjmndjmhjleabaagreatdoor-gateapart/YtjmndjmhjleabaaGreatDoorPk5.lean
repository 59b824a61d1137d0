/- Small texts, one behind the other: CsVis, StIndexB, StCut, CsDigit, CsHex, CsNumber, CsNum16, CsCap, CsLetter, CsToken, CsAllT, CsIsTok, CsAllV, CsIsVis, RfSmall, RfHexOf, RfOne, RfNumOf, CsLower, CsNum10, RfNum, ParL, RfTokB, RfScan, RfSeen, RfSeenT, RpW, RfTokT, RfTrim, RfFText, RfHexNo. -/
import Derived.Test.YtjmndjmhjleabaaGreatDoorAl
import Derived.Test.YtjmndjmhjleabaaGreatDoorAm
import Derived.Test.YtjmndjmhjleabaaGreatDoorBase
import Derived.Test.YtjmndjmhjleabaaGreatDoorPk4
import Derived.Test.YtjmndjmhjleabaaGreatDoorProg
import Derived.Lib.Bytealg
set_option maxHeartbeats 2000000
set_option maxRecDepth 100000
open Go.Proofs.Tryz
namespace Go.Proofs.YtjmndjmhjleabaaGreatDoor
open Go.RowKit
theorem sM (c:Int)(w:World):
 Calls prog 184 #[.int .u8 c] w fun e w'=>e=.returned (.bool (Ch.visible c))∧w'=w:=by
 by_cases h9:c=9
 . subst h9;go_enter func184,ntmps184;go_wp2;go_ret;exact⟨iB (by decide),rfl⟩
 . have h9':(c==9)=false:=aS.2 h9;go_enter func184,ntmps184;go_wp2;all_goals go_ret
   all_goals refine⟨iB ?_,rfl⟩
   all_goals (unfold Ch.visible;rw[h9'];first | (rw[aI (show 32<=c by omega)];simp) | (rw[aJ (show ¬32<=c by omega)];simp))
theorem zI (s:ay)(c:Int)(w:World):
 Calls prog 282 #[.string s,.int .u8 c] w fun e w'=>e=.returned (.int .i64 (Lib.indexByte s.data.toList c.toNat.toUInt8))∧w'=w:=by
 go_enter func282,ntmps282;go_wp2;rw[run_callFunc_extern func300 (by kernel_rfl) (by kernel_rfl) (by kernel_rfl) (e:=Extern.BytealgIndexByte.indexByte) (by kernel_rfl),Lib.run_indexByteString];simp only[Result.andThen];rw[Oper.upon_value];go_wp2;go_ret;exact⟨rfl,rfl⟩
theorem yt (s:ay)(c:Int)(w:World):
 Calls prog 254 #[.string s,.int .u8 c] w fun e w'=>e=.returned (.int .i64 (Lib.indexByte s.data.toList c.toNat.toUInt8))∧w'=w:=by
 go_enter func254,ntmps254;go_wp2_with (go_at_call 282;refine(zI _ _ _).mono ?_;rintro e w' ⟨rfl,rfl⟩)
 go_ret;exact⟨rfl,rfl⟩
theorem index_one (s:ay)(c:UInt8)(w:World):
 Calls prog 252 #[.string s,.string ⟨#[c]⟩] w fun e w'=>e=.returned (.int .i64 (Lib.indexByte s.data.toList c))∧w'=w:=by
 go_enter func252,ntmps252;go_wp2_with (go_at_call 282;refine(zI _ _ _).mono ?_;rintro e w' ⟨rfl,rfl⟩)
 . have h:([c]==s.toList)=true:=by assumption
   go_ret;refine⟨?_,rfl⟩;have e:s.data.toList=[c]:=by rw[<-Lib.toList_data];exact(aT.1 h).symm
   rw[e];simp[Lib.indexByte]
 . go_ret;exact⟨rfl,rfl⟩
def Fd.cutV (c:UInt8)(s:ay):Value :=
 if Fd.at_ c s.data.toList=s.size then .tuple #[.string s,.string ⟨#[]⟩,.bool false]
 else .tuple #[.string (s.extract 0 (Fd.at_ c s.data.toList)),.string (s.extract (Fd.at_ c s.data.toList+1) s.size),.bool true]
theorem RU (s:ay)(c:UInt8)(w:World)(hs:s.size<=maxLen):
 Calls prog 220 #[.string s,.string ⟨#[c]⟩] w fun e w'=>e=.returned (Fd.cutV c s)∧∃n,w'=w.drewN n:=by
 have HI:=H9 (index_one s c w);have hl:s.data.toList.length=s.size:=by rw[aO];rfl
 unfold maxLen at hs;rcases Fd.VD s.data.toList c with ⟨h1,h2⟩ | ⟨h1,h2⟩
 . rw[h1] at HI;have HR:Hid (Fd.cutV c s=.tuple #[.string s,.string ⟨#[]⟩,.bool false]):=by unfold Hid Fd.cutV;rw[if_pos (by rw[h2,hl])]
   clear h1 h2 hl;go_enter func220,ntmps220;go_wp2_with fail
   refine HI.o.mono ?_;rintro e w1 ⟨rfl,hw⟩;subst hw;go_wp2;go_ret3
   exact⟨by rw[HR.o];rfl,0,rfl⟩
 . rw[h1] at HI;rw[hl] at h2;have HR:Hid (Fd.cutV c s=.tuple #[.string (s.extract 0 (Fd.at_ c s.data.toList)),.string (s.extract (Fd.at_ c s.data.toList+1) s.size),.bool true]):=by unfold Hid Fd.cutV;rw[if_neg (by omega)]
   clear h1 hl;generalize Fd.at_ c s.data.toList=k at HI HR h2;have c1:(0:Int)<=k:=by omega
   have c2:(k:Int)<=s.size:=by omega
   have c3:(k:Int)+1<=s.size:=by omega
   have c4:IntKind.i64.wrap ((k:Int)+1)=(k:Int)+1:=lZ (by omega) (by omega);have c5:(0:Int)<=(k:Int)+1:=by omega
   have c6:((k:Int)+1).toNat=k+1:=by omega
   go_enter func220,ntmps220;go_wp2_with fail
   refine HI.o.mono ?_;rintro e w1 ⟨rfl,hw⟩;subst hw;go_wp2;go_quiet (fail)
   go_wp2;go_ret3
   exact⟨by rw[HR.o];rfl,nq,rfl⟩
theorem xG (s:ay)(c:UInt8)(w:World)(hs:s.size<=maxLen):
 Calls prog 185 #[.string s,.string ⟨#[c]⟩] w fun e w'=>e=.returned (Fd.cutV c s)∧∃n,w'=w.drewN n:=by
 have HC:=H9 (RU s c w hs);unfold Fd.cutV at HC ⊢;split at HC
 . rename_i h;rw[if_pos h];go_enter func185,ntmps185;go_wp2_with fail
   refine HC.o.mono ?_;rintro e w1 ⟨rfl,n,hw⟩;subst hw;go_wp2;go_ret3
   exact⟨rfl,n,rfl⟩
 . rename_i h;rw[if_neg h];go_enter func185,ntmps185;go_wp2_with fail
   refine HC.o.mono ?_;rintro e w1 ⟨rfl,n,hw⟩;subst hw;go_wp2;go_ret3
   exact⟨rfl,n,rfl⟩
theorem xH (c:Int)(w:World):
 Calls prog 244 #[.int .u8 c] w fun e w'=>e=.returned (.bool (Ch.digit c))∧w'=w:=by
 go_enter func244,ntmps244;go_wp2;all_goals go_ret
 all_goals refine⟨iB ?_,rfl⟩
 all_goals (simp[Ch.digit];try omega)
theorem Qr (c:Int)(w:World)(h0:0<=c)(h1:c<=255):
 Calls prog 208 #[.int .u8 c] w fun e w'=>e=.returned (.int .i64 (Ch.hex c))∧w'=w:=by
 have HH:Hid (Ch.hex c=if Ch.digit c then c-48 else if decide (97<=c)&&decide (c<=102) then c-87 else if decide (65<=c)&&decide (c<=70) then c-55 else -1):=rfl;cases hd:Ch.digit c
 . go_enter func208,ntmps208;go_wp2_with (go_at_call 244;refine(xH _ _).mono ?_;rintro e w' ⟨rfl,rfl⟩)
   all_goals go_ret
   all_goals refine⟨uN ?_,rfl⟩
   all_goals (rw[HH.o,hd];simp only[dI,if_false,dh,bR];repeat' split) <;> omega
 . have hd':48<=c∧c<=57:=by simpa[Ch.digit] using hd
   go_enter func208,ntmps208;go_wp2_with (go_at_call 244;refine(xH _ _).mono ?_;rintro e w' ⟨rfl,rfl⟩)
   go_ret;refine⟨uN ?_,rfl⟩;rw[HH.o,hd,if_pos rfl]
theorem D8 (s:ay)(base most:Int)(w:World)(hs:s.size<=maxLen)(hb0:2<=base)(hb1:base<=16)(hm0:0<=most)(hm1:most<=9):
 Calls prog 166 #[.string s,.int .i64 base,.int .i64 most] w fun e w'=>e=.returned (.tuple #[.int .i64 (Ch.number base most s.data.toList).1,.bool (Ch.number base most s.data.toList).2])∧w'=w:=by
 unfold maxLen at hs;by_cases h0:s.size=0
 . obtain rfl:=Ch.empty_eq s h0;go_enter func166,ntmps166;go_wp2;go_ret2;exact⟨nL (Ch.lH _ _ _ (Or.inl rfl)),rfl⟩
 . have hne:=Ch.lV s (by omega);by_cases hlong:most<s.size
   . have HL:Hid (most<s.data.toList.length):=by unfold Hid;rw[Ch.iD];exact hlong
     go_enter func166,ntmps166;go_wp2;go_ret2;exact⟨nL (Ch.lH _ _ _ (Or.inr HL.o)),rfl⟩
   . have Zc:decide (most<(s.size:Int))=false:=aJ hlong;have HL:Hid (¬most<s.data.toList.length):=by unfold Hid;rw[Ch.iD];exact hlong
     go_enter func166,ntmps166;go_wp2;go_loop [8,21] (fun n i=>∃k:Nat,k<=s.size∧i=.int .i64 k∧(s.data.toList.take k).all (Ch.yc base)=true∧n=.int .i64 (Ch.numOf base (s.data.toList.take k))) (fun _ i=>s.size-(intOf i).toNat)
     case atStart=>exact⟨0,aA _,rfl,rfl,rfl⟩
     case round =>
      obtain⟨k,hk,rfl,hall,rfl⟩:=hrel;have HN:Hid ((s.data.toList.take k).all (Ch.yc base)=true):=hall;have hbd:=Ch.mH base (by omega) hb1 _ hall (by have:(s.data.toList.take k).length<=k:=dM _ _;omega);clear hall;generalize hn:Ch.numOf base (s.data.toList.take k)=n at hbd;have Hn:Hid (Ch.numOf base (s.data.toList.take k)=n):=hn;clear hn;have p0:0<=n*base:=Int.mul_nonneg hbd.1 (by omega);have p1:n*base<=n*16:=Int.mul_le_mul_of_nonneg_left hb1 hbd.1;by_cases hlt:k<s.size
      . have hb:=s[k].toNat_lt;have hx:=Ch.rE s[k];by_cases hd:0<=Ch.hex s[k].toNat∧Ch.hex s[k].toNat<base
        . have HE:Hid (Ch.yc base s[k]=true):=by unfold Hid Ch.yc;rw[aI hd.1,aI hd.2];rfl
          have hd1:decide (Ch.hex s[k].toNat<0)=false:=aJ (by omega);have hd2:decide (base<=Ch.hex s[k].toNat)=false:=aJ (by omega);go_wp2_with (go_at_call 208;refine(Qr _ _ (by omega) (by omega)).mono ?_;rintro e w' ⟨rfl,rfl⟩)
          go_round
          case rel=>exact⟨k+1,by omega,by go_num,by rw[Ch.jr s k hlt,Ch.rF,HN.o,HE.o];rfl,by rw[Ch.jr s k hlt,Ch.yK,Hn.o]⟩
          case measure=>simp[intOf];omega
        . have HE:Hid (Ch.yc base s[k]=false):=by
           unfold Hid Ch.yc;by_cases hz:0<=Ch.hex s[k].toNat
           . rw[aJ (show ¬Ch.hex s[k].toNat<base from fun h=>hd ⟨hz,h⟩)];simp
           . rw[aJ hz];rfl
          by_cases hz:0<=Ch.hex s[k].toNat;all_goals
           go_wp2_with (go_at_call 208;refine(Qr _ _ (by omega) (by omega)).mono ?_;rintro e w' ⟨rfl,rfl⟩)
           all_goals first | omega | (go_ret2;exact⟨nL (Ch.tQ _ _ _ (Ch.mG _ s k hlt HE.o)),rfl⟩)
      . go_wp2;go_ret2;exact⟨nL (by rw[<-Hn.o,Ch.kY s k (by omega)];exact Ch.rG _ _ _ (Ch.ne_nil s (by omega)) (Int.not_lt.2 HL.o) (by rw[<-HN.o,Ch.kY s k (by omega)])),rfl⟩
theorem zJ (s:ay)(w:World)(hs:s.size<=maxLen):
 Calls prog 311 #[.string s] w fun e w'=>e=.returned (.tuple #[.int .i64 (Ch.number 16 6 s.data.toList).1,.bool (Ch.number 16 6 s.data.toList).2])∧w'=w:=by
 have h:=D8 s 16 6 w hs (by decide) (by decide) (by decide) (by decide);generalize Ch.number 16 6 s.data.toList=p at h;go_enter func311,ntmps311;go_wp2_with (go_at_call 166;refine h.mono ?_;rintro e w' ⟨rfl,rfl⟩)
 go_ret2;exact⟨rfl,rfl⟩
theorem wm (c:Int)(w:World):
 Calls prog 237 #[.int .u8 c] w fun e w'=>e=.returned (.bool (Ch.capital c))∧w'=w:=by
 go_enter func237,ntmps237;go_wp2;all_goals go_ret
 all_goals refine⟨iB ?_,rfl⟩
 all_goals (simp[Ch.capital];try omega)
theorem Ea (c:Int)(w:World):
 Calls prog 253 #[.int .u8 c] w fun e w'=>e=.returned (.bool (Ch.letter c))∧w'=w:=by
 go_enter func253,ntmps253;go_wp2_with (go_at_call 237;refine(wm _ _).mono ?_;rintro e w' ⟨rfl,rfl⟩)
 all_goals go_ret
 all_goals refine⟨iB ?_,rfl⟩
 all_goals (unfold Ch.letter;first | (rw[aI (show 97<=c by omega)];simp;try omega) | (rw[aJ (show ¬97<=c by omega)];simp;try omega))
theorem xI (c:Int)(w:World):
 Calls prog 225 #[.int .u8 c] w fun e w'=>e=.returned (.bool (Ch.token c))∧w'=w:=by
 have hm:=yt ⟨#[33,35,36,37,38,39,42,43,45,46,94,95,96,124,126]⟩ c w;have HM:Hid (Lib.indexByte [33,35,36,37,38,39,42,43,45,46,94,95,96,124,126] c.toNat.toUInt8=Lib.indexByte Ch.marks c.toNat.toUInt8):=rfl;generalize (Lib.indexByte [33,35,36,37,38,39,42,43,45,46,94,95,96,124,126] c.toNat.toUInt8)=r at hm HM;cases hd:Ch.digit c
 . cases hl:Ch.letter c;all_goals
    have HH:Hid (Ch.token c=(Ch.digit c||Ch.letter c||decide (0<=r))):=by rw[HM.o];rfl
    go_enter func225,ntmps225;go_wp2_with (first | (go_at_call 244;refine(xH _ _).mono ?_;rintro e w' ⟨rfl,rfl⟩) | (go_at_call 253;refine(Ea _ _).mono ?_;rintro e w' ⟨rfl,rfl⟩) | (go_at_call 254;refine hm.mono ?_;rintro e w' ⟨rfl,rfl⟩))
    go_ret;refine⟨iB ?_,rfl⟩;rw[HH.o,hd,hl];simp
 . have HH:Hid (Ch.token c=(Ch.digit c||Ch.letter c||decide (0<=r))):=by rw[HM.o];rfl
   go_enter func225,ntmps225;go_wp2_with (first | (go_at_call 244;refine(xH _ _).mono ?_;rintro e w' ⟨rfl,rfl⟩) | (go_at_call 253;refine(Ea _ _).mono ?_;rintro e w' ⟨rfl,rfl⟩) | (go_at_call 254;refine hm.mono ?_;rintro e w' ⟨rfl,rfl⟩))
   go_ret;refine⟨iB ?_,rfl⟩;rw[HH.o,hd];simp
theorem RV (s:ay)(w:World)(hs:s.size<=maxLen):
 Calls prog 224 #[.string s,.func (.func 225) #[] #[]] w fun e w'=>e=.returned (.bool (Ch.Dg s.data.toList))∧w'=w:=by
 unfold maxLen at hs;go_enter func224,ntmps224;go_wp2;go_loop [8] (fun i=>∃k:Nat,k<=s.size∧i=.int .i64 k∧((s.data.toList.take k).all fun b=>Ch.token b.toNat)=true) (fun i=>s.size-(intOf i).toNat)
 case atStart=>exact⟨0,aA _,rfl,rfl⟩
 case round =>
  obtain⟨k,hk,rfl,hno⟩:=hrel;have HN:Hid (((s.data.toList.take k).all fun b=>Ch.token b.toNat)=true):=hno;clear hno;by_cases hlt:k<s.size
  . cases he:Ch.token (s[k].toNat:Int)
    . have HE:Hid (Ch.token (s[k].toNat:Int)=false):=he;go_wp2_with (go_at_call 225;refine(xI _ _).mono ?_;rintro e w' ⟨rfl,rfl⟩)
      go_ret;refine⟨iB ?_,rfl⟩;exact(Ch.mG (fun b=>Ch.token b.toNat) s k hlt HE.o).symm
    . have HE:Hid (Ch.token (s[k].toNat:Int)=true):=he;go_wp2_with (go_at_call 225;refine(xI _ _).mono ?_;rintro e w' ⟨rfl,rfl⟩)
      go_round
      case rel=>exact⟨k+1,by omega,by go_num,by rw[Ch.jr s k hlt,Ch.rF,HN.o,HE.o];rfl⟩
      case measure=>simp[intOf];omega
  . go_wp2;go_ret;refine⟨iB ?_,rfl⟩;rw[<-HN.o,Ch.kY s k (by omega)];rfl
theorem wu (s:ay)(w:World)(hs:s.size<=maxLen):
 Calls prog 187 #[.string s] w fun e w'=>e=.returned (.bool (Ch.isToken s.data.toList))∧w'=w:=by
 by_cases h0:s.size=0
 . obtain rfl:=Ch.empty_eq s h0;go_enter func187,ntmps187;go_wp2;go_ret;exact⟨rfl,rfl⟩
 . have hne:=Ch.lV s (by omega);have HT:Hid (Ch.Dg s.data.toList=Ch.isToken s.data.toList):=by
    unfold Hid Ch.isToken Ch.Dg;rw[<-Lib.toList_data,hne];simp
   go_enter func187,ntmps187;go_wp2_with (go_at_call 224;refine(RV _ _ hs).mono ?_;rintro e w' ⟨rfl,rfl⟩)
   go_ret;exact⟨iB HT.o,rfl⟩
theorem KY (s:ay)(w:World)(hs:s.size<=maxLen):
 Calls prog 224 #[.string s,.func (.func 184) #[] #[]] w fun e w'=>e=.returned (.bool (Ch.iy s.data.toList))∧w'=w:=by
 unfold maxLen at hs;go_enter func224,ntmps224;go_wp2;go_loop [8] (fun i=>∃k:Nat,k<=s.size∧i=.int .i64 k∧((s.data.toList.take k).all fun b=>Ch.visible b.toNat)=true) (fun i=>s.size-(intOf i).toNat)
 case atStart=>exact⟨0,aA _,rfl,rfl⟩
 case round =>
  obtain⟨k,hk,rfl,hno⟩:=hrel;have HN:Hid (((s.data.toList.take k).all fun b=>Ch.visible b.toNat)=true):=hno;clear hno;by_cases hlt:k<s.size
  . cases he:Ch.visible (s[k].toNat:Int)
    . have HE:Hid (Ch.visible (s[k].toNat:Int)=false):=he;go_wp2_with (go_at_call 184;refine(sM _ _).mono ?_;rintro e w' ⟨rfl,rfl⟩)
      go_ret;refine⟨iB ?_,rfl⟩;exact(Ch.mG (fun b=>Ch.visible b.toNat) s k hlt HE.o).symm
    . have HE:Hid (Ch.visible (s[k].toNat:Int)=true):=he;go_wp2_with (go_at_call 184;refine(sM _ _).mono ?_;rintro e w' ⟨rfl,rfl⟩)
      go_round
      case rel=>exact⟨k+1,by omega,by go_num,by rw[Ch.jr s k hlt,Ch.rF,HN.o,HE.o];rfl⟩
      case measure=>simp[intOf];omega
  . go_wp2;go_ret;refine⟨iB ?_,rfl⟩;rw[<-HN.o,Ch.kY s k (by omega)];rfl
theorem kU (s:ay)(w:World)(hs:s.size<=maxLen):
 Calls prog 192 #[.string s] w fun e w'=>e=.returned (.bool (Ch.iy s.data.toList))∧w'=w:=by
 go_enter func192,ntmps192;go_wp2_with (go_at_call 224;refine(KY _ _ hs).mono ?_;rintro e w' ⟨rfl,rfl⟩)
 go_ret;exact⟨rfl,rfl⟩
theorem xK (s:ay)(w:World)(hs:s.size<=2000):
 Calls prog 78 #[.string s] w fun e w'=>e=.returned (.string ⟨(Ch.lower s.data.toList).toArray⟩)∧∃n,w'=w.drewN n:=by
 go_enter func78,ntmps78;go_wp2;go_loopw [3,4] (fun o i wr=>∃k n:Nat,∃x:ay,k<=s.size∧i=.int .i64 k∧o=.string x∧x.data.toList=Ch.lower (s.data.toList.take k)∧wr=w.drewN n) (fun _ i _=>s.size-(intOf i).toNat)
 case atStart=>exact⟨0,0,⟨#[]⟩,aA _,rfl,rfl,rfl,rfl⟩
 case round =>
  obtain⟨k,n,x,hk,rfl,rfl,hx,rfl⟩:=hrel;have hxs:x.size<=2000:=by
   have:=Ch.size_of_list hx;rw[Ch.mZ] at this;have h2:(s.data.toList.take k).length<=k:=dM _ _;omega
  have HX:Hid (x.data.toList=Ch.lower (s.data.toList.take k)):=hx;clear hx;by_cases hlt:k<s.size
  . go_wp2;go_loopw [5,6] (fun c i wr=>∃j n:Nat,∃y:ay,j<=26∧i=.int .i64 j∧c=.string y∧y.data.toList=[Ch.vD s[k] j]∧wr=w.drewN n) (fun _ i _=>26-(intOf i).toNat)
    case atStart=>exact⟨0,n,_,aA _,rfl,rfl,by rw[Ch.vR s k hlt,Ch.Nf],rfl⟩
    case round =>
     obtain⟨j,n,y,hj,rfl,rfl,hy,rfl⟩:=hrel;have hys:y.size<=1:=by have:=Ch.size_of_list hy;simp at this;omega
     have HY:Hid (y.data.toList=[Ch.vD s[k] j]):=hy;clear hy;by_cases hlj:j<26
     . go_wp2;go_quiet (fail)
       go_wp2
       . have he:(((((⟨#[65,66,67,68,69,70,71,72,73,74,75,76,77,78,79,80,81,82,83,84,85,86,87,88,89,90]⟩:ay)[j]'hlj).toNat:Nat):Int)==(s[k].toNat:Int))=true:=by assumption
         go_roundw
         case rel=>exact⟨j+1,n+nq,_,by omega,by go_num,rfl,Ch.Rc _ _ hlj he,by simp[World.drewN]⟩
         case measure=>simp[intOf];omega
       . have he:(((((⟨#[65,66,67,68,69,70,71,72,73,74,75,76,77,78,79,80,81,82,83,84,85,86,87,88,89,90]⟩:ay)[j]'hlj).toNat:Nat):Int)==(s[k].toNat:Int))=false:=by assumption
         go_roundw
         case rel=>exact⟨j+1,n+nq,y,by omega,by go_num,rfl,by rw[HY.o,Ch.Nc _ _ hlj he],by simp[World.drewN]⟩
         case measure=>simp[intOf];omega
     . obtain rfl:j=26:=by omega
       go_wp2;go_roundw
       case rel=>exact⟨k+1,n,x++y,by omega,by go_num,rfl,by rw[Ch.data_append,HX.o,HY.o,Ch.jr s k hlt,Ch.Ng];rfl,rfl⟩
       case measure=>simp[intOf];omega
  . go_wp2;go_ret;exact⟨qE (Ch.str_eq (by rw[HX.o,Ch.kY s k (by omega)])),n,rfl⟩
theorem xL (b:UInt8)(w:World):
 Calls prog 96 #[.int .u8 b.toNat] w fun e w'=>e=.returned (.int .i64 (Ch.hex b.toNat))∧aj w w':=by
 have hb:=b.toNat_lt;have qx:(convert 31 9 (.slice (some ⟨w.heap.size,0,none⟩) 1 1)).run prog (w.alloc (.cells #[.int .u8 b.toNat] 5))=.ok (.string ⟨#[b]⟩) (w.alloc (.cells #[.int .u8 b.toNat] 5)) :=
  run_convert_bytes_back (P:=prog) (w.alloc (.cells #[.int .u8 b.toNat] 5)) 31 9 5 ⟨w.heap.size,0,none⟩ 1 [b] underlying31 underlying5 underlying9 (fun j hj=>by
   obtain rfl:j=0:=by simp at hj;exact hj
   rw[show((⟨w.heap.size,0,none⟩:Addr).add 0)=⟨w.heap.size,0,none⟩ from rfl,World.cell?_alloc_at _ _ _ _ rfl];rfl)
 have hsm:=xK ⟨#[b]⟩ (w.alloc (.cells #[.int .u8 b.toNat] 5)) (by show 1<=2000;omega);rw[show(⟨(Ch.lower (⟨#[b]⟩:ay).data.toList).toArray⟩:ay)=⟨#[Ch.qC b]⟩ from rfl] at hsm;have hB:aj w (w.alloc (.cells #[.int .u8 b.toNat] 5)):=(fJ _ _).alloc (aM _) _;go_enter func96,ntmps96;go_wp2_with fail
 refine hsm.mono ?_;rintro e w1 ⟨rfl,nd,hw1⟩;have hB1:aj w w1:=by rw[hw1];exact⟨hB.os,hB.tape,hB.output,hB.size,hB.block⟩
 clear hw1 hB hsm qx;go_wp2;go_loop [5] (fun i=>∃j:Nat,j<=16∧i=.int .i64 j∧∀m,m<j->Ch.qC b≠Ch.Cy.getD m 0) (fun i=>16-(intOf i).toNat)
 case atStart=>exact⟨0,aA _,rfl,fun m hm=>absurd hm (bZ _)⟩
 case round =>
  obtain⟨j,hj,rfl,hno⟩:=hrel;have HN:Hid (∀m,m<j->Ch.qC b≠Ch.Cy.getD m 0):=hno;clear hno;by_cases hlt:j<16
  . have hpe:=Ch.U4 b j hlt;by_cases he:Ch.qC b=Ch.Cy.getD j 0
    . rw[aI he] at hpe;have HE:Hid (Ch.hex b.toNat=j):=Ch.U3 b j hlt he;clear he;go_wp2;go_ret;exact⟨uN HE.o.symm,hB1⟩
    . rw[aJ he] at hpe;have HE:Hid (Ch.qC b≠Ch.Cy.getD j 0):=he;clear he;go_wp2;go_round
      case rel=>exact⟨j+1,by omega,by go_num,fun m hm=>by
       rcases aU m j with h | h
       . exact HN.o m h
       . obtain rfl:m=j:=by omega
         exact HE.o⟩
      case measure=>simp[intOf];omega
  . have HE:Hid (Ch.hex b.toNat=-1):=Ch.Rf b (fun m hm=>HN.o m (by omega));go_wp2;go_ret;exact⟨uN HE.o.symm,hB1⟩
theorem QA (c:Int)(s:ay)(w:World)(hs:s.size<=maxLen):
 Calls prog 95 #[.int .u8 c,.string s] w fun e w'=>e=.returned (.bool (Ch.oneOf c s.data.toList))∧w'=w:=by
 unfold maxLen at hs;go_enter func95,ntmps95;go_wp2;go_loop [5] (fun i=>∃k:Nat,k<=s.size∧i=.int .i64 k∧Ch.oneOf c (s.data.toList.take k)=false) (fun i=>s.size-(intOf i).toNat)
 case atStart=>exact⟨0,aA _,rfl,rfl⟩
 case round =>
  obtain⟨k,hk,rfl,hno⟩:=hrel;have HN:Hid (Ch.oneOf c (s.data.toList.take k)=false):=hno;clear hno;by_cases hlt:k<s.size
  . by_cases he:((s[k].toNat:Int))=c
    . have HE:Hid ((s[k].toNat:Int)=c):=he;have hb:(((s[k].toNat:Int))==c)=true:=aT.2 he;clear he;go_wp2;go_ret;refine⟨iB ?_,rfl⟩;exact(Ch.Kc (fun b=>(b.toNat:Int)==c) s k hlt (aT.2 HE.o)).symm
    . have hb:(((s[k].toNat:Int))==c)=false:=aS.2 he;have HB:Hid ((((s[k].toNat:Int))==c)=false):=hb;clear he;go_wp2;go_round
      case rel=>exact⟨k+1,by omega,by go_num,by rw[Ch.jr s k hlt,Ch.Nb,HN.o,HB.o];rfl⟩
      case measure=>simp[intOf];omega
  . go_wp2;go_ret;refine⟨iB ?_,rfl⟩;rw[<-HN.o,Ch.kY s k (by omega)]
theorem Jr (s:ay)(w:World)(hs:s.size<=maxLen):
 Calls prog 59 #[.string s] w fun e w'=>e=.returned (.tuple #[.int .i64 (Ch.number 10 9 s.data.toList).1,.bool (Ch.number 10 9 s.data.toList).2])∧aj w w':=by
 unfold maxLen at hs;by_cases h0:s.size=0
 . obtain rfl:=Ch.empty_eq s h0;go_enter func59,ntmps59;go_wp2;go_ret2;exact⟨nL (Ch.lH _ _ _ (Or.inl rfl)),fJ _ _⟩
 . have hpos:decide ((s.size:Int)<1)=false:=aJ (by omega);by_cases hlong:(9:Int)<s.size
   . have HL:Hid ((9:Int)<s.data.toList.length):=by unfold Hid;rw[Ch.iD];exact hlong
     go_enter func59,ntmps59;go_wp2;go_ret2;exact⟨nL (Ch.lH _ _ _ (Or.inr HL.o)),fJ _ _⟩
   . have Zc:decide ((9:Int)<(s.size:Int))=false:=aJ hlong;have HL:Hid ((s.data.toList.length:Int)<=9):=by unfold Hid;rw[Ch.iD];omega
     go_enter func59,ntmps59;go_wp2;go_loopw [4,5] (fun n i wr=>∃k:Nat,k<=s.size∧i=.int .i64 k∧(s.data.toList.take k).all (Ch.yc 10)=true∧n=.int .i64 (Ch.numOf 10 (s.data.toList.take k))∧aj w wr) (fun _ i _=>s.size-(intOf i).toNat)
     case atStart=>exact⟨0,aA _,rfl,rfl,rfl,fJ _ _⟩
     case round =>
      obtain⟨k,hk,rfl,hall,rfl,hbl⟩:=hrel;have HN:Hid ((s.data.toList.take k).all (Ch.yc 10)=true):=hall;have hbd:=Ch.mH 10 (by omega) (by omega) _ hall (by have:(s.data.toList.take k).length<=k:=dM _ _;omega);clear hall;generalize hn:Ch.numOf 10 (s.data.toList.take k)=n at hbd;have Hn:Hid (Ch.numOf 10 (s.data.toList.take k)=n):=hn;clear hn;by_cases hlt:k<s.size
      . have hb:=s[k].toNat_lt;have hx:=Ch.rE s[k];have hone:=fun wx=>QA (s[k].toNat:Int) ⟨#[48,49,50,51,52,53,54,55,56,57]⟩ wx (by decide);have ho:Ch.oneOf (s[k].toNat:Int) (⟨#[48,49,50,51,52,53,54,55,56,57]⟩:ay).data.toList=Ch.yc 10 s[k]:=(Ch.Nh _).trans (Ch.adY _).symm;rw[ho] at hone;clear ho;have HO:Hid (∀wx,Calls prog 95 #[.int .u8 (s[k].toNat:Int),.string ⟨#[48,49,50,51,52,53,54,55,56,57]⟩] wx fun e w'=>e=.returned (.bool (Ch.yc 10 s[k]))∧w'=wx):=hone;clear hone;cases hd:Ch.yc 10 s[k]
        . have HE:Hid (Ch.yc 10 s[k]=false):=hd;go_wp2_with fail
          refine(HO.o _).mono ?_;rintro e w1 ⟨rfl,rfl⟩;go_wp2;go_ret2;exact⟨nL (Ch.tQ _ _ _ (Ch.mG _ s k hlt HE.o)),hbl⟩
        . have HE:Hid (Ch.yc 10 s[k]=true):=hd;have hx2:0<=Ch.hex s[k].toNat:=by
           unfold Ch.yc at hd;rw[dh] at hd;exact dn hd.1
          go_wp2_with fail
          refine(HO.o _).mono ?_;rintro e w1 ⟨rfl,rfl⟩;go_wp2_with fail
          refine(xL s[k] _).mono ?_;rintro e w2 ⟨rfl,hb2⟩;go_wp2;go_roundw
          case rel=>exact⟨k+1,by omega,by go_num,by rw[Ch.jr s k hlt,Ch.rF,HN.o,HE.o];rfl,by rw[Ch.jr s k hlt,Ch.yK,Hn.o,Int.mul_comm],hbl.trans (hb2.mono hbl.size)⟩
          case measure=>simp[intOf];omega
      . go_wp2;go_ret2;exact⟨nL (by rw[<-Hn.o,Ch.kY s k (by omega)];exact Ch.rG _ _ _ (Ch.ne_nil s (by omega)) (Int.not_lt.2 HL.o) (by rw[<-HN.o,Ch.kY s k (by omega)])),hbl⟩
def mg (s:ay)(k j:Nat):Value:=.int .u8 ((if j<k then Ch.qC (s.data.toList.getD j 0) else s.data.toList.getD j 0).toNat:Int)
theorem Js (s:ay)(k j:Nat)(h:Ch.qC (s.data.toList.getD k 0)=s.data.toList.getD k 0):some (mg s k j)=some (mg s (k+1) j):=by
 unfold mg;by_cases h1:j<k
 . rw[if_pos h1,if_pos (by omega)]
 . by_cases h2:j=k
   . subst h2;rw[if_neg h1,if_pos (by omega),h]
   . rw[if_neg h1,if_neg (by omega)]
theorem FZ (s:ay)(k j:Nat)(h:j≠k):some (mg s k j)=some (mg s (k+1) j):=by
 unfold mg;by_cases h1:j<k
 . rw[if_pos h1,if_pos (by omega)]
 . rw[if_neg h1,if_neg (by omega)]
theorem oN (s:ay)(w:World)(hs:s.size<=maxLen):
 Calls prog 203 #[.string s] w fun e w'=>e=.returned (.string ⟨(Ch.lower s.data.toList).toArray⟩)∧aj w w':=by
 unfold maxLen at hs;have qx:=run_bytes_of_string (P:=prog) w 9 31 5 s underlying9 underlying31 underlying5;generalize grownCap w s.size 0 5=cap at qx;have hat:∀j,j<s.size->(bytesRow s cap)[j]? = some (mg s 0 j):=fun j hj=>by
  rw[bytesRow_at s cap j hj];unfold mg;rw[if_neg (by omega)];have e:s.data.toList.getD j 0=s.data[j]'hj:=by
   simp[List.getD,hj]
  rw[e]
 have hsz:s.size<=(bytesRow s cap).size:=by unfold bytesRow;simp
 generalize bytesRow s cap=C at qx hat hsz;go_enter func203,ntmps203;go_wp2;have hB0:aj w (w.alloc (.cells C 5 (C.size,C.size+1))).drew:=((fJ _ _).alloc (aM _) _).drew;have hc0:∀j,j<s.size->((w.alloc (.cells C 5 (C.size,C.size+1))).drew).cell? ⟨w.heap.size,j,none⟩=some (mg s 0 j):=fun j hj=>by
  rw[<-hat j hj];exact World.cell?_alloc_mark w C 5 _ j
 have hf0:∀j,j<s.size->((w.alloc (.cells C 5 (C.size,C.size+1))).drew).frozen? ⟨w.heap.size,j,none⟩=false:=fun j hj=>by
  refine(World.frozen?_alloc_mark w C 5 C.size (C.size+1) j).trans ?_;rw[aJ (by omega)];rfl
 clear qx hat;go_loopw [10] (fun i wr=>∃k:Nat,k<=s.size∧i=.int .i64 k∧aj w wr∧(∀j,j<s.size->wr.cell? ⟨w.heap.size,j,none⟩=some (mg s k j))∧(∀j,j<s.size->wr.frozen? ⟨w.heap.size,j,none⟩=false)) (fun i _=>s.size-(intOf i).toNat)
 case atStart=>exact⟨0,aA _,rfl,hB0,hc0,hf0⟩
 case round =>
  obtain⟨k,hk,rfl,hbl,hcs,hfs⟩:=hrel;clear hB0 hc0 hf0 hsz;have HC:Hid (∀j,j<s.size->wr.cell? ⟨w.heap.size,j,none⟩=some (mg s k j)):=hcs;have HF:Hid (∀j,j<s.size->wr.frozen? ⟨w.heap.size,j,none⟩=false):=hfs;clear hcs hfs;by_cases hlt:k<s.size
  . have hb:=s[k].toNat_lt;have e0:s.data.toList.getD k 0=s[k]:=by
     have:s.data.toList[k]? = some s[k]:=dD (by simpa using hlt);simp[List.getD,this]
    have hcell:wr.cell? ⟨w.heap.size,k,none⟩=some (.int .u8 s[k].toNat):=by
     rw[HC.o k hlt];unfold mg;rw[if_neg (by omega),e0]
    have hfz:=HF.o k hlt;have H0:Hid (s.data.toList.getD k 0=s[k]):=e0;clear e0;cases hcap:Ch.capital s[k].toNat
    . have HL:Hid (Ch.qC s[k]=s[k]):=Ch.YJ _ hcap;go_wp2_with (go_at_call 237;refine(wm _ _).mono ?_;rintro e w' ⟨rfl,rfl⟩)
      go_roundw
      case rel=>exact⟨k+1,by omega,by go_num,hbl,fun j hj=>by rw[HC.o j hj];exact Js s k j (by rw[H0.o,HL.o]),HF.o⟩
      case measure=>simp[intOf];omega
    . have HL:Hid (((Ch.qC s[k]).toNat:Int)=s[k].toNat-65+97):=Ch.U5 _ hcap;have hcr:65<=s[k].toNat∧s[k].toNat<=90:=by
       unfold Ch.capital at hcap;rw[dh,bR,bR] at hcap;omega
      go_wp2_with (go_at_call 237;refine(wm _ _).mono ?_;rintro e w' ⟨rfl,rfl⟩)
      go_roundw
      case rel =>
       refine⟨k+1,by omega,by go_num,hbl.setCell (aM _) _,fun j hj=>?_,fun j hj=>by rw[World.frozen?_setCell];exact HF.o j hj⟩;by_cases hjk:j=k
       . subst hjk;rw[fP (h:=hcell)];unfold mg;rw[if_pos (by omega),H0.o,HL.o]
       . rw[fQ (h:=by intro h;injection h with _ h2;exact hjk h2.symm),HC.o j hj];exact FZ s k j hjk
      case measure=>simp[intOf];omega
  . obtain rfl:k=s.size:=by omega
    have hback:(convert 31 9 (.slice (some ⟨w.heap.size,0,none⟩) s.size cap)).run prog wr=.ok (.string ⟨(Ch.lower s.data.toList).toArray⟩) wr:=by
     have h:=run_convert_bytes_back (P:=prog) wr 31 9 5 ⟨w.heap.size,0,none⟩ cap (Ch.lower s.data.toList) underlying31 underlying5 underlying9 (fun j hj=>by
      have hj':j<s.size:=by rw[Ch.mZ,Ch.iD] at hj;exact hj
      have ha:((⟨w.heap.size,0,none⟩:Addr).add j)=⟨w.heap.size,j,none⟩:=by unfold Addr.add;simp;omega
      rw[ha,HC.o j hj'];unfold mg;rw[if_pos hj'];have e:(Ch.lower s.data.toList)[j]=Ch.qC (s.data.toList.getD j 0):=by
       simp[Ch.lower,List.getD,hj']
      rw[e])
     rw[Ch.mZ,Ch.iD] at h;exact h
    clear HC HF;generalize hr:(⟨(Ch.lower s.data.toList).toArray⟩:ay)=r at hback;have HR:Hid ((⟨(Ch.lower s.data.toList).toArray⟩:ay)=r):=hr;clear hr;go_wp2;go_ret;exact⟨qE HR.o.symm,hbl⟩
theorem oz (s:ay)(w:World)(hs:s.size<=maxLen):
 Calls prog 124 #[.string s] w fun e w'=>e=.returned (.tuple #[.int .i64 (Ch.number 10 9 s.data.toList).1,.bool (Ch.number 10 9 s.data.toList).2])∧w'=w:=by
 have h:=D8 s 10 9 w hs (by decide) (by decide) (by decide) (by decide);generalize Ch.number 10 9 s.data.toList=p at h;go_enter func124,ntmps124;go_wp2_with (go_at_call 166;refine h.mono ?_;rintro e w' ⟨rfl,rfl⟩)
 go_ret2;exact⟨rfl,rfl⟩
theorem Oa:(prog.info? 202).map (fun i=>(i.zero,i.size,i.bytes))=some (some (.agg #[.string ⟨#[]⟩,.string ⟨#[]⟩]),2,32):=by kernel_rfl
theorem Sg (a b:ay):(a.toList==b.toList)=decide (a.data.toList=b.data.toList):=by
 rw[Lib.toList_data,Lib.toList_data,aH];simp
def mq (ps:au):List Pm.tL:=ps.map fun p=>(p.1.data.toList,p.2.data.toList)
theorem sU (ps:au):(mq ps).length=ps.length:=by simp[mq]
theorem Lr (a b:au):mq (a++b)=mq a++mq b:=by simp[mq]
theorem vH (c:Int)(w:World)(h0:0<=c)(h1:c<=255):
 Calls prog 115 #[.int .u8 c] w fun e w'=>e=.returned (.bool (Ch.token c))∧w'=w:=by
 have HT:Hid (Ch.oneOf c Ch.tokens=Ch.token c):=Ch.IZ c h0 h1;have hm:=QA c ⟨Ch.tokens.toArray⟩ w (by decide);go_enter func115,ntmps115;go_wp2_with fail
 refine hm.mono ?_;rintro e w' ⟨rfl,rfl⟩;go_wp2;go_ret;exact⟨iB HT.o,rfl⟩
theorem yS (c:Int)(w:World):
 Calls prog 73 #[.int .u8 c] w fun e w'=>e=.returned (.bool (Ch.visible c))∧w'=w:=by
 by_cases h9:c=9
 . subst h9;go_enter func73,ntmps73;go_wp2;go_ret;exact⟨iB (by decide),rfl⟩
 . have h9':(c==9)=false:=aS.2 h9;go_enter func73,ntmps73;go_wp2;all_goals go_ret
   all_goals refine⟨iB ?_,rfl⟩
   all_goals (unfold Ch.visible;rw[h9'];first | (rw[aI (show 32<=c by omega)];simp) | (rw[aJ (show ¬32<=c by omega)];simp))
theorem Ju (s:ay)(w:World)(hs:s.size<=maxLen):
 Calls prog 76 #[.string s] w fun e w'=>e=.returned (.bool (Ch.iy s.data.toList))∧w'=w:=by
 unfold maxLen at hs;go_enter func76,ntmps76;go_wp2;go_loop [3] (fun i=>∃k:Nat,k<=s.size∧i=.int .i64 k∧((s.data.toList.take k).all fun b=>Ch.visible b.toNat)=true) (fun i=>s.size-(intOf i).toNat)
 case atStart=>exact⟨0,aA _,rfl,rfl⟩
 case round =>
  obtain⟨k,hk,rfl,hno⟩:=hrel;have HN:Hid (((s.data.toList.take k).all fun b=>Ch.visible b.toNat)=true):=hno;clear hno;by_cases hlt:k<s.size
  . have hb:=s[k].toNat_lt;cases he:Ch.visible (s[k].toNat:Int)
    . have HE:Hid (Ch.visible (s[k].toNat:Int)=false):=he;go_wp2_with (go_at_call 73;refine(yS _ _).mono ?_;rintro e w' ⟨rfl,rfl⟩)
      go_ret;refine⟨iB ?_,rfl⟩;exact(Ch.mG (fun b=>Ch.visible b.toNat) s k hlt HE.o).symm
    . have HE:Hid (Ch.visible (s[k].toNat:Int)=true):=he;go_wp2_with (go_at_call 73;refine(yS _ _).mono ?_;rintro e w' ⟨rfl,rfl⟩)
      go_round
      case rel=>exact⟨k+1,by omega,by go_num,by rw[Ch.jr s k hlt,Ch.rF,HN.o,HE.o];rfl⟩
      case measure=>simp[intOf];omega
  . go_wp2;go_ret;refine⟨iB ?_,rfl⟩;unfold Ch.iy;rw[<-HN.o,Ch.kY s k (by omega)]
theorem ED (n:Int)(w:World):
 Calls prog 145 #[.int .i64 n] w fun e w'=>e=.returned (.string ⟨(Rp.word n).toArray⟩)∧w'=w:=by
 by_cases h0:n=200
 . subst h0;go_enter func145,ntmps145;go_wp2;go_ret;exact⟨rfl,rfl⟩
 by_cases h1:n=201
 . subst h1;go_enter func145,ntmps145;go_wp2;go_ret;exact⟨rfl,rfl⟩
 by_cases h2:n=204
 . subst h2;go_enter func145,ntmps145;go_wp2;go_ret;exact⟨rfl,rfl⟩
 by_cases h3:n=400
 . subst h3;go_enter func145,ntmps145;go_wp2;go_ret;exact⟨rfl,rfl⟩
 by_cases h4:n=404
 . subst h4;go_enter func145,ntmps145;go_wp2;go_ret;exact⟨rfl,rfl⟩
 by_cases h5:n=405
 . subst h5;go_enter func145,ntmps145;go_wp2;go_ret;exact⟨rfl,rfl⟩
 by_cases h6:n=409
 . subst h6;go_enter func145,ntmps145;go_wp2;go_ret;exact⟨rfl,rfl⟩
 by_cases h7:n=412
 . subst h7;go_enter func145,ntmps145;go_wp2;go_ret;exact⟨rfl,rfl⟩
 by_cases h8:n=413
 . subst h8;go_enter func145,ntmps145;go_wp2;go_ret;exact⟨rfl,rfl⟩
 by_cases h9:n=415
 . subst h9;go_enter func145,ntmps145;go_wp2;go_ret;exact⟨rfl,rfl⟩
 by_cases h10:n=507
 . subst h10;go_enter func145,ntmps145;go_wp2;go_ret;exact⟨rfl,rfl⟩
 have HW:Hid (Rp.word n=[]):=by
  refine Rp.CY Rp.tab n (fun p hp=>?_);simp only[Rp.tab,fB,List.not_mem_nil,or_false] at hp;rcases hp with rfl | rfl | rfl | rfl | rfl | rfl | rfl | rfl | rfl | rfl | rfl;all_goals (intro e;simp only at e;omega)
 have t0:(n==200)=false:=by rw[aS];exact h0
 have t1:(n==201)=false:=by rw[aS];exact h1
 have t2:(n==204)=false:=by rw[aS];exact h2
 have t3:(n==400)=false:=by rw[aS];exact h3
 have t4:(n==404)=false:=by rw[aS];exact h4
 have t5:(n==405)=false:=by rw[aS];exact h5
 have t6:(n==409)=false:=by rw[aS];exact h6
 have t7:(n==412)=false:=by rw[aS];exact h7
 have t8:(n==413)=false:=by rw[aS];exact h8
 have t9:(n==415)=false:=by rw[aS];exact h9
 have t10:(n==507)=false:=by rw[aS];exact h10
 clear h0 h1 h2 h3 h4 h5 h6 h7 h8 h9 h10;go_enter func145,ntmps145;go_wp2;go_ret;exact⟨by rw[HW.o];rfl,rfl⟩
theorem yA (s:ay)(w:World)(hs:s.size<=maxLen):
 Calls prog 74 #[.string s] w fun e w'=>e=.returned (.bool (Ch.isToken s.data.toList))∧w'=w:=by
 unfold maxLen at hs;go_enter func74,ntmps74;go_wp2;go_loop [3] (fun i=>∃k:Nat,k<=s.size∧i=.int .i64 k∧((s.data.toList.take k).all fun b=>Ch.token b.toNat)=true) (fun i=>s.size-(intOf i).toNat)
 case atStart=>exact⟨0,aA _,rfl,rfl⟩
 case round =>
  obtain⟨k,hk,rfl,hno⟩:=hrel;have HN:Hid (((s.data.toList.take k).all fun b=>Ch.token b.toNat)=true):=hno;clear hno;by_cases hlt:k<s.size
  . have hb:=s[k].toNat_lt;cases he:Ch.token (s[k].toNat:Int)
    . have HE:Hid (Ch.token (s[k].toNat:Int)=false):=he;go_wp2_with (go_at_call 115;refine(vH _ _ (by omega) (by omega)).mono ?_;rintro e w' ⟨rfl,rfl⟩)
      go_ret;refine⟨iB ?_,rfl⟩;unfold Ch.isToken;rw[Ch.mG (fun b=>Ch.token b.toNat) s k hlt HE.o];simp
    . have HE:Hid (Ch.token (s[k].toNat:Int)=true):=he;go_wp2_with (go_at_call 115;refine(vH _ _ (by omega) (by omega)).mono ?_;rintro e w' ⟨rfl,rfl⟩)
      go_round
      case rel=>exact⟨k+1,by omega,by go_num,by rw[Ch.jr s k hlt,Ch.rF,HN.o,HE.o];rfl⟩
      case measure=>simp[intOf];omega
  . go_wp2;go_ret;refine⟨iB ?_,rfl⟩;have h:((s.data.toList).all fun b=>Ch.token b.toNat)=true:=by rw[<-HN.o,Ch.kY s k (by omega)]
    unfold Ch.isToken;rw[h];by_cases hz:s.size=0
    . obtain rfl:=Ch.empty_eq s hz;rfl
    . rw[<-Lib.toList_data,Ch.lV s (by omega)];simp;omega
theorem BX (s:ay)(w:World)(hs:s.size<=maxLen):
 Calls prog 77 #[.string s] w fun e w'=>e=.returned (.string ⟨(Lib.trimS s.data.toList Ch.ws).toArray⟩)∧w'=w:=by
 unfold maxLen at hs;go_enter func77,ntmps77;go_wp2;go_loop [0] (fun v=>∃x:ay,v=.string x∧x.size<=s.size∧Lib.trimLeftS x.data.toList Ch.ws=Lib.trimLeftS s.data.toList Ch.ws) (fun v=>AR v)
 case atStart=>exact⟨s,rfl,aM _,rfl⟩
 case round =>
  obtain⟨x,rfl,hxs,hx⟩:=hrel;have HX:Hid (Lib.trimLeftS x.data.toList Ch.ws=Lib.trimLeftS s.data.toList Ch.ws):=hx;clear hx;by_cases hgo:∃h:0<x.size,Ch.ws.contains (x[0]'h)=true
  . obtain⟨h0,hp⟩:=hgo;have hpos:decide ((0:Int)<(x.size:Int))=true:=aI (by omega);have HP:Hid (Ch.ws.contains (x[0]'h0)=true):=hp;rw[Ch.Qa] at hp;cases h32:(((x[0]'h0).toNat:Int)==32)
    . rw[h32,Bool.false_or] at hp;go_wp2;go_round
      case rel=>exact⟨x.extract 1 x.size,rfl,by simp;omega,by rw[Lib.extract_to_end,Ch.left_step x h0 HP.o,HX.o]⟩
      case measure=>simp[AR];omega
    . clear hp;go_wp2;go_round
      case rel=>exact⟨x.extract 1 x.size,rfl,by simp;omega,by rw[Lib.extract_to_end,Ch.left_step x h0 HP.o,HX.o]⟩
      case measure=>simp[AR];omega
  . have hstop:∀h:0<x.size,Ch.ws.contains (x[0]'h)=false:=fun h=>by
     cases e:Ch.ws.contains (x[0]'h)
     . rfl
     . exact absurd ⟨h,e⟩ hgo
    have HD:Hid (x.data.toList=Lib.trimLeftS s.data.toList Ch.ws):=(Ch.left_stop x hstop).symm.trans HX.o;clear hgo HX;have hne:x.size=0∨(0<x.size∧∀h:0<x.size,(((x[0]'h).toNat:Int)==32)=false∧(((x[0]'h).toNat:Int)==9)=false):=by
     rcases fF x.size with h | h
     . exact Or.inl h
     . refine Or.inr ⟨h,fun h'=>?_⟩;have:=hstop h';rw[Ch.Qa,aR] at this;exact this
    clear hstop;rcases hne with hz | ⟨h0,hne⟩
    . have hpos:decide ((0:Int)<(x.size:Int))=false:=aJ (by omega);obtain rfl:=Ch.empty_eq x hz;go_wp2;refine wp_loop_rounds 1 ?_;rw[rounds_succ];go_wp2;go_ret;refine⟨qE ?_,rfl⟩;rw[<-Ch.GH,<-HD.o];rfl
    . have hpos:decide ((0:Int)<(x.size:Int))=true:=aI (by omega);have h32:=(hne h0).1;have h9:=(hne h0).2;clear hne;go_wp2;go_loop [0] (fun v=>∃y:ay,v=.string y∧y.size<=x.size∧Lib.trimRightS y.data.toList Ch.ws=Lib.trimRightS x.data.toList Ch.ws) (fun v=>AR v)
      case atStart=>exact⟨x,rfl,aM _,rfl⟩
      case round =>
       obtain⟨y,rfl,hys,hy⟩:=hrel;have HY:Hid (Lib.trimRightS y.data.toList Ch.ws=Lib.trimRightS x.data.toList Ch.ws):=hy;clear hy h32 h9 hpos;by_cases hgo:∃h:0<y.size,Ch.ws.contains (y[y.size-1]'(by omega))=true
       . obtain⟨hy0,hp⟩:=hgo;have hypos:decide ((0:Int)<(y.size:Int))=true:=aI (by omega);have HP:Hid (Ch.ws.contains (y[y.size-1]'(by omega))=true):=hp;rw[Ch.Qa] at hp;cases hy32:(((y[y.size-1]'(by omega)).toNat:Int)==32)
         . rw[hy32,Bool.false_or] at hp;go_wp2;go_round
           case rel=>exact⟨y.extract 0 (y.size-1),rfl,by simp;omega,by rw[Lib.extract_data,List.drop_zero,Nat.sub_zero,Ch.right_step y hy0 HP.o,HY.o]⟩
           case measure=>simp[AR];omega
         . clear hp;go_wp2;go_round
           case rel=>exact⟨y.extract 0 (y.size-1),rfl,by simp;omega,by rw[Lib.extract_data,List.drop_zero,Nat.sub_zero,Ch.right_step y hy0 HP.o,HY.o]⟩
           case measure=>simp[AR];omega
       . have hstop:∀h:0<y.size,Ch.ws.contains (y[y.size-1]'(by omega))=false:=fun h=>by
          cases e:Ch.ws.contains (y[y.size-1]'(by omega))
          . rfl
          . exact absurd ⟨h,e⟩ hgo
         have HF:Hid (y=⟨(Lib.trimS s.data.toList Ch.ws).toArray⟩):=Ch.str_eq (by rw[<-Ch.GH,<-HD.o,<-HY.o,Ch.right_stop y hstop]);clear hgo HY HD;rcases fF y.size with hz | hy0
         . have hypos:decide ((0:Int)<(y.size:Int))=false:=aJ (by omega);go_wp2;go_ret;exact⟨qE HF.o,rfl⟩
         . have hypos:decide ((0:Int)<(y.size:Int))=true:=aI (by omega);have hst:=hstop hy0;rw[Ch.Qa,aR] at hst;have hy32:=hst.1;have hy9:=hst.2;clear hst hstop;go_wp2;go_ret;exact⟨qE HF.o,rfl⟩
theorem CS (s:ay)(w:World)(hs:s.size<=maxLen):
 Calls prog 79 #[.string s] w fun e w'=>e=.returned (.tuple #[.int .i64 (Ch.number 16 6 s.data.toList).1,.bool (Ch.number 16 6 s.data.toList).2])∧aj w w':=by
 unfold maxLen at hs;by_cases h0:s.size=0
 . obtain rfl:=Ch.empty_eq s h0;go_enter func79,ntmps79;go_wp2;go_ret2;exact⟨nL (Ch.lH _ _ _ (Or.inl rfl)),fJ _ _⟩
 . have hpos:decide ((s.size:Int)<1)=false:=aJ (by omega);by_cases hlong:(6:Int)<s.size
   . have HL:Hid ((6:Int)<s.data.toList.length):=by unfold Hid;rw[Ch.iD];exact hlong
     go_enter func79,ntmps79;go_wp2;go_ret2;exact⟨nL (Ch.lH _ _ _ (Or.inr HL.o)),fJ _ _⟩
   . have Zc:decide ((6:Int)<(s.size:Int))=false:=aJ hlong;have HL:Hid ((s.data.toList.length:Int)<=6):=by unfold Hid;rw[Ch.iD];omega
     go_enter func79,ntmps79;go_wp2;go_loopw [4,5] (fun n i wr=>∃k:Nat,k<=s.size∧i=.int .i64 k∧(s.data.toList.take k).all (Ch.yc 16)=true∧n=.int .i64 (Ch.numOf 16 (s.data.toList.take k))∧aj w wr) (fun _ i _=>s.size-(intOf i).toNat)
     case atStart=>exact⟨0,aA _,rfl,rfl,rfl,fJ _ _⟩
     case round =>
      obtain⟨k,hk,rfl,hall,rfl,hbl⟩:=hrel;have HN:Hid ((s.data.toList.take k).all (Ch.yc 16)=true):=hall;have hbd:=Ch.mH 16 (by omega) (by omega) _ hall (by have:(s.data.toList.take k).length<=k:=dM _ _;omega);clear hall;generalize hn:Ch.numOf 16 (s.data.toList.take k)=n at hbd;have Hn:Hid (Ch.numOf 16 (s.data.toList.take k)=n):=hn;clear hn;by_cases hlt:k<s.size
      . have hb:=s[k].toNat_lt;have hx:=Ch.rE s[k];cases hd:decide (0<=Ch.hex s[k].toNat)
        . have hx2:Ch.hex s[k].toNat<0:=by have:=of_decide_eq_false hd;omega
          have HE:Hid (Ch.yc 16 s[k]=false):=by unfold Hid;rw[Ch.Gy,hd]
          clear hd;go_wp2_with fail
          refine(xL s[k] _).mono ?_;rintro e w1 ⟨rfl,hb1⟩;go_wp2;go_ret2;exact⟨nL (Ch.tQ _ _ _ (Ch.mG _ s k hlt HE.o)),hbl.trans (hb1.mono hbl.size)⟩
        . have hx2:0<=Ch.hex s[k].toNat:=dn hd;have HE:Hid (Ch.yc 16 s[k]=true):=by unfold Hid;rw[Ch.Gy,hd]
          clear hd;go_wp2_with fail
          refine(xL s[k] _).mono ?_;rintro e w1 ⟨rfl,hb1⟩;go_wp2_with fail
          refine(xL s[k] _).mono ?_;rintro e w2 ⟨rfl,hb2⟩;have ai3:aj w w2:=(hbl.trans (hb1.mono hbl.size)).trans (hb2.mono (dG hbl.size hb1.size));go_wp2;go_roundw
          case rel=>exact⟨k+1,by omega,by go_num,by rw[Ch.jr s k hlt,Ch.rF,HN.o,HE.o];rfl,by rw[Ch.jr s k hlt,Ch.yK,Hn.o,Int.mul_comm],ai3⟩
          case measure=>simp[intOf];omega
      . go_wp2;go_ret2;exact⟨nL (by rw[<-Hn.o,Ch.kY s k (by omega)];exact Ch.rG _ _ _ (Ch.ne_nil s (by omega)) (Int.not_lt.2 HL.o) (by rw[<-HN.o,Ch.kY s k (by omega)])),hbl⟩
end Go.Proofs.YtjmndjmhjleabaaGreatDoor