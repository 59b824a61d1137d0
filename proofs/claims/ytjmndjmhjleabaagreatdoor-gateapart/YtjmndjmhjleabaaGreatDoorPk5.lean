/- Small texts, one behind the other: CsVis, StIndexB, StCut, CsDigit, CsHex, CsNumber, CsNum16, CsCap, CsLetter, CsToken, CsAllT, CsIsTok, CsAllV, CsIsVis, RfSmall, RfHexOf, RfOne, RfNumOf, CsLower, CsNum10, RfNum, ParL, RfTokB, RfScan, RfSeen, RfSeenT, RpW, RfTokT, RfTrim, RfFText, RfHexNo. -/
import Derived.Test.YtjmndjmhjleabaaGreatDoorBase
import Derived.Test.YtjmndjmhjleabaaGreatDoorPk4
import Derived.Test.YtjmndjmhjleabaaGreatDoorProg
open Go.Value renaming int->I,string->V
open Go.IntKind renaming i64->J
open Go.Obj renaming cells->K
open Go.Ending renaming returned->Y
open Option renaming some->M
open Bool renaming false->F
open Go renaming World->X
set_option maxHeartbeats 2000000
set_option maxRecDepth 100000
open Go.Proofs.Tryz
namespace Go.Proofs.YtjmndjmhjleabaaGreatDoor
open Go.RowKit
theorem sK (c:Int)(w:X):
 Calls prog 184 #[I .u8 c] w fun e w'=>e=Y (.bool (Ch.visible c))∧w'=w:=by
 by_cases b:c=9
 . subst b;go_enter func184,ntmps184;go_wp2;go_ret;exact⟨iA (by decide),rfl⟩
 . have a:(c==9)=F:=aR.2 b;go_enter func184,ntmps184;go_wp2;all_goals go_ret
   all_goals refine⟨iA ?_,rfl⟩
   all_goals (unfold Ch.visible;rw[a];first | (rw[aH (show 32<=c by omega)];simp) | (rw[aI (show ¬32<=c by omega)];simp))
theorem zH (s:av)(c:Int)(w:X):
 Calls prog 282 #[V s,I .u8 c] w fun e w'=>e=Y (I J (Lib.indexByte s.data.toList c.toNat.toUInt8))∧w'=w:=by
 go_enter func282,ntmps282;go_wp2;rw[run_callFunc_extern func300 (by kernel_rfl) (by kernel_rfl) (by kernel_rfl) (e:=Extern.BytealgIndexByte.indexByte) (by kernel_rfl),Lib.run_indexByteString];simp only[Result.andThen];rw[Oper.upon_value];go_wp2;go_ret;exact⟨rfl,rfl⟩
theorem yj (s:av)(c:Int)(w:X):
 Calls prog 254 #[V s,I .u8 c] w fun e w'=>e=Y (I J (Lib.indexByte s.data.toList c.toNat.toUInt8))∧w'=w:=by
 go_enter func254,ntmps254;go_wp2_with (go_at_call 282;refine(zH _ _ _).mono ?_;rintro e w' ⟨rfl,rfl⟩)
 go_ret;exact⟨rfl,rfl⟩
theorem index_one (s:av)(c:UInt8)(w:X):
 Calls prog 252 #[V s,V ⟨#[c]⟩] w fun e w'=>e=Y (I J (Lib.indexByte s.data.toList c))∧w'=w:=by
 go_enter func252,ntmps252;go_wp2_with (go_at_call 282;refine(zH _ _ _).mono ?_;rintro e w' ⟨rfl,rfl⟩)
 . have h:([c]==s.toList)=true:=by assumption
   go_ret;refine⟨?_,rfl⟩;have e:s.data.toList=[c]:=by rw[<-Lib.toList_data];exact(aS.1 h).symm
   rw[e];simp[Lib.indexByte]
 . go_ret;exact⟨rfl,rfl⟩
def Fd.cutV (c:UInt8)(s:av):Value :=
 if Fd.at_ c s.data.toList=s.size then .tuple #[V s,V ⟨#[]⟩,.bool F]
 else .tuple #[V (s.extract 0 (Fd.at_ c s.data.toList)),V (s.extract (Fd.at_ c s.data.toList+1) s.size),.bool true]
theorem RS (s:av)(c:UInt8)(w:X)(j:s.size<=maxLen):
 Calls prog 220 #[V s,V ⟨#[c]⟩] w fun e w'=>e=Y (Fd.cutV c s)∧∃n,w'=w.drewN n:=by
 have a:=H9 (index_one s c w);have f:s.data.toList.length=s.size:=by rw[aN];rfl
 unfold maxLen at j;rcases Fd.VB s.data.toList c with ⟨b,d⟩ | ⟨b,d⟩
 . rw[b] at a;have g:Hid (Fd.cutV c s=.tuple #[V s,V ⟨#[]⟩,.bool F]):=by unfold Hid Fd.cutV;rw[if_pos (by rw[d,f])]
   clear b d f;go_enter func220,ntmps220;go_wp2_with fail
   refine a.o.mono ?_;rintro e l ⟨rfl,i⟩;subst i;go_wp2;go_ret3
   exact⟨by rw[g.o];rfl,0,rfl⟩
 . rw[b] at a;rw[f] at d;have g:Hid (Fd.cutV c s=.tuple #[V (s.extract 0 (Fd.at_ c s.data.toList)),V (s.extract (Fd.at_ c s.data.toList+1) s.size),.bool true]):=by unfold Hid Fd.cutV;rw[if_neg (by omega)]
   clear b f;generalize Fd.at_ c s.data.toList=k at a g d;have m:(0:Int)<=k:=by omega
   have p:(k:Int)<=s.size:=by omega
   have q:(k:Int)+1<=s.size:=by omega
   have r:IntKind.i64.wrap ((k:Int)+1)=(k:Int)+1:=lY (by omega) (by omega);have t:(0:Int)<=(k:Int)+1:=by omega
   have u:((k:Int)+1).toNat=k+1:=by omega
   go_enter func220,ntmps220;go_wp2_with fail
   refine a.o.mono ?_;rintro e l ⟨rfl,i⟩;subst i;go_wp2;go_quiet (fail)
   go_wp2;go_ret3
   exact⟨by rw[g.o];rfl,nq,rfl⟩
theorem xE (s:av)(c:UInt8)(w:X)(d:s.size<=maxLen):
 Calls prog 185 #[V s,V ⟨#[c]⟩] w fun e w'=>e=Y (Fd.cutV c s)∧∃n,w'=w.drewN n:=by
 have a:=H9 (RS s c w d);unfold Fd.cutV at a ⊢;split at a
 . rename_i h;rw[if_pos h];go_enter func185,ntmps185;go_wp2_with fail
   refine a.o.mono ?_;rintro e f ⟨rfl,n,b⟩;subst b;go_wp2;go_ret3
   exact⟨rfl,n,rfl⟩
 . rename_i h;rw[if_neg h];go_enter func185,ntmps185;go_wp2_with fail
   refine a.o.mono ?_;rintro e f ⟨rfl,n,b⟩;subst b;go_wp2;go_ret3
   exact⟨rfl,n,rfl⟩
theorem xG (c:Int)(w:X):
 Calls prog 244 #[I .u8 c] w fun e w'=>e=Y (.bool (Ch.digit c))∧w'=w:=by
 go_enter func244,ntmps244;go_wp2;all_goals go_ret
 all_goals refine⟨iA ?_,rfl⟩
 all_goals (simp[Ch.digit];try omega)
theorem Qq (c:Int)(w:X)(f:0<=c)(g:c<=255):
 Calls prog 208 #[I .u8 c] w fun e w'=>e=Y (I J (Ch.hex c))∧w'=w:=by
 have b:Hid (Ch.hex c=if Ch.digit c then c-48 else if decide (97<=c)&&decide (c<=102) then c-87 else if decide (65<=c)&&decide (c<=70) then c-55 else -1):=rfl;cases a:Ch.digit c
 . go_enter func208,ntmps208;go_wp2_with (go_at_call 244;refine(xG _ _).mono ?_;rintro e w' ⟨rfl,rfl⟩)
   all_goals go_ret
   all_goals refine⟨uM ?_,rfl⟩
   all_goals (rw[b.o,a];simp only[dH,if_false,cZ,bQ];repeat' split) <;> omega
 . have d:48<=c∧c<=57:=by simpa[Ch.digit] using a
   go_enter func208,ntmps208;go_wp2_with (go_at_call 244;refine(xG _ _).mono ?_;rintro e w' ⟨rfl,rfl⟩)
   go_ret;refine⟨uM ?_,rfl⟩;rw[b.o,a,if_pos rfl]
theorem D7 (s:av)(a b:Int)(w:X)(v:s.size<=maxLen)(x:2<=a)(j:a<=16)(y:0<=b)(z:b<=9):
 Calls prog 166 #[V s,I J a,I J b] w fun e w'=>e=Y (.tuple #[I J (Ch.number a b s.data.toList).1,.bool (Ch.number a b s.data.toList).2])∧w'=w:=by
 unfold maxLen at v;by_cases B:s.size=0
 . obtain rfl:=Ch.empty_eq s B;go_enter func166,ntmps166;go_wp2;go_ret2;exact⟨nK (Ch.lG _ _ _ (Or.inl rfl)),rfl⟩
 . have C:=Ch.lU s (by omega);by_cases c:b<s.size
   . have l:Hid (b<s.data.toList.length):=by unfold Hid;rw[Ch.iC];exact c
     go_enter func166,ntmps166;go_wp2;go_ret2;exact⟨nK (Ch.lG _ _ _ (Or.inr l.o)),rfl⟩
   . have H:decide (b<(s.size:Int))=F:=aI c;have l:Hid (¬b<s.data.toList.length):=by unfold Hid;rw[Ch.iC];exact c
     go_enter func166,ntmps166;go_wp2;go_loop [8,21] (fun n i=>∃k:Nat,k<=s.size∧i=I J k∧(s.data.toList.take k).all (Ch.xZ a)=true∧n=I J (Ch.numOf a (s.data.toList.take k))) (fun _ i=>s.size-(intOf i).toNat)
     case atStart=>exact⟨0,ay _,rfl,rfl,rfl⟩
     case round =>
      obtain⟨k,L,rfl,d,rfl⟩:=hrel;have r:Hid ((s.data.toList.take k).all (Ch.xZ a)=true):=d;have f:=Ch.mG a (by omega) j _ d (by have:(s.data.toList.take k).length<=k:=dL _ _;omega);clear d;generalize t:Ch.numOf a (s.data.toList.take k)=n at f;have u:Hid (Ch.numOf a (s.data.toList.take k)=n):=t;clear t;have N:0<=n*a:=Int.mul_nonneg f.1 (by omega);have O:n*a<=n*16:=Int.mul_le_mul_of_nonneg_left j f.1;by_cases g:k<s.size
      . have P:=s[k].toNat_lt;have S:=Ch.rD s[k];by_cases m:0<=Ch.hex s[k].toNat∧Ch.hex s[k].toNat<a
        . have p:Hid (Ch.xZ a s[k]=true):=by unfold Hid Ch.xZ;rw[aH m.1,aH m.2];rfl
          have D:decide (Ch.hex s[k].toNat<0)=F:=aI (by omega);have G:decide (a<=Ch.hex s[k].toNat)=F:=aI (by omega);go_wp2_with (go_at_call 208;refine(Qq _ _ (by omega) (by omega)).mono ?_;rintro e w' ⟨rfl,rfl⟩)
          go_round
          case rel=>exact⟨k+1,by omega,by go_num,by rw[Ch.jq s k g,Ch.rE,r.o,p.o];rfl,by rw[Ch.jq s k g,Ch.yJ,u.o]⟩
          case measure=>simp[intOf];omega
        . have p:Hid (Ch.xZ a s[k]=F):=by
           unfold Hid Ch.xZ;by_cases q:0<=Ch.hex s[k].toNat
           . rw[aI (show ¬Ch.hex s[k].toNat<a from fun h=>m ⟨q,h⟩)];simp
           . rw[aI q];rfl
          by_cases q:0<=Ch.hex s[k].toNat;all_goals
           go_wp2_with (go_at_call 208;refine(Qq _ _ (by omega) (by omega)).mono ?_;rintro e w' ⟨rfl,rfl⟩)
           all_goals first | omega | (go_ret2;exact⟨nK (Ch.tN _ _ _ (Ch.mF _ s k g p.o)),rfl⟩)
      . go_wp2;go_ret2;exact⟨nK (by rw[<-u.o,Ch.kX s k (by omega)];exact Ch.rF _ _ _ (Ch.ne_nil s (by omega)) (Int.not_lt.2 l.o) (by rw[<-r.o,Ch.kX s k (by omega)])),rfl⟩
theorem zI (s:av)(w:X)(a:s.size<=maxLen):
 Calls prog 311 #[V s] w fun e w'=>e=Y (.tuple #[I J (Ch.number 16 6 s.data.toList).1,.bool (Ch.number 16 6 s.data.toList).2])∧w'=w:=by
 have h:=D7 s 16 6 w a (by decide) (by decide) (by decide) (by decide);generalize Ch.number 16 6 s.data.toList=p at h;go_enter func311,ntmps311;go_wp2_with (go_at_call 166;refine h.mono ?_;rintro e w' ⟨rfl,rfl⟩)
 go_ret2;exact⟨rfl,rfl⟩
theorem vZ (c:Int)(w:X):
 Calls prog 237 #[I .u8 c] w fun e w'=>e=Y (.bool (Ch.capital c))∧w'=w:=by
 go_enter func237,ntmps237;go_wp2;all_goals go_ret
 all_goals refine⟨iA ?_,rfl⟩
 all_goals (simp[Ch.capital];try omega)
theorem D9 (c:Int)(w:X):
 Calls prog 253 #[I .u8 c] w fun e w'=>e=Y (.bool (Ch.letter c))∧w'=w:=by
 go_enter func253,ntmps253;go_wp2_with (go_at_call 237;refine(vZ _ _).mono ?_;rintro e w' ⟨rfl,rfl⟩)
 all_goals go_ret
 all_goals refine⟨iA ?_,rfl⟩
 all_goals (unfold Ch.letter;first | (rw[aH (show 97<=c by omega)];simp;try omega) | (rw[aI (show ¬97<=c by omega)];simp;try omega))
theorem xH (c:Int)(w:X):
 Calls prog 225 #[I .u8 c] w fun e w'=>e=Y (.bool (Ch.token c))∧w'=w:=by
 have a:=yj ⟨#[33,35,36,37,38,39,42,43,45,46,94,95,96,124,126]⟩ c w;have b:Hid (Lib.indexByte [33,35,36,37,38,39,42,43,45,46,94,95,96,124,126] c.toNat.toUInt8=Lib.indexByte Ch.marks c.toNat.toUInt8):=rfl;generalize (Lib.indexByte [33,35,36,37,38,39,42,43,45,46,94,95,96,124,126] c.toNat.toUInt8)=r at a b;cases f:Ch.digit c
 . cases g:Ch.letter c;all_goals
    have d:Hid (Ch.token c=(Ch.digit c||Ch.letter c||decide (0<=r))):=by rw[b.o];rfl
    go_enter func225,ntmps225;go_wp2_with (first | (go_at_call 244;refine(xG _ _).mono ?_;rintro e w' ⟨rfl,rfl⟩) | (go_at_call 253;refine(D9 _ _).mono ?_;rintro e w' ⟨rfl,rfl⟩) | (go_at_call 254;refine a.mono ?_;rintro e w' ⟨rfl,rfl⟩))
    go_ret;refine⟨iA ?_,rfl⟩;rw[d.o,f,g];simp
 . have d:Hid (Ch.token c=(Ch.digit c||Ch.letter c||decide (0<=r))):=by rw[b.o];rfl
   go_enter func225,ntmps225;go_wp2_with (first | (go_at_call 244;refine(xG _ _).mono ?_;rintro e w' ⟨rfl,rfl⟩) | (go_at_call 253;refine(D9 _ _).mono ?_;rintro e w' ⟨rfl,rfl⟩) | (go_at_call 254;refine a.mono ?_;rintro e w' ⟨rfl,rfl⟩))
   go_ret;refine⟨iA ?_,rfl⟩;rw[d.o,f];simp
theorem RU (s:av)(w:X)(j:s.size<=maxLen):
 Calls prog 224 #[V s,.func (.func 225) #[] #[]] w fun e w'=>e=Y (.bool (Ch.Df s.data.toList))∧w'=w:=by
 unfold maxLen at j;go_enter func224,ntmps224;go_wp2;go_loop [8] (fun i=>∃k:Nat,k<=s.size∧i=I J k∧((s.data.toList.take k).all fun b=>Ch.token b.toNat)=true) (fun i=>s.size-(intOf i).toNat)
 case atStart=>exact⟨0,ay _,rfl,rfl⟩
 case round =>
  obtain⟨k,l,rfl,a⟩:=hrel;have f:Hid (((s.data.toList.take k).all fun b=>Ch.token b.toNat)=true):=a;clear a;by_cases c:k<s.size
  . cases g:Ch.token (s[k].toNat:Int)
    . have d:Hid (Ch.token (s[k].toNat:Int)=F):=g;go_wp2_with (go_at_call 225;refine(xH _ _).mono ?_;rintro e w' ⟨rfl,rfl⟩)
      go_ret;refine⟨iA ?_,rfl⟩;exact(Ch.mF (fun b=>Ch.token b.toNat) s k c d.o).symm
    . have d:Hid (Ch.token (s[k].toNat:Int)=true):=g;go_wp2_with (go_at_call 225;refine(xH _ _).mono ?_;rintro e w' ⟨rfl,rfl⟩)
      go_round
      case rel=>exact⟨k+1,by omega,by go_num,by rw[Ch.jq s k c,Ch.rE,f.o,d.o];rfl⟩
      case measure=>simp[intOf];omega
  . go_wp2;go_ret;refine⟨iA ?_,rfl⟩;rw[<-f.o,Ch.kX s k (by omega)];rfl
theorem wm (s:av)(w:X)(b:s.size<=maxLen):
 Calls prog 187 #[V s] w fun e w'=>e=Y (.bool (Ch.isToken s.data.toList))∧w'=w:=by
 by_cases c:s.size=0
 . obtain rfl:=Ch.empty_eq s c;go_enter func187,ntmps187;go_wp2;go_ret;exact⟨rfl,rfl⟩
 . have a:=Ch.lU s (by omega);have d:Hid (Ch.Df s.data.toList=Ch.isToken s.data.toList):=by
    unfold Hid Ch.isToken Ch.Df;rw[<-Lib.toList_data,a];simp
   go_enter func187,ntmps187;go_wp2_with (go_at_call 224;refine(RU _ _ b).mono ?_;rintro e w' ⟨rfl,rfl⟩)
   go_ret;exact⟨iA d.o,rfl⟩
theorem KX (s:av)(w:X)(j:s.size<=maxLen):
 Calls prog 224 #[V s,.func (.func 184) #[] #[]] w fun e w'=>e=Y (.bool (Ch.iw s.data.toList))∧w'=w:=by
 unfold maxLen at j;go_enter func224,ntmps224;go_wp2;go_loop [8] (fun i=>∃k:Nat,k<=s.size∧i=I J k∧((s.data.toList.take k).all fun b=>Ch.visible b.toNat)=true) (fun i=>s.size-(intOf i).toNat)
 case atStart=>exact⟨0,ay _,rfl,rfl⟩
 case round =>
  obtain⟨k,l,rfl,a⟩:=hrel;have f:Hid (((s.data.toList.take k).all fun b=>Ch.visible b.toNat)=true):=a;clear a;by_cases c:k<s.size
  . cases g:Ch.visible (s[k].toNat:Int)
    . have d:Hid (Ch.visible (s[k].toNat:Int)=F):=g;go_wp2_with (go_at_call 184;refine(sK _ _).mono ?_;rintro e w' ⟨rfl,rfl⟩)
      go_ret;refine⟨iA ?_,rfl⟩;exact(Ch.mF (fun b=>Ch.visible b.toNat) s k c d.o).symm
    . have d:Hid (Ch.visible (s[k].toNat:Int)=true):=g;go_wp2_with (go_at_call 184;refine(sK _ _).mono ?_;rintro e w' ⟨rfl,rfl⟩)
      go_round
      case rel=>exact⟨k+1,by omega,by go_num,by rw[Ch.jq s k c,Ch.rE,f.o,d.o];rfl⟩
      case measure=>simp[intOf];omega
  . go_wp2;go_ret;refine⟨iA ?_,rfl⟩;rw[<-f.o,Ch.kX s k (by omega)];rfl
theorem kT (s:av)(w:X)(a:s.size<=maxLen):
 Calls prog 192 #[V s] w fun e w'=>e=Y (.bool (Ch.iw s.data.toList))∧w'=w:=by
 go_enter func192,ntmps192;go_wp2_with (go_at_call 224;refine(KX _ _ a).mono ?_;rintro e w' ⟨rfl,rfl⟩)
 go_ret;exact⟨rfl,rfl⟩
theorem xJ (s:av)(w:X)(r:s.size<=2000):
 Calls prog 78 #[V s] w fun e w'=>e=Y (V ⟨(Ch.lower s.data.toList).toArray⟩)∧∃n,w'=w.drewN n:=by
 go_enter func78,ntmps78;go_wp2;go_loopw [3,4] (fun o i wr=>∃k n:Nat,∃x:av,k<=s.size∧i=I J k∧o=V x∧x.data.toList=Ch.lower (s.data.toList.take k)∧wr=w.drewN n) (fun _ i _=>s.size-(intOf i).toNat)
 case atStart=>exact⟨0,0,⟨#[]⟩,ay _,rfl,rfl,rfl,rfl⟩
 case round =>
  obtain⟨k,n,x,t,rfl,rfl,d,rfl⟩:=hrel;have p:x.size<=2000:=by
   have:=Ch.size_of_list d;rw[Ch.mY] at this;have u:(s.data.toList.take k).length<=k:=dL _ _;omega
  have l:Hid (x.data.toList=Ch.lower (s.data.toList.take k)):=d;clear d;by_cases b:k<s.size
  . go_wp2;go_loopw [5,6] (fun c i wr=>∃j n:Nat,∃y:av,j<=26∧i=I J j∧c=V y∧y.data.toList=[Ch.vC s[k] j]∧wr=w.drewN n) (fun _ i _=>26-(intOf i).toNat)
    case atStart=>exact⟨0,n,_,ay _,rfl,rfl,by rw[Ch.vQ s k b,Ch.Nc],rfl⟩
    case round =>
     obtain⟨j,n,y,v,rfl,rfl,f,rfl⟩:=hrel;have q:y.size<=1:=by have:=Ch.size_of_list f;simp at this;omega
     have m:Hid (y.data.toList=[Ch.vC s[k] j]):=f;clear f;by_cases a:j<26
     . go_wp2;go_quiet (fail)
       go_wp2
       . have g:(((((⟨#[65,66,67,68,69,70,71,72,73,74,75,76,77,78,79,80,81,82,83,84,85,86,87,88,89,90]⟩:av)[j]'a).toNat:Nat):Int)==(s[k].toNat:Int))=true:=by assumption
         go_roundw
         case rel=>exact⟨j+1,n+nq,_,by omega,by go_num,rfl,Ch.Rb _ _ a g,by simp[World.drewN]⟩
         case measure=>simp[intOf];omega
       . have g:(((((⟨#[65,66,67,68,69,70,71,72,73,74,75,76,77,78,79,80,81,82,83,84,85,86,87,88,89,90]⟩:av)[j]'a).toNat:Nat):Int)==(s[k].toNat:Int))=F:=by assumption
         go_roundw
         case rel=>exact⟨j+1,n+nq,y,by omega,by go_num,rfl,by rw[m.o,Ch.Nb _ _ a g],by simp[World.drewN]⟩
         case measure=>simp[intOf];omega
     . obtain rfl:j=26:=by omega
       go_wp2;go_roundw
       case rel=>exact⟨k+1,n,x++y,by omega,by go_num,rfl,by rw[Ch.data_append,l.o,m.o,Ch.jq s k b,Ch.Nf];rfl,rfl⟩
       case measure=>simp[intOf];omega
  . go_wp2;go_ret;exact⟨qD (Ch.str_eq (by rw[l.o,Ch.kX s k (by omega)])),n,rfl⟩
theorem xK (b:UInt8)(w:X):
 Calls prog 96 #[I .u8 b.toNat] w fun e w'=>e=Y (I J (Ch.hex b.toNat))∧Below w.heap.size w w':=by
 have v:=b.toNat_lt;have t:(convert 31 9 (.slice (M ⟨w.heap.size,0,none⟩) 1 1)).run prog (w.alloc (K #[I .u8 b.toNat] 5))=.ok (V ⟨#[b]⟩) (w.alloc (K #[I .u8 b.toNat] 5)) :=
  run_convert_bytes_back (P:=prog) (w.alloc (K #[I .u8 b.toNat] 5)) 31 9 5 ⟨w.heap.size,0,none⟩ 1 [b] underlying31 underlying5 underlying9 (fun j q=>by
   obtain rfl:j=0:=by simp at q;exact q
   rw[show((⟨w.heap.size,0,none⟩:Addr).add 0)=⟨w.heap.size,0,none⟩ from rfl,World.cell?_alloc_at _ _ _ _ rfl];rfl)
 have a:=xJ ⟨#[b]⟩ (w.alloc (K #[I .u8 b.toNat] 5)) (by show 1<=2000;omega);rw[show(⟨(Ch.lower (⟨#[b]⟩:av).data.toList).toArray⟩:av)=⟨#[Ch.qB b]⟩ from rfl] at a;have c:Below w.heap.size w (w.alloc (K #[I .u8 b.toNat] 5)):=(fI _ _).alloc (aL _) _;go_enter func96,ntmps96;go_wp2_with fail
 refine a.mono ?_;rintro e u ⟨rfl,x,f⟩;have g:Below w.heap.size w u:=by rw[f];exact⟨c.os,c.tape,c.output,c.size,c.block⟩
 clear f c a t;go_wp2;go_loop [5] (fun i=>∃j:Nat,j<=16∧i=I J j∧∀m,m<j->Ch.qB b≠Ch.Cx.getD m 0) (fun i=>16-(intOf i).toNat)
 case atStart=>exact⟨0,ay _,rfl,fun m r=>absurd r (bY _)⟩
 case round =>
  obtain⟨j,q,rfl,k⟩:=hrel;have s:Hid (∀m,m<j->Ch.qB b≠Ch.Cx.getD m 0):=k;clear k;by_cases l:j<16
  . have n:=Ch.U3 b j l;by_cases d:Ch.qB b=Ch.Cx.getD j 0
    . rw[aH d] at n;have p:Hid (Ch.hex b.toNat=j):=Ch.U2 b j l d;clear d;go_wp2;go_ret;exact⟨uM p.o.symm,g⟩
    . rw[aI d] at n;have p:Hid (Ch.qB b≠Ch.Cx.getD j 0):=d;clear d;go_wp2;go_round
      case rel=>exact⟨j+1,by omega,by go_num,fun m r=>by
       rcases aT m j with h | h
       . exact s.o m h
       . obtain rfl:m=j:=by omega
         exact p.o⟩
      case measure=>simp[intOf];omega
  . have p:Hid (Ch.hex b.toNat=-1):=Ch.Rc b (fun m r=>s.o m (by omega));go_wp2;go_ret;exact⟨uM p.o.symm,g⟩
theorem Qz (c:Int)(s:av)(w:X)(l:s.size<=maxLen):
 Calls prog 95 #[I .u8 c,V s] w fun e w'=>e=Y (.bool (Ch.oneOf c s.data.toList))∧w'=w:=by
 unfold maxLen at l;go_enter func95,ntmps95;go_wp2;go_loop [5] (fun i=>∃k:Nat,k<=s.size∧i=I J k∧Ch.oneOf c (s.data.toList.take k)=F) (fun i=>s.size-(intOf i).toNat)
 case atStart=>exact⟨0,ay _,rfl,rfl⟩
 case round =>
  obtain⟨k,p,rfl,a⟩:=hrel;have g:Hid (Ch.oneOf c (s.data.toList.take k)=F):=a;clear a;by_cases d:k<s.size
  . by_cases f:((s[k].toNat:Int))=c
    . have m:Hid ((s[k].toNat:Int)=c):=f;have j:(((s[k].toNat:Int))==c)=true:=aS.2 f;clear f;go_wp2;go_ret;refine⟨iA ?_,rfl⟩;exact(Ch.Ka (fun b=>(b.toNat:Int)==c) s k d (aS.2 m.o)).symm
    . have j:(((s[k].toNat:Int))==c)=F:=aR.2 f;have n:Hid ((((s[k].toNat:Int))==c)=F):=j;clear f;go_wp2;go_round
      case rel=>exact⟨k+1,by omega,by go_num,by rw[Ch.jq s k d,Ch.Na,g.o,n.o];rfl⟩
      case measure=>simp[intOf];omega
  . go_wp2;go_ret;refine⟨iA ?_,rfl⟩;rw[<-g.o,Ch.kX s k (by omega)]
theorem Jq (s:av)(w:X)(z:s.size<=maxLen):
 Calls prog 59 #[V s] w fun e w'=>e=Y (.tuple #[I J (Ch.number 10 9 s.data.toList).1,.bool (Ch.number 10 9 s.data.toList).2])∧Below w.heap.size w w':=by
 unfold maxLen at z;by_cases B:s.size=0
 . obtain rfl:=Ch.empty_eq s B;go_enter func59,ntmps59;go_wp2;go_ret2;exact⟨nK (Ch.lG _ _ _ (Or.inl rfl)),fI _ _⟩
 . have r:decide ((s.size:Int)<1)=F:=aI (by omega);by_cases a:(9:Int)<s.size
   . have l:Hid ((9:Int)<s.data.toList.length):=by unfold Hid;rw[Ch.iC];exact a
     go_enter func59,ntmps59;go_wp2;go_ret2;exact⟨nK (Ch.lG _ _ _ (Or.inr l.o)),fI _ _⟩
   . have G:decide ((9:Int)<(s.size:Int))=F:=aI a;have l:Hid ((s.data.toList.length:Int)<=9):=by unfold Hid;rw[Ch.iC];omega
     go_enter func59,ntmps59;go_wp2;go_loopw [4,5] (fun n i wr=>∃k:Nat,k<=s.size∧i=I J k∧(s.data.toList.take k).all (Ch.xZ 10)=true∧n=I J (Ch.numOf 10 (s.data.toList.take k))∧Below w.heap.size w wr) (fun _ i _=>s.size-(intOf i).toNat)
     case atStart=>exact⟨0,ay _,rfl,rfl,rfl,fI _ _⟩
     case round =>
      obtain⟨k,H,rfl,b,rfl,d⟩:=hrel;have t:Hid ((s.data.toList.take k).all (Ch.xZ 10)=true):=b;have m:=Ch.mG 10 (by omega) (by omega) _ b (by have:(s.data.toList.take k).length<=k:=dL _ _;omega);clear b;generalize u:Ch.numOf 10 (s.data.toList.take k)=n at m;have v:Hid (Ch.numOf 10 (s.data.toList.take k)=n):=u;clear u;by_cases f:k<s.size
      . have L:=s[k].toNat_lt;have N:=Ch.rD s[k];have c:=fun j=>Qz (s[k].toNat:Int) ⟨#[48,49,50,51,52,53,54,55,56,57]⟩ j (by decide);have x:Ch.oneOf (s[k].toNat:Int) (⟨#[48,49,50,51,52,53,54,55,56,57]⟩:av).data.toList=Ch.xZ 10 s[k]:=(Ch.Ng _).trans (Ch.adX _).symm;rw[x] at c;clear x;have y:Hid (∀j,Calls prog 95 #[I .u8 (s[k].toNat:Int),V ⟨#[48,49,50,51,52,53,54,55,56,57]⟩] j fun e w'=>e=Y (.bool (Ch.xZ 10 s[k]))∧w'=j):=c;clear c;cases g:Ch.xZ 10 s[k]
        . have p:Hid (Ch.xZ 10 s[k]=F):=g;go_wp2_with fail
          refine(y.o _).mono ?_;rintro e C ⟨rfl,rfl⟩;go_wp2;go_ret2;exact⟨nK (Ch.tN _ _ _ (Ch.mF _ s k f p.o)),d⟩
        . have p:Hid (Ch.xZ 10 s[k]=true):=g;have D:0<=Ch.hex s[k].toNat:=by
           unfold Ch.xZ at g;rw[cZ] at g;exact dh g.1
          go_wp2_with fail
          refine(y.o _).mono ?_;rintro e C ⟨rfl,rfl⟩;go_wp2_with fail
          refine(xK s[k] _).mono ?_;rintro e O ⟨rfl,q⟩;go_wp2;go_roundw
          case rel=>exact⟨k+1,by omega,by go_num,by rw[Ch.jq s k f,Ch.rE,t.o,p.o];rfl,by rw[Ch.jq s k f,Ch.yJ,v.o,Int.mul_comm],d.trans (q.mono d.size)⟩
          case measure=>simp[intOf];omega
      . go_wp2;go_ret2;exact⟨nK (by rw[<-v.o,Ch.kX s k (by omega)];exact Ch.rF _ _ _ (Ch.ne_nil s (by omega)) (Int.not_lt.2 l.o) (by rw[<-t.o,Ch.kX s k (by omega)])),d⟩
def lZ (s:av)(k j:Nat):Value:=I .u8 ((if j<k then Ch.qB (s.data.toList.getD j 0) else s.data.toList.getD j 0).toNat:Int)
theorem Jr (s:av)(k j:Nat)(h:Ch.qB (s.data.toList.getD k 0)=s.data.toList.getD k 0):M (lZ s k j)=M (lZ s (k+1) j):=by
 unfold lZ;by_cases a:j<k
 . rw[if_pos a,if_pos (by omega)]
 . by_cases b:j=k
   . subst b;rw[if_neg a,if_pos (by omega),h]
   . rw[if_neg a,if_neg (by omega)]
theorem FY (s:av)(k j:Nat)(h:j≠k):M (lZ s k j)=M (lZ s (k+1) j):=by
 unfold lZ;by_cases a:j<k
 . rw[if_pos a,if_pos (by omega)]
 . rw[if_neg a,if_neg (by omega)]
theorem oM (s:av)(w:World)(hs:s.size<=maxLen):
 Calls prog 203 #[.string s] w fun e w'=>e=.returned (.string ⟨(Ch.lower s.data.toList).toArray⟩)∧Below w.heap.size w w':=by
 unfold maxLen at hs;have qw:=run_bytes_of_string (P:=prog) w 9 31 5 s underlying9 underlying31 underlying5;generalize grownCap w s.size 0 5=cap at qw;have hat:∀j,j<s.size->(bytesRow s cap)[j]? = some (lZ s 0 j):=fun j hj=>by
  rw[bytesRow_at s cap j hj];unfold lZ;rw[if_neg (by omega)];have e:s.data.toList.getD j 0=s.data[j]'hj:=by
   simp[List.getD,hj]
  rw[e]
 have hsz:s.size<=(bytesRow s cap).size:=by unfold bytesRow;simp
 generalize bytesRow s cap=C at qw hat hsz;go_enter func203,ntmps203;go_wp2;have hB0:Below w.heap.size w (w.alloc (.cells C 5 (C.size,C.size+1))).drew:=((fI _ _).alloc (aL _) _).drew;have hc0:∀j,j<s.size->((w.alloc (.cells C 5 (C.size,C.size+1))).drew).cell? ⟨w.heap.size,j,none⟩=some (lZ s 0 j):=fun j hj=>by
  rw[<-hat j hj];exact World.cell?_alloc_mark w C 5 _ j
 have hf0:∀j,j<s.size->((w.alloc (.cells C 5 (C.size,C.size+1))).drew).frozen? ⟨w.heap.size,j,none⟩=false:=fun j hj=>by
  refine(World.frozen?_alloc_mark w C 5 C.size (C.size+1) j).trans ?_;rw[aI (by omega)];rfl
 clear qw hat;go_loopw [10] (fun i wr=>∃k:Nat,k<=s.size∧i=.int .i64 k∧Below w.heap.size w wr∧(∀j,j<s.size->wr.cell? ⟨w.heap.size,j,none⟩=some (lZ s k j))∧(∀j,j<s.size->wr.frozen? ⟨w.heap.size,j,none⟩=false)) (fun i _=>s.size-(intOf i).toNat)
 case atStart=>exact⟨0,ay _,rfl,hB0,hc0,hf0⟩
 case round =>
  obtain⟨k,hk,rfl,hbl,hcs,hfs⟩:=hrel;clear hB0 hc0 hf0 hsz;have HC:Hid (∀j,j<s.size->wr.cell? ⟨w.heap.size,j,none⟩=some (lZ s k j)):=hcs;have HF:Hid (∀j,j<s.size->wr.frozen? ⟨w.heap.size,j,none⟩=false):=hfs;clear hcs hfs;by_cases hlt:k<s.size
  . have hb:=s[k].toNat_lt;have e0:s.data.toList.getD k 0=s[k]:=by
     have:s.data.toList[k]? = some s[k]:=dB (by simpa using hlt);simp[List.getD,this]
    have hcell:wr.cell? ⟨w.heap.size,k,none⟩=some (.int .u8 s[k].toNat):=by
     rw[HC.o k hlt];unfold lZ;rw[if_neg (by omega),e0]
    have hfz:=HF.o k hlt;have H0:Hid (s.data.toList.getD k 0=s[k]):=e0;clear e0;cases hcap:Ch.capital s[k].toNat
    . have HL:Hid (Ch.qB s[k]=s[k]):=Ch.YI _ hcap;go_wp2_with (go_at_call 237;refine(vZ _ _).mono ?_;rintro e w' ⟨rfl,rfl⟩)
      go_roundw
      case rel=>exact⟨k+1,by omega,by go_num,hbl,fun j hj=>by rw[HC.o j hj];exact Jr s k j (by rw[H0.o,HL.o]),HF.o⟩
      case measure=>simp[intOf];omega
    . have HL:Hid (((Ch.qB s[k]).toNat:Int)=s[k].toNat-65+97):=Ch.U4 _ hcap;have hcr:65<=s[k].toNat∧s[k].toNat<=90:=by
       unfold Ch.capital at hcap;rw[cZ,bQ,bQ] at hcap;omega
      go_wp2_with (go_at_call 237;refine(vZ _ _).mono ?_;rintro e w' ⟨rfl,rfl⟩)
      go_roundw
      case rel =>
       refine⟨k+1,by omega,by go_num,hbl.setCell (aL _) _,fun j hj=>?_,fun j hj=>by rw[World.frozen?_setCell];exact HF.o j hj⟩;by_cases hjk:j=k
       . subst hjk;rw[fO (h:=hcell)];unfold lZ;rw[if_pos (by omega),H0.o,HL.o]
       . rw[fP (h:=by intro h;injection h with _ h2;exact hjk h2.symm),HC.o j hj];exact FY s k j hjk
      case measure=>simp[intOf];omega
  . obtain rfl:k=s.size:=by omega
    have hback:(convert 31 9 (.slice (some ⟨w.heap.size,0,none⟩) s.size cap)).run prog wr=.ok (.string ⟨(Ch.lower s.data.toList).toArray⟩) wr:=by
     have h:=run_convert_bytes_back (P:=prog) wr 31 9 5 ⟨w.heap.size,0,none⟩ cap (Ch.lower s.data.toList) underlying31 underlying5 underlying9 (fun j hj=>by
      have hj':j<s.size:=by rw[Ch.mY,Ch.iC] at hj;exact hj
      have ha:((⟨w.heap.size,0,none⟩:Addr).add j)=⟨w.heap.size,j,none⟩:=by unfold Addr.add;simp;omega
      rw[ha,HC.o j hj'];unfold lZ;rw[if_pos hj'];have e:(Ch.lower s.data.toList)[j]=Ch.qB (s.data.toList.getD j 0):=by
       simp[Ch.lower,List.getD,hj']
      rw[e])
     rw[Ch.mY,Ch.iC] at h;exact h
    clear HC HF;generalize hr:(⟨(Ch.lower s.data.toList).toArray⟩:av)=r at hback;have HR:Hid ((⟨(Ch.lower s.data.toList).toArray⟩:av)=r):=hr;clear hr;go_wp2;go_ret;exact⟨qD HR.o.symm,hbl⟩
theorem ow (s:av)(w:X)(a:s.size<=maxLen):
 Calls prog 124 #[V s] w fun e w'=>e=Y (.tuple #[I J (Ch.number 10 9 s.data.toList).1,.bool (Ch.number 10 9 s.data.toList).2])∧w'=w:=by
 have h:=D7 s 10 9 w a (by decide) (by decide) (by decide) (by decide);generalize Ch.number 10 9 s.data.toList=p at h;go_enter func124,ntmps124;go_wp2_with (go_at_call 166;refine h.mono ?_;rintro e w' ⟨rfl,rfl⟩)
 go_ret2;exact⟨rfl,rfl⟩
theorem N9:(prog.info? 202).map (fun i=>(i.zero,i.size,i.bytes))=M (M (.agg #[V ⟨#[]⟩,V ⟨#[]⟩]),2,32):=by kernel_rfl
theorem Sd (a b:av):(a.toList==b.toList)=decide (a.data.toList=b.data.toList):=by
 rw[Lib.toList_data,Lib.toList_data,aG];simp
def mh (ps:ak):List Pm.tK:=ps.map fun p=>(p.1.data.toList,p.2.data.toList)
theorem sS (a:ak):(mh a).length=a.length:=by simp[mh]
theorem Lp (a b:ak):mh (a++b)=mh a++mh b:=by simp[mh]
theorem vG (c:Int)(w:X)(a:0<=c)(b:c<=255):
 Calls prog 115 #[I .u8 c] w fun e w'=>e=Y (.bool (Ch.token c))∧w'=w:=by
 have d:Hid (Ch.oneOf c Ch.tokens=Ch.token c):=Ch.IY c a b;have f:=Qz c ⟨Ch.tokens.toArray⟩ w (by decide);go_enter func115,ntmps115;go_wp2_with fail
 refine f.mono ?_;rintro e w' ⟨rfl,rfl⟩;go_wp2;go_ret;exact⟨iA d.o,rfl⟩
theorem yR (c:Int)(w:X):
 Calls prog 73 #[I .u8 c] w fun e w'=>e=Y (.bool (Ch.visible c))∧w'=w:=by
 by_cases b:c=9
 . subst b;go_enter func73,ntmps73;go_wp2;go_ret;exact⟨iA (by decide),rfl⟩
 . have a:(c==9)=F:=aR.2 b;go_enter func73,ntmps73;go_wp2;all_goals go_ret
   all_goals refine⟨iA ?_,rfl⟩
   all_goals (unfold Ch.visible;rw[a];first | (rw[aH (show 32<=c by omega)];simp) | (rw[aI (show ¬32<=c by omega)];simp))
theorem Jt (s:av)(w:X)(j:s.size<=maxLen):
 Calls prog 76 #[V s] w fun e w'=>e=Y (.bool (Ch.iw s.data.toList))∧w'=w:=by
 unfold maxLen at j;go_enter func76,ntmps76;go_wp2;go_loop [3] (fun i=>∃k:Nat,k<=s.size∧i=I J k∧((s.data.toList.take k).all fun b=>Ch.visible b.toNat)=true) (fun i=>s.size-(intOf i).toNat)
 case atStart=>exact⟨0,ay _,rfl,rfl⟩
 case round =>
  obtain⟨k,l,rfl,a⟩:=hrel;have f:Hid (((s.data.toList.take k).all fun b=>Ch.visible b.toNat)=true):=a;clear a;by_cases c:k<s.size
  . have m:=s[k].toNat_lt;cases g:Ch.visible (s[k].toNat:Int)
    . have d:Hid (Ch.visible (s[k].toNat:Int)=F):=g;go_wp2_with (go_at_call 73;refine(yR _ _).mono ?_;rintro e w' ⟨rfl,rfl⟩)
      go_ret;refine⟨iA ?_,rfl⟩;exact(Ch.mF (fun b=>Ch.visible b.toNat) s k c d.o).symm
    . have d:Hid (Ch.visible (s[k].toNat:Int)=true):=g;go_wp2_with (go_at_call 73;refine(yR _ _).mono ?_;rintro e w' ⟨rfl,rfl⟩)
      go_round
      case rel=>exact⟨k+1,by omega,by go_num,by rw[Ch.jq s k c,Ch.rE,f.o,d.o];rfl⟩
      case measure=>simp[intOf];omega
  . go_wp2;go_ret;refine⟨iA ?_,rfl⟩;unfold Ch.iw;rw[<-f.o,Ch.kX s k (by omega)]
theorem EC (n:Int)(w:X):
 Calls prog 145 #[I J n] w fun e w'=>e=Y (V ⟨(Rp.word n).toArray⟩)∧w'=w:=by
 by_cases b:n=200
 . subst b;go_enter func145,ntmps145;go_wp2;go_ret;exact⟨rfl,rfl⟩
 by_cases c:n=201
 . subst c;go_enter func145,ntmps145;go_wp2;go_ret;exact⟨rfl,rfl⟩
 by_cases d:n=204
 . subst d;go_enter func145,ntmps145;go_wp2;go_ret;exact⟨rfl,rfl⟩
 by_cases f:n=400
 . subst f;go_enter func145,ntmps145;go_wp2;go_ret;exact⟨rfl,rfl⟩
 by_cases g:n=404
 . subst g;go_enter func145,ntmps145;go_wp2;go_ret;exact⟨rfl,rfl⟩
 by_cases i:n=405
 . subst i;go_enter func145,ntmps145;go_wp2;go_ret;exact⟨rfl,rfl⟩
 by_cases j:n=409
 . subst j;go_enter func145,ntmps145;go_wp2;go_ret;exact⟨rfl,rfl⟩
 by_cases k:n=412
 . subst k;go_enter func145,ntmps145;go_wp2;go_ret;exact⟨rfl,rfl⟩
 by_cases l:n=413
 . subst l;go_enter func145,ntmps145;go_wp2;go_ret;exact⟨rfl,rfl⟩
 by_cases m:n=415
 . subst m;go_enter func145,ntmps145;go_wp2;go_ret;exact⟨rfl,rfl⟩
 by_cases a:n=507
 . subst a;go_enter func145,ntmps145;go_wp2;go_ret;exact⟨rfl,rfl⟩
 have r:Hid (Rp.word n=[]):=by
  refine Rp.CX Rp.tab n (fun p q=>?_);simp only[Rp.tab,fA,List.not_mem_nil,or_false] at q;rcases q with rfl | rfl | rfl | rfl | rfl | rfl | rfl | rfl | rfl | rfl | rfl;all_goals (intro e;simp only at e;omega)
 have t:(n==200)=F:=by rw[aR];exact b
 have u:(n==201)=F:=by rw[aR];exact c
 have v:(n==204)=F:=by rw[aR];exact d
 have x:(n==400)=F:=by rw[aR];exact f
 have y:(n==404)=F:=by rw[aR];exact g
 have z:(n==405)=F:=by rw[aR];exact i
 have B:(n==409)=F:=by rw[aR];exact j
 have C:(n==412)=F:=by rw[aR];exact k
 have D:(n==413)=F:=by rw[aR];exact l
 have G:(n==415)=F:=by rw[aR];exact m
 have s:(n==507)=F:=by rw[aR];exact a
 clear b c d f g i j k l m a;go_enter func145,ntmps145;go_wp2;go_ret;exact⟨by rw[r.o];rfl,rfl⟩
theorem yx (s:av)(w:X)(j:s.size<=maxLen):
 Calls prog 74 #[V s] w fun e w'=>e=Y (.bool (Ch.isToken s.data.toList))∧w'=w:=by
 unfold maxLen at j;go_enter func74,ntmps74;go_wp2;go_loop [3] (fun i=>∃k:Nat,k<=s.size∧i=I J k∧((s.data.toList.take k).all fun b=>Ch.token b.toNat)=true) (fun i=>s.size-(intOf i).toNat)
 case atStart=>exact⟨0,ay _,rfl,rfl⟩
 case round =>
  obtain⟨k,m,rfl,a⟩:=hrel;have f:Hid (((s.data.toList.take k).all fun b=>Ch.token b.toNat)=true):=a;clear a;by_cases c:k<s.size
  . have n:=s[k].toNat_lt;cases g:Ch.token (s[k].toNat:Int)
    . have d:Hid (Ch.token (s[k].toNat:Int)=F):=g;go_wp2_with (go_at_call 115;refine(vG _ _ (by omega) (by omega)).mono ?_;rintro e w' ⟨rfl,rfl⟩)
      go_ret;refine⟨iA ?_,rfl⟩;unfold Ch.isToken;rw[Ch.mF (fun b=>Ch.token b.toNat) s k c d.o];simp
    . have d:Hid (Ch.token (s[k].toNat:Int)=true):=g;go_wp2_with (go_at_call 115;refine(vG _ _ (by omega) (by omega)).mono ?_;rintro e w' ⟨rfl,rfl⟩)
      go_round
      case rel=>exact⟨k+1,by omega,by go_num,by rw[Ch.jq s k c,Ch.rE,f.o,d.o];rfl⟩
      case measure=>simp[intOf];omega
  . go_wp2;go_ret;refine⟨iA ?_,rfl⟩;have h:((s.data.toList).all fun b=>Ch.token b.toNat)=true:=by rw[<-f.o,Ch.kX s k (by omega)]
    unfold Ch.isToken;rw[h];by_cases l:s.size=0
    . obtain rfl:=Ch.empty_eq s l;rfl
    . rw[<-Lib.toList_data,Ch.lU s (by omega)];simp;omega
theorem BU (s:av)(w:X)(C:s.size<=maxLen):
 Calls prog 77 #[V s] w fun e w'=>e=Y (V ⟨(Lib.trimS s.data.toList Ch.ws).toArray⟩)∧w'=w:=by
 unfold maxLen at C;go_enter func77,ntmps77;go_wp2;go_loop [0] (fun v=>∃x:av,v=V x∧x.size<=s.size∧Lib.trimLeftS x.data.toList Ch.ws=Lib.trimLeftS s.data.toList Ch.ws) (fun v=>AQ v)
 case atStart=>exact⟨s,rfl,aL _,rfl⟩
 case round =>
  obtain⟨x,rfl,D,t⟩:=hrel;have p:Hid (Lib.trimLeftS x.data.toList Ch.ws=Lib.trimLeftS s.data.toList Ch.ws):=t;clear t;by_cases b:∃h:0<x.size,Ch.ws.contains (x[0]'h)=true
  . obtain⟨l,g⟩:=b;have c:decide ((0:Int)<(x.size:Int))=true:=aH (by omega);have n:Hid (Ch.ws.contains (x[0]'l)=true):=g;rw[Ch.P9] at g;cases m:(((x[0]'l).toNat:Int)==32)
    . rw[m,Bool.false_or] at g;go_wp2;go_round
      case rel=>exact⟨x.extract 1 x.size,rfl,by simp;omega,by rw[Lib.extract_to_end,Ch.left_step x l n.o,p.o]⟩
      case measure=>simp[AQ];omega
    . clear g;go_wp2;go_round
      case rel=>exact⟨x.extract 1 x.size,rfl,by simp;omega,by rw[Lib.extract_to_end,Ch.left_step x l n.o,p.o]⟩
      case measure=>simp[AQ];omega
  . have a:∀h:0<x.size,Ch.ws.contains (x[0]'h)=F:=fun h=>by
     cases e:Ch.ws.contains (x[0]'h)
     . rfl
     . exact absurd ⟨h,e⟩ b
    have r:Hid (x.data.toList=Lib.trimLeftS s.data.toList Ch.ws):=(Ch.left_stop x a).symm.trans p.o;clear b p;have d:x.size=0∨(0<x.size∧∀h:0<x.size,(((x[0]'h).toNat:Int)==32)=F∧(((x[0]'h).toNat:Int)==9)=F):=by
     rcases fE x.size with h | h
     . exact Or.inl h
     . refine Or.inr ⟨h,fun G=>?_⟩;have:=a G;rw[Ch.P9,aQ] at this;exact this
    clear a;rcases d with u | ⟨l,d⟩
    . have c:decide ((0:Int)<(x.size:Int))=F:=aI (by omega);obtain rfl:=Ch.empty_eq x u;go_wp2;refine wp_loop_rounds 1 ?_;rw[rounds_succ];go_wp2;go_ret;refine⟨qD ?_,rfl⟩;rw[<-Ch.GD,<-r.o];rfl
    . have c:decide ((0:Int)<(x.size:Int))=true:=aH (by omega);have m:=(d l).1;have H:=(d l).2;clear d;go_wp2;go_loop [0] (fun v=>∃y:av,v=V y∧y.size<=x.size∧Lib.trimRightS y.data.toList Ch.ws=Lib.trimRightS x.data.toList Ch.ws) (fun v=>AQ v)
      case atStart=>exact⟨x,rfl,aL _,rfl⟩
      case round =>
       obtain⟨y,rfl,L,z⟩:=hrel;have q:Hid (Lib.trimRightS y.data.toList Ch.ws=Lib.trimRightS x.data.toList Ch.ws):=z;clear z m H c;by_cases b:∃h:0<y.size,Ch.ws.contains (y[y.size-1]'(by omega))=true
       . obtain⟨i,g⟩:=b;have f:decide ((0:Int)<(y.size:Int))=true:=aH (by omega);have n:Hid (Ch.ws.contains (y[y.size-1]'(by omega))=true):=g;rw[Ch.P9] at g;cases k:(((y[y.size-1]'(by omega)).toNat:Int)==32)
         . rw[k,Bool.false_or] at g;go_wp2;go_round
           case rel=>exact⟨y.extract 0 (y.size-1),rfl,by simp;omega,by rw[Lib.extract_data,List.drop_zero,Nat.sub_zero,Ch.right_step y i n.o,q.o]⟩
           case measure=>simp[AQ];omega
         . clear g;go_wp2;go_round
           case rel=>exact⟨y.extract 0 (y.size-1),rfl,by simp;omega,by rw[Lib.extract_data,List.drop_zero,Nat.sub_zero,Ch.right_step y i n.o,q.o]⟩
           case measure=>simp[AQ];omega
       . have a:∀h:0<y.size,Ch.ws.contains (y[y.size-1]'(by omega))=F:=fun h=>by
          cases e:Ch.ws.contains (y[y.size-1]'(by omega))
          . rfl
          . exact absurd ⟨h,e⟩ b
         have B:Hid (y=⟨(Lib.trimS s.data.toList Ch.ws).toArray⟩):=Ch.str_eq (by rw[<-Ch.GD,<-r.o,<-q.o,Ch.right_stop y a]);clear b q r;rcases fE y.size with u | i
         . have f:decide ((0:Int)<(y.size:Int))=F:=aI (by omega);go_wp2;go_ret;exact⟨qD B.o,rfl⟩
         . have f:decide ((0:Int)<(y.size:Int))=true:=aH (by omega);have j:=a i;rw[Ch.P9,aQ] at j;have k:=j.1;have N:=j.2;clear j a;go_wp2;go_ret;exact⟨qD B.o,rfl⟩
theorem CR (s:av)(w:X)(y:s.size<=maxLen):
 Calls prog 79 #[V s] w fun e w'=>e=Y (.tuple #[I J (Ch.number 16 6 s.data.toList).1,.bool (Ch.number 16 6 s.data.toList).2])∧Below w.heap.size w w':=by
 unfold maxLen at y;by_cases z:s.size=0
 . obtain rfl:=Ch.empty_eq s z;go_enter func79,ntmps79;go_wp2;go_ret2;exact⟨nK (Ch.lG _ _ _ (Or.inl rfl)),fI _ _⟩
 . have t:decide ((s.size:Int)<1)=F:=aI (by omega);by_cases b:(6:Int)<s.size
   . have j:Hid ((6:Int)<s.data.toList.length):=by unfold Hid;rw[Ch.iC];exact b
     go_enter func79,ntmps79;go_wp2;go_ret2;exact⟨nK (Ch.lG _ _ _ (Or.inr j.o)),fI _ _⟩
   . have D:decide ((6:Int)<(s.size:Int))=F:=aI b;have j:Hid ((s.data.toList.length:Int)<=6):=by unfold Hid;rw[Ch.iC];omega
     go_enter func79,ntmps79;go_wp2;go_loopw [4,5] (fun n i wr=>∃k:Nat,k<=s.size∧i=I J k∧(s.data.toList.take k).all (Ch.xZ 16)=true∧n=I J (Ch.numOf 16 (s.data.toList.take k))∧Below w.heap.size w wr) (fun _ i _=>s.size-(intOf i).toNat)
     case atStart=>exact⟨0,ay _,rfl,rfl,rfl,fI _ _⟩
     case round =>
      obtain⟨k,G,rfl,c,rfl,a⟩:=hrel;have u:Hid ((s.data.toList.take k).all (Ch.xZ 16)=true):=c;have l:=Ch.mG 16 (by omega) (by omega) _ c (by have:(s.data.toList.take k).length<=k:=dL _ _;omega);clear c;generalize v:Ch.numOf 16 (s.data.toList.take k)=n at l;have x:Hid (Ch.numOf 16 (s.data.toList.take k)=n):=v;clear v;by_cases f:k<s.size
      . have H:=s[k].toNat_lt;have L:=Ch.rD s[k];cases g:decide (0<=Ch.hex s[k].toNat)
        . have m:Ch.hex s[k].toNat<0:=by have:=of_decide_eq_false g;omega
          have p:Hid (Ch.xZ 16 s[k]=F):=by unfold Hid;rw[Ch.Gx,g]
          clear g;go_wp2_with fail
          refine(xK s[k] _).mono ?_;rintro e B ⟨rfl,d⟩;go_wp2;go_ret2;exact⟨nK (Ch.tN _ _ _ (Ch.mF _ s k f p.o)),a.trans (d.mono a.size)⟩
        . have m:0<=Ch.hex s[k].toNat:=dh g;have p:Hid (Ch.xZ 16 s[k]=true):=by unfold Hid;rw[Ch.Gx,g]
          clear g;go_wp2_with fail
          refine(xK s[k] _).mono ?_;rintro e B ⟨rfl,d⟩;go_wp2_with fail
          refine(xK s[k] _).mono ?_;rintro e C ⟨rfl,q⟩;have r:Below w.heap.size w C:=(a.trans (d.mono a.size)).trans (q.mono (dF a.size d.size));go_wp2;go_roundw
          case rel=>exact⟨k+1,by omega,by go_num,by rw[Ch.jq s k f,Ch.rE,u.o,p.o];rfl,by rw[Ch.jq s k f,Ch.yJ,x.o,Int.mul_comm],r⟩
          case measure=>simp[intOf];omega
      . go_wp2;go_ret2;exact⟨nK (by rw[<-x.o,Ch.kX s k (by omega)];exact Ch.rF _ _ _ (Ch.ne_nil s (by omega)) (Int.not_lt.2 j.o) (by rw[<-u.o,Ch.kX s k (by omega)])),a⟩
end Go.Proofs.YtjmndjmhjleabaaGreatDoor