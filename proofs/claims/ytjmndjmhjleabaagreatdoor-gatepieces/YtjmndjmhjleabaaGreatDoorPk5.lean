/- Small texts, one behind the other: CsVis, StIndexB, StCut, CsDigit, CsHex, CsNumber, CsNum16, CsCap, CsLetter, CsToken, CsAllT, CsIsTok, CsAllV, CsIsVis, RfSmall, RfHexOf, RfOne, RfNumOf, CsLower, CsNum10, RfNum, ParL, RfTokB, RfScan, RfSeen, RfSeenT, RpW, RfTokT, RfTrim, RfFText. -/
import Derived.Test.YtjmndjmhjleabaaGreatDoorBase
import Derived.Test.YtjmndjmhjleabaaGreatDoorPk4
import Derived.Test.YtjmndjmhjleabaaGreatDoorProg
import Derived.Lib.Bytealg
set_option maxHeartbeats 2000000
set_option maxRecDepth 100000
open Go.Proofs.Tryz
namespace Go.Proofs.YtjmndjmhjleabaaGreatDoor
open Go.RowKit
theorem lD (c:Int)(w:World):
 Calls prog 184 #[.int .u8 c] w fun e w'=>e=.returned (.bool (Ch.visible c))∧w'=w:=by
 by_cases h9:c=9
 . subst h9;go_enter func184,ntmps184;go_wp2;go_ret;exact⟨bA (by decide),rfl⟩
 . have h9':(c==9)=false:=beq_eq_false_iff_ne.2 h9;go_enter func184,ntmps184;go_wp2;all_goals go_ret
   all_goals refine⟨bA ?_,rfl⟩
   all_goals (unfold Ch.visible;rw[h9'];first | (rw[decide_eq_true (show 32<=c by omega)];simp) | (rw[decide_eq_false (show ¬32<=c by omega)];simp))
theorem rO (s:ByteArray)(c:Int)(w:World):
 Calls prog 282 #[.string s,.int .u8 c] w fun e w'=>e=.returned (.int .i64 (Lib.indexByte s.data.toList c.toNat.toUInt8))∧w'=w:=by
 go_enter func282,ntmps282;go_wp2;rw[run_callFunc_extern func300 (by kernel_rfl) (by kernel_rfl) (by kernel_rfl) (e:=Extern.BytealgIndexByte.indexByte) (by kernel_rfl),Lib.run_indexByteString];simp only[Result.andThen];rw[Oper.upon_value];go_wp2;go_ret;exact⟨rfl,rfl⟩
theorem qm (s:ByteArray)(c:Int)(w:World):
 Calls prog 254 #[.string s,.int .u8 c] w fun e w'=>e=.returned (.int .i64 (Lib.indexByte s.data.toList c.toNat.toUInt8))∧w'=w:=by
 go_enter func254,ntmps254;go_wp2_with (go_at_call 282;refine(rO _ _ _).mono ?_;rintro e w' ⟨rfl,rfl⟩)
 go_ret;exact⟨rfl,rfl⟩
theorem index_one (s:ByteArray)(c:UInt8)(w:World):
 Calls prog 252 #[.string s,.string ⟨#[c]⟩] w fun e w'=>e=.returned (.int .i64 (Lib.indexByte s.data.toList c))∧w'=w:=by
 go_enter func252,ntmps252;go_wp2_with (go_at_call 282;refine(rO _ _ _).mono ?_;rintro e w' ⟨rfl,rfl⟩)
 . have h:([c]==s.toList)=true:=by assumption
   go_ret;refine⟨?_,rfl⟩;have e:s.data.toList=[c]:=by rw[<-Lib.toList_data];exact(beq_iff_eq.1 h).symm
   rw[e];simp[Lib.indexByte]
 . go_ret;exact⟨rfl,rfl⟩
def Fd.cutV (c:UInt8)(s:ByteArray):Value :=
 if Fd.at_ c s.data.toList=s.size then .tuple #[.string s,.string ⟨#[]⟩,.bool false]
 else .tuple #[.string (s.extract 0 (Fd.at_ c s.data.toList)),.string (s.extract (Fd.at_ c s.data.toList+1) s.size),.bool true]
theorem KI (s:ByteArray)(c:UInt8)(w:World)(hs:s.size<=maxLen):
 Calls prog 220 #[.string s,.string ⟨#[c]⟩] w fun e w'=>e=.returned (Fd.cutV c s)∧∃n,w'=w.drewN n:=by
 have HI:=H9 (index_one s c w);have hl:s.data.toList.length=s.size:=by rw[Array.length_toList];rfl
 unfold maxLen at hs;rcases Fd.NZ s.data.toList c with ⟨h1,h2⟩ | ⟨h1,h2⟩
 . rw[h1] at HI;have HR:Hid (Fd.cutV c s=.tuple #[.string s,.string ⟨#[]⟩,.bool false]):=by unfold Hid Fd.cutV;rw[if_pos (by rw[h2,hl])]
   clear h1 h2 hl;go_enter func220,ntmps220;go_wp2_with fail
   refine HI.o.mono ?_;rintro e w1 ⟨rfl,hw⟩;subst hw;go_wp2;go_ret3
   exact⟨by rw[HR.o];rfl,0,rfl⟩
 . rw[h1] at HI;rw[hl] at h2;have HR:Hid (Fd.cutV c s=.tuple #[.string (s.extract 0 (Fd.at_ c s.data.toList)),.string (s.extract (Fd.at_ c s.data.toList+1) s.size),.bool true]):=by unfold Hid Fd.cutV;rw[if_neg (by omega)]
   clear h1 hl;generalize Fd.at_ c s.data.toList=k at HI HR h2;have c1:(0:Int)<=k:=by omega
   have c2:(k:Int)<=s.size:=by omega
   have c3:(k:Int)+1<=s.size:=by omega
   have c4:IntKind.i64.wrap ((k:Int)+1)=(k:Int)+1:=gL (by omega) (by omega);have c5:(0:Int)<=(k:Int)+1:=by omega
   have c6:((k:Int)+1).toNat=k+1:=by omega
   go_enter func220,ntmps220;go_wp2_with fail
   refine HI.o.mono ?_;rintro e w1 ⟨rfl,hw⟩;subst hw;go_wp2;go_quiet (fail)
   go_wp2;go_ret3
   exact⟨by rw[HR.o];rfl,nq,rfl⟩
theorem pI (s:ByteArray)(c:UInt8)(w:World)(hs:s.size<=maxLen):
 Calls prog 185 #[.string s,.string ⟨#[c]⟩] w fun e w'=>e=.returned (Fd.cutV c s)∧∃n,w'=w.drewN n:=by
 have HC:=H9 (KI s c w hs);unfold Fd.cutV at HC ⊢;split at HC
 . rename_i h;rw[if_pos h];go_enter func185,ntmps185;go_wp2_with fail
   refine HC.o.mono ?_;rintro e w1 ⟨rfl,n,hw⟩;subst hw;go_wp2;go_ret3
   exact⟨rfl,n,rfl⟩
 . rename_i h;rw[if_neg h];go_enter func185,ntmps185;go_wp2_with fail
   refine HC.o.mono ?_;rintro e w1 ⟨rfl,n,hw⟩;subst hw;go_wp2;go_ret3
   exact⟨rfl,n,rfl⟩
theorem pJ (c:Int)(w:World):
 Calls prog 244 #[.int .u8 c] w fun e w'=>e=.returned (.bool (Ch.digit c))∧w'=w:=by
 go_enter func244,ntmps244;go_wp2;all_goals go_ret
 all_goals refine⟨bA ?_,rfl⟩
 all_goals (simp[Ch.digit];try omega)
theorem Ju (c:Int)(w:World)(h0:0<=c)(h1:c<=255):
 Calls prog 208 #[.int .u8 c] w fun e w'=>e=.returned (.int .i64 (Ch.hex c))∧w'=w:=by
 have HH:Hid (Ch.hex c=if Ch.digit c then c-48 else if decide (97<=c)&&decide (c<=102) then c-87 else if decide (65<=c)&&decide (c<=70) then c-55 else -1):=rfl;cases hd:Ch.digit c
 . go_enter func208,ntmps208;go_wp2_with (go_at_call 244;refine(pJ _ _).mono ?_;rintro e w' ⟨rfl,rfl⟩)
   all_goals go_ret
   all_goals refine⟨rJ ?_,rfl⟩
   all_goals (rw[HH.o,hd];simp only[Bool.false_eq_true,if_false,Bool.and_eq_true,decide_eq_true_eq];repeat' split) <;> omega
 . have hd':48<=c∧c<=57:=by simpa[Ch.digit] using hd
   go_enter func208,ntmps208;go_wp2_with (go_at_call 244;refine(pJ _ _).mono ?_;rintro e w' ⟨rfl,rfl⟩)
   go_ret;refine⟨rJ ?_,rfl⟩;rw[HH.o,hd,if_pos rfl]
theorem xQ (s:ByteArray)(base most:Int)(w:World)(hs:s.size<=maxLen)(hb0:2<=base)(hb1:base<=16)(hm0:0<=most)(hm1:most<=9):
 Calls prog 166 #[.string s,.int .i64 base,.int .i64 most] w fun e w'=>e=.returned (.tuple #[.int .i64 (Ch.number base most s.data.toList).1,.bool (Ch.number base most s.data.toList).2])∧w'=w:=by
 unfold maxLen at hs;by_cases h0:s.size=0
 . obtain rfl:=Ch.empty_eq s h0;go_enter func166,ntmps166;go_wp2;go_ret2;exact⟨wJ (Ch.mJ _ _ _ (Or.inl rfl)),rfl⟩
 . have hne:=Ch.gW s (by omega);by_cases hlong:most<s.size
   . have HL:Hid (most<s.data.toList.length):=by unfold Hid;rw[Ch.bC];exact hlong
     go_enter func166,ntmps166;go_wp2;go_ret2;exact⟨wJ (Ch.mJ _ _ _ (Or.inr HL.o)),rfl⟩
   . have UH:decide (most<(s.size:Int))=false:=decide_eq_false hlong;have HL:Hid (¬most<s.data.toList.length):=by unfold Hid;rw[Ch.bC];exact hlong
     go_enter func166,ntmps166;go_wp2;go_loop [8,21] (fun n i=>∃k:Nat,k<=s.size∧i=.int .i64 k∧(s.data.toList.take k).all (Ch.Af base)=true∧n=.int .i64 (Ch.numOf base (s.data.toList.take k))) (fun _ i=>s.size-(intOf i).toNat)
     case atStart=>exact⟨0,Nat.zero_le _,rfl,rfl,rfl⟩
     case round =>
      obtain⟨k,hk,rfl,hall,rfl⟩:=hrel;have HN:Hid ((s.data.toList.take k).all (Ch.Af base)=true):=hall;have hbd:=Ch.lq base (by omega) hb1 _ hall (by have:(s.data.toList.take k).length<=k:=List.length_take_le _ _;omega);clear hall;generalize hn:Ch.numOf base (s.data.toList.take k)=n at hbd;have Hn:Hid (Ch.numOf base (s.data.toList.take k)=n):=hn;clear hn;have p0:0<=n*base:=Int.mul_nonneg hbd.1 (by omega);have p1:n*base<=n*16:=Int.mul_le_mul_of_nonneg_left hb1 hbd.1;by_cases hlt:k<s.size
      . have hb:=s[k].toNat_lt;have hx:=Ch.nV s[k];by_cases hd:0<=Ch.hex s[k].toNat∧Ch.hex s[k].toNat<base
        . have HE:Hid (Ch.Af base s[k]=true):=by unfold Hid Ch.Af;rw[decide_eq_true hd.1,decide_eq_true hd.2];rfl
          have hd1:decide (Ch.hex s[k].toNat<0)=false:=decide_eq_false (by omega);have hd2:decide (base<=Ch.hex s[k].toNat)=false:=decide_eq_false (by omega);go_wp2_with (go_at_call 208;refine(Ju _ _ (by omega) (by omega)).mono ?_;rintro e w' ⟨rfl,rfl⟩)
          go_round
          case rel=>exact⟨k+1,by omega,by go_num,by rw[Ch.iB s k hlt,Ch.wS,HN.o,HE.o];rfl,by rw[Ch.iB s k hlt,Ch.FY,Hn.o]⟩
          case measure=>simp[intOf];omega
        . have HE:Hid (Ch.Af base s[k]=false):=by
           unfold Hid Ch.Af;by_cases hz:0<=Ch.hex s[k].toNat
           . rw[decide_eq_false (show ¬Ch.hex s[k].toNat<base from fun h=>hd ⟨hz,h⟩)];simp
           . rw[decide_eq_false hz];rfl
          by_cases hz:0<=Ch.hex s[k].toNat;all_goals
           go_wp2_with (go_at_call 208;refine(Ju _ _ (by omega) (by omega)).mono ?_;rintro e w' ⟨rfl,rfl⟩)
           all_goals first | omega | (go_ret2;exact⟨wJ (Ch.tq _ _ _ (Ch.nU _ s k hlt HE.o)),rfl⟩)
      . go_wp2;go_ret2;exact⟨wJ (by rw[<-Hn.o,Ch.qZ s k (by omega)];exact Ch.qG _ _ _ (Ch.ne_nil s (by omega)) (Int.not_lt.2 HL.o) (by rw[<-HN.o,Ch.qZ s k (by omega)])),rfl⟩
theorem rP (s:ByteArray)(w:World)(hs:s.size<=maxLen):
 Calls prog 311 #[.string s] w fun e w'=>e=.returned (.tuple #[.int .i64 (Ch.number 16 6 s.data.toList).1,.bool (Ch.number 16 6 s.data.toList).2])∧w'=w:=by
 have h:=xQ s 16 6 w hs (by decide) (by decide) (by decide) (by decide);generalize Ch.number 16 6 s.data.toList=p at h;go_enter func311,ntmps311;go_wp2_with (go_at_call 166;refine h.mono ?_;rintro e w' ⟨rfl,rfl⟩)
 go_ret2;exact⟨rfl,rfl⟩
theorem om (c:Int)(w:World):
 Calls prog 237 #[.int .u8 c] w fun e w'=>e=.returned (.bool (Ch.capital c))∧w'=w:=by
 go_enter func237,ntmps237;go_wp2;all_goals go_ret
 all_goals refine⟨bA ?_,rfl⟩
 all_goals (simp[Ch.capital];try omega)
theorem xR (c:Int)(w:World):
 Calls prog 253 #[.int .u8 c] w fun e w'=>e=.returned (.bool (Ch.letter c))∧w'=w:=by
 go_enter func253,ntmps253;go_wp2_with (go_at_call 237;refine(om _ _).mono ?_;rintro e w' ⟨rfl,rfl⟩)
 all_goals go_ret
 all_goals refine⟨bA ?_,rfl⟩
 all_goals (unfold Ch.letter;first | (rw[decide_eq_true (show 97<=c by omega)];simp;try omega) | (rw[decide_eq_false (show ¬97<=c by omega)];simp;try omega))
theorem pK (c:Int)(w:World):
 Calls prog 225 #[.int .u8 c] w fun e w'=>e=.returned (.bool (Ch.token c))∧w'=w:=by
 have hm:=qm ⟨#[33,35,36,37,38,39,42,43,45,46,94,95,96,124,126]⟩ c w;have HM:Hid (Lib.indexByte [33,35,36,37,38,39,42,43,45,46,94,95,96,124,126] c.toNat.toUInt8=Lib.indexByte Ch.marks c.toNat.toUInt8):=rfl;generalize (Lib.indexByte [33,35,36,37,38,39,42,43,45,46,94,95,96,124,126] c.toNat.toUInt8)=r at hm HM;cases hd:Ch.digit c
 . cases hl:Ch.letter c;all_goals
    have HH:Hid (Ch.token c=(Ch.digit c||Ch.letter c||decide (0<=r))):=by rw[HM.o];rfl
    go_enter func225,ntmps225;go_wp2_with (first | (go_at_call 244;refine(pJ _ _).mono ?_;rintro e w' ⟨rfl,rfl⟩) | (go_at_call 253;refine(xR _ _).mono ?_;rintro e w' ⟨rfl,rfl⟩) | (go_at_call 254;refine hm.mono ?_;rintro e w' ⟨rfl,rfl⟩))
    go_ret;refine⟨bA ?_,rfl⟩;rw[HH.o,hd,hl];simp
 . have HH:Hid (Ch.token c=(Ch.digit c||Ch.letter c||decide (0<=r))):=by rw[HM.o];rfl
   go_enter func225,ntmps225;go_wp2_with (first | (go_at_call 244;refine(pJ _ _).mono ?_;rintro e w' ⟨rfl,rfl⟩) | (go_at_call 253;refine(xR _ _).mono ?_;rintro e w' ⟨rfl,rfl⟩) | (go_at_call 254;refine hm.mono ?_;rintro e w' ⟨rfl,rfl⟩))
   go_ret;refine⟨bA ?_,rfl⟩;rw[HH.o,hd];simp
theorem KL (s:ByteArray)(w:World)(hs:s.size<=maxLen):
 Calls prog 224 #[.string s,.func (.func 225) #[] #[]] w fun e w'=>e=.returned (.bool (Ch.wR s.data.toList))∧w'=w:=by
 unfold maxLen at hs;go_enter func224,ntmps224;go_wp2;go_loop [8] (fun i=>∃k:Nat,k<=s.size∧i=.int .i64 k∧((s.data.toList.take k).all fun b=>Ch.token b.toNat)=true) (fun i=>s.size-(intOf i).toNat)
 case atStart=>exact⟨0,Nat.zero_le _,rfl,rfl⟩
 case round =>
  obtain⟨k,hk,rfl,hno⟩:=hrel;have HN:Hid (((s.data.toList.take k).all fun b=>Ch.token b.toNat)=true):=hno;clear hno;by_cases hlt:k<s.size
  . cases he:Ch.token (s[k].toNat:Int)
    . have HE:Hid (Ch.token (s[k].toNat:Int)=false):=he;go_wp2_with (go_at_call 225;refine(pK _ _).mono ?_;rintro e w' ⟨rfl,rfl⟩)
      go_ret;refine⟨bA ?_,rfl⟩;exact(Ch.nU (fun b=>Ch.token b.toNat) s k hlt HE.o).symm
    . have HE:Hid (Ch.token (s[k].toNat:Int)=true):=he;go_wp2_with (go_at_call 225;refine(pK _ _).mono ?_;rintro e w' ⟨rfl,rfl⟩)
      go_round
      case rel=>exact⟨k+1,by omega,by go_num,by rw[Ch.iB s k hlt,Ch.wS,HN.o,HE.o];rfl⟩
      case measure=>simp[intOf];omega
  . go_wp2;go_ret;refine⟨bA ?_,rfl⟩;rw[<-HN.o,Ch.qZ s k (by omega)];rfl
theorem oq (s:ByteArray)(w:World)(hs:s.size<=maxLen):
 Calls prog 187 #[.string s] w fun e w'=>e=.returned (.bool (Ch.isToken s.data.toList))∧w'=w:=by
 by_cases h0:s.size=0
 . obtain rfl:=Ch.empty_eq s h0;go_enter func187,ntmps187;go_wp2;go_ret;exact⟨rfl,rfl⟩
 . have hne:=Ch.gW s (by omega);have HT:Hid (Ch.wR s.data.toList=Ch.isToken s.data.toList):=by
    unfold Hid Ch.isToken Ch.wR;rw[<-Lib.toList_data,hne];simp
   go_enter func187,ntmps187;go_wp2_with (go_at_call 224;refine(KL _ _ hs).mono ?_;rintro e w' ⟨rfl,rfl⟩)
   go_ret;exact⟨bA HT.o,rfl⟩
theorem D5 (s:ByteArray)(w:World)(hs:s.size<=maxLen):
 Calls prog 224 #[.string s,.func (.func 184) #[] #[]] w fun e w'=>e=.returned (.bool (Ch.aP s.data.toList))∧w'=w:=by
 unfold maxLen at hs;go_enter func224,ntmps224;go_wp2;go_loop [8] (fun i=>∃k:Nat,k<=s.size∧i=.int .i64 k∧((s.data.toList.take k).all fun b=>Ch.visible b.toNat)=true) (fun i=>s.size-(intOf i).toNat)
 case atStart=>exact⟨0,Nat.zero_le _,rfl,rfl⟩
 case round =>
  obtain⟨k,hk,rfl,hno⟩:=hrel;have HN:Hid (((s.data.toList.take k).all fun b=>Ch.visible b.toNat)=true):=hno;clear hno;by_cases hlt:k<s.size
  . cases he:Ch.visible (s[k].toNat:Int)
    . have HE:Hid (Ch.visible (s[k].toNat:Int)=false):=he;go_wp2_with (go_at_call 184;refine(lD _ _).mono ?_;rintro e w' ⟨rfl,rfl⟩)
      go_ret;refine⟨bA ?_,rfl⟩;exact(Ch.nU (fun b=>Ch.visible b.toNat) s k hlt HE.o).symm
    . have HE:Hid (Ch.visible (s[k].toNat:Int)=true):=he;go_wp2_with (go_at_call 184;refine(lD _ _).mono ?_;rintro e w' ⟨rfl,rfl⟩)
      go_round
      case rel=>exact⟨k+1,by omega,by go_num,by rw[Ch.iB s k hlt,Ch.wS,HN.o,HE.o];rfl⟩
      case measure=>simp[intOf];omega
  . go_wp2;go_ret;refine⟨bA ?_,rfl⟩;rw[<-HN.o,Ch.qZ s k (by omega)];rfl
theorem dW (s:ByteArray)(w:World)(hs:s.size<=maxLen):
 Calls prog 192 #[.string s] w fun e w'=>e=.returned (.bool (Ch.aP s.data.toList))∧w'=w:=by
 go_enter func192,ntmps192;go_wp2_with (go_at_call 224;refine(D5 _ _ hs).mono ?_;rintro e w' ⟨rfl,rfl⟩)
 go_ret;exact⟨rfl,rfl⟩
def fQ (s:ByteArray)(k j:Nat):Value:=.int .u8 ((if j<k then Ch.wT (s.data.toList.getD j 0) else s.data.toList.getD j 0).toNat:Int)
theorem BZ (s:ByteArray)(k j:Nat)(h:Ch.wT (s.data.toList.getD k 0)=s.data.toList.getD k 0):some (fQ s k j)=some (fQ s (k+1) j):=by
 unfold fQ;by_cases h1:j<k
 . rw[if_pos h1,if_pos (by omega)]
 . by_cases h2:j=k
   . subst h2;rw[if_neg h1,if_pos (by omega),h]
   . rw[if_neg h1,if_neg (by omega)]
theorem zN (s:ByteArray)(k j:Nat)(h:j≠k):some (fQ s k j)=some (fQ s (k+1) j):=by
 unfold fQ;by_cases h1:j<k
 . rw[if_pos h1,if_pos (by omega)]
 . rw[if_neg h1,if_neg (by omega)]
theorem jf (s:ByteArray)(w:World)(hs:s.size<=maxLen):
 Calls prog 203 #[.string s] w fun e w'=>e=.returned (.string ⟨(Ch.lower s.data.toList).toArray⟩)∧Below w.heap.size w w':=by
 unfold maxLen at hs;have oD:=run_bytes_of_string (P:=prog) w 9 31 5 s underlying9 underlying31 underlying5;generalize grownCap w s.size 0 5=cap at oD;have hat:∀j,j<s.size->(bytesRow s cap)[j]? = some (fQ s 0 j):=fun j hj=>by
  rw[bytesRow_at s cap j hj];unfold fQ;rw[if_neg (by omega)];have e:s.data.toList.getD j 0=s.data[j]'hj:=by
   simp[List.getD,hj]
  rw[e]
 have hsz:s.size<=(bytesRow s cap).size:=by unfold bytesRow;simp
 generalize bytesRow s cap=C at oD hat hsz;go_enter func203,ntmps203;go_wp2;have hB0:Below w.heap.size w (w.alloc (.cells C 5 (C.size,C.size+1))).drew:=((Below.refl _ _).alloc (Nat.le_refl _) _).drew;have hc0:∀j,j<s.size->((w.alloc (.cells C 5 (C.size,C.size+1))).drew).cell? ⟨w.heap.size,j,none⟩=some (fQ s 0 j):=fun j hj=>by
  rw[<-hat j hj];exact World.cell?_alloc_mark w C 5 _ j
 have hf0:∀j,j<s.size->((w.alloc (.cells C 5 (C.size,C.size+1))).drew).frozen? ⟨w.heap.size,j,none⟩=false:=fun j hj=>by
  refine(World.frozen?_alloc_mark w C 5 C.size (C.size+1) j).trans ?_;rw[decide_eq_false (by omega)];rfl
 clear oD hat;go_loopw [10] (fun i wr=>∃k:Nat,k<=s.size∧i=.int .i64 k∧Below w.heap.size w wr∧(∀j,j<s.size->wr.cell? ⟨w.heap.size,j,none⟩=some (fQ s k j))∧(∀j,j<s.size->wr.frozen? ⟨w.heap.size,j,none⟩=false)) (fun i _=>s.size-(intOf i).toNat)
 case atStart=>exact⟨0,Nat.zero_le _,rfl,hB0,hc0,hf0⟩
 case round =>
  obtain⟨k,hk,rfl,hbl,hcs,hfs⟩:=hrel;clear hB0 hc0 hf0 hsz;have HC:Hid (∀j,j<s.size->wr.cell? ⟨w.heap.size,j,none⟩=some (fQ s k j)):=hcs;have HF:Hid (∀j,j<s.size->wr.frozen? ⟨w.heap.size,j,none⟩=false):=hfs;clear hcs hfs;by_cases hlt:k<s.size
  . have hb:=s[k].toNat_lt;have e0:s.data.toList.getD k 0=s[k]:=by
     have:s.data.toList[k]? = some s[k]:=List.getElem?_eq_getElem (by simpa using hlt);simp[List.getD,this]
    have hcell:wr.cell? ⟨w.heap.size,k,none⟩=some (.int .u8 s[k].toNat):=by
     rw[HC.o k hlt];unfold fQ;rw[if_neg (by omega),e0]
    have hfz:=HF.o k hlt;have H0:Hid (s.data.toList.getD k 0=s[k]):=e0;clear e0;cases hcap:Ch.capital s[k].toNat
    . have HL:Hid (Ch.wT s[k]=s[k]):=Ch.Q8 _ hcap;go_wp2_with (go_at_call 237;refine(om _ _).mono ?_;rintro e w' ⟨rfl,rfl⟩)
      go_roundw
      case rel=>exact⟨k+1,by omega,by go_num,hbl,fun j hj=>by rw[HC.o j hj];exact BZ s k j (by rw[H0.o,HL.o]),HF.o⟩
      case measure=>simp[intOf];omega
    . have HL:Hid (((Ch.wT s[k]).toNat:Int)=s[k].toNat-65+97):=Ch.Nr _ hcap;have hcr:65<=s[k].toNat∧s[k].toNat<=90:=by
       unfold Ch.capital at hcap;rw[Bool.and_eq_true,decide_eq_true_eq,decide_eq_true_eq] at hcap;omega
      go_wp2_with (go_at_call 237;refine(om _ _).mono ?_;rintro e w' ⟨rfl,rfl⟩)
      go_roundw
      case rel =>
       refine⟨k+1,by omega,by go_num,hbl.setCell (Nat.le_refl _) _,fun j hj=>?_,fun j hj=>by rw[World.frozen?_setCell];exact HF.o j hj⟩;by_cases hjk:j=k
       . subst hjk;rw[World.cell?_setCell_same (h:=hcell)];unfold fQ;rw[if_pos (by omega),H0.o,HL.o]
       . rw[World.cell?_setCell_other (h:=by intro h;injection h with _ h2;exact hjk h2.symm),HC.o j hj];exact zN s k j hjk
      case measure=>simp[intOf];omega
  . obtain rfl:k=s.size:=by omega
    have hback:(convert 31 9 (.slice (some ⟨w.heap.size,0,none⟩) s.size cap)).run prog wr=.ok (.string ⟨(Ch.lower s.data.toList).toArray⟩) wr:=by
     have h:=run_convert_bytes_back (P:=prog) wr 31 9 5 ⟨w.heap.size,0,none⟩ cap (Ch.lower s.data.toList) underlying31 underlying5 underlying9 (fun j hj=>by
      have hj':j<s.size:=by rw[Ch.iM,Ch.bC] at hj;exact hj
      have ha:((⟨w.heap.size,0,none⟩:Addr).add j)=⟨w.heap.size,j,none⟩:=by unfold Addr.add;simp;omega
      rw[ha,HC.o j hj'];unfold fQ;rw[if_pos hj'];have e:(Ch.lower s.data.toList)[j]=Ch.wT (s.data.toList.getD j 0):=by
       simp[Ch.lower,List.getD,hj']
      rw[e])
     rw[Ch.iM,Ch.bC] at h;exact h
    clear HC HF;generalize hr:(⟨(Ch.lower s.data.toList).toArray⟩:ByteArray)=r at hback;have HR:Hid ((⟨(Ch.lower s.data.toList).toArray⟩:ByteArray)=r):=hr;clear hr;go_wp2;go_ret;exact⟨rM HR.o.symm,hbl⟩
theorem iW (s:ByteArray)(w:World)(hs:s.size<=maxLen):
 Calls prog 124 #[.string s] w fun e w'=>e=.returned (.tuple #[.int .i64 (Ch.number 10 9 s.data.toList).1,.bool (Ch.number 10 9 s.data.toList).2])∧w'=w:=by
 have h:=xQ s 10 9 w hs (by decide) (by decide) (by decide) (by decide);generalize Ch.number 10 9 s.data.toList=p at h;go_enter func124,ntmps124;go_wp2_with (go_at_call 166;refine h.mono ?_;rintro e w' ⟨rfl,rfl⟩)
 go_ret2;exact⟨rfl,rfl⟩
theorem GI:(prog.info? 202).map (fun i=>(i.zero,i.size,i.bytes))=some (some (.agg #[.string ⟨#[]⟩,.string ⟨#[]⟩]),2,32):=by kernel_rfl
theorem KX (a b:ByteArray):(a.toList==b.toList)=decide (a.data.toList=b.data.toList):=by
 rw[Lib.toList_data,Lib.toList_data,Bool.eq_iff_iff];simp
def fT (ps:List (ByteArray×ByteArray)):List Pm.lW:=ps.map fun p=>(p.1.data.toList,p.2.data.toList)
theorem lK (ps:List (ByteArray×ByteArray)):(fT ps).length=ps.length:=by simp[fT]
theorem Eu (a b:List (ByteArray×ByteArray)):fT (a++b)=fT a++fT b:=by simp[fT]
theorem yK (n:Int)(w:World):
 Calls prog 145 #[.int .i64 n] w fun e w'=>e=.returned (.string ⟨(Rp.word n).toArray⟩)∧w'=w:=by
 by_cases h0:n=200
 . subst h0;go_enter func145,ntmps145;go_wp2;go_ret;exact⟨rfl,rfl⟩
 by_cases h1:n=201
 . subst h1;go_enter func145,ntmps145;go_wp2;go_ret;exact⟨rfl,rfl⟩
 by_cases h2:n=204
 . subst h2;go_enter func145,ntmps145;go_wp2;go_ret;exact⟨rfl,rfl⟩
 by_cases h3:n=400
 . subst h3;go_enter func145,ntmps145;go_wp2;go_ret;exact⟨rfl,rfl⟩
 by_cases h4:n=404
 . subst h4;go_enter func145,ntmps145;go_wp2;go_ret;exact⟨rfl,rfl⟩
 by_cases h5:n=405
 . subst h5;go_enter func145,ntmps145;go_wp2;go_ret;exact⟨rfl,rfl⟩
 by_cases h6:n=409
 . subst h6;go_enter func145,ntmps145;go_wp2;go_ret;exact⟨rfl,rfl⟩
 by_cases h7:n=412
 . subst h7;go_enter func145,ntmps145;go_wp2;go_ret;exact⟨rfl,rfl⟩
 by_cases h8:n=413
 . subst h8;go_enter func145,ntmps145;go_wp2;go_ret;exact⟨rfl,rfl⟩
 by_cases h9:n=415
 . subst h9;go_enter func145,ntmps145;go_wp2;go_ret;exact⟨rfl,rfl⟩
 by_cases h10:n=507
 . subst h10;go_enter func145,ntmps145;go_wp2;go_ret;exact⟨rfl,rfl⟩
 have HW:Hid (Rp.word n=[]):=by
  refine Rp.wH Rp.tab n (fun p hp=>?_);simp only[Rp.tab,List.mem_cons,List.not_mem_nil,or_false] at hp;rcases hp with rfl | rfl | rfl | rfl | rfl | rfl | rfl | rfl | rfl | rfl | rfl;all_goals (intro e;simp only at e;omega)
 have t0:(n==200)=false:=by rw[beq_eq_false_iff_ne];exact h0
 have t1:(n==201)=false:=by rw[beq_eq_false_iff_ne];exact h1
 have t2:(n==204)=false:=by rw[beq_eq_false_iff_ne];exact h2
 have t3:(n==400)=false:=by rw[beq_eq_false_iff_ne];exact h3
 have t4:(n==404)=false:=by rw[beq_eq_false_iff_ne];exact h4
 have t5:(n==405)=false:=by rw[beq_eq_false_iff_ne];exact h5
 have t6:(n==409)=false:=by rw[beq_eq_false_iff_ne];exact h6
 have t7:(n==412)=false:=by rw[beq_eq_false_iff_ne];exact h7
 have t8:(n==413)=false:=by rw[beq_eq_false_iff_ne];exact h8
 have t9:(n==415)=false:=by rw[beq_eq_false_iff_ne];exact h9
 have t10:(n==507)=false:=by rw[beq_eq_false_iff_ne];exact h10
 clear h0 h1 h2 h3 h4 h5 h6 h7 h8 h9 h10;go_enter func145,ntmps145;go_wp2;go_ret;exact⟨by rw[HW.o];rfl,rfl⟩
end Go.Proofs.YtjmndjmhjleabaaGreatDoor