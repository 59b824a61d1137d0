/- Small texts, one behind the other: CsVis, StIndexB, StCut, CsDigit, CsHex, CsNumber, CsNum16, CsCap, CsLetter, CsToken, CsAllT, CsIsTok, CsAllV, CsIsVis, RfSmall, RfHexOf, RfOne, RfNumOf, CsLower, CsNum10, RfNum, ParL, RfTokB, RfScan, RfSeen, RfSeenT, RpW, RfTokT, RfTrim, RfFText, RfHexNo. -/
import Derived.Test.YthhklgjjnaeaoaaGreatDoorBase
import Derived.Test.YthhklgjjnaeaoaaGreatDoorPk4
import Derived.Test.YthhklgjjnaeaoaaGreatDoorProg
open Go.Value renaming int->I,string->V
open Go.Ending renaming returned->Y
open Bool renaming false->F
open Go renaming World->X
set_option maxHeartbeats 2000000
set_option maxRecDepth 100000
open Go.Proofs.Tryz
namespace Go.Proofs.YthhklgjjnaeaoaaGreatDoor
open Go.RowKit
theorem ru (c:Int)(w:X):
 Calls prog 230 #[I .u8 c] w fun e w'=>e=Y (.bool (Ch.visible c))∧w'=w:=by
 by_cases b:c=9
 . subst b;go_enter func230,ntmps230;go_wp2;go_ret;exact⟨iN (by decide),rfl⟩
 . have a:(c==9)=F:=aR.2 b;go_enter func230,ntmps230;go_wp2;all_goals go_ret
   all_goals refine⟨iN ?_,rfl⟩
   all_goals (unfold Ch.visible;rw[a];first | (rw[aI (show 32<=c by omega)];simp) | (rw[aJ (show ¬32<=c by omega)];simp))
theorem yY (s:ay)(c:Int)(w:X):
 Calls prog 329 #[V s,I .u8 c] w fun e w'=>e=Y (I .i64 (Lib.indexByte s.data.toList c.toNat.toUInt8))∧w'=w:=by
 go_enter func329,ntmps329;go_wp2;rw[run_callFunc_extern func347 (by kernel_rfl) (by kernel_rfl) (by kernel_rfl) (e:=Extern.BytealgIndexByte.indexByte) (by kernel_rfl),Lib.run_indexByteString];simp only[Result.andThen];rw[Oper.upon_value];go_wp2;go_ret;exact⟨rfl,rfl⟩
theorem xD (s:ay)(c:Int)(w:X):
 Calls prog 300 #[V s,I .u8 c] w fun e w'=>e=Y (I .i64 (Lib.indexByte s.data.toList c.toNat.toUInt8))∧w'=w:=by
 go_enter func300,ntmps300;go_wp2_with (go_at_call 329;refine(yY _ _ _).mono ?_;rintro e w' ⟨rfl,rfl⟩)
 go_ret;exact⟨rfl,rfl⟩
theorem index_one (s:ay)(c:UInt8)(w:X):
 Calls prog 298 #[V s,V ⟨#[c]⟩] w fun e w'=>e=Y (I .i64 (Lib.indexByte s.data.toList c))∧w'=w:=by
 go_enter func298,ntmps298;go_wp2_with (go_at_call 329;refine(yY _ _ _).mono ?_;rintro e w' ⟨rfl,rfl⟩)
 . have h:([c]==s.toList)=true:=by assumption
   go_ret;refine⟨?_,rfl⟩;have e:s.data.toList=[c]:=by rw[<-Lib.toList_data];exact(aS.1 h).symm
   rw[e];simp[Lib.indexByte]
 . go_ret;exact⟨rfl,rfl⟩
def Fd.cutV (c:UInt8)(s:ay):Value :=
 if Fd.at_ c s.data.toList=s.size then .tuple #[V s,V ⟨#[]⟩,.bool F]
 else .tuple #[V (s.extract 0 (Fd.at_ c s.data.toList)),V (s.extract (Fd.at_ c s.data.toList+1) s.size),.bool true]
theorem RJ (s:ay)(c:UInt8)(w:World)(hs:s.size<=maxLen):
 Calls prog 265 #[.string s,.string ⟨#[c]⟩] w fun e w'=>e=.returned (Fd.cutV c s)∧∃n,w'=w.drewN n:=by
 have HI:=index_one s c w;have hl:s.data.toList.length=s.size:=by rw[aO];rfl
 unfold maxLen at hs;rcases Fd.Vu s.data.toList c with ⟨h1,h2⟩ | ⟨h1,h2⟩
 . rw[h1] at HI;have HR:Hid (Fd.cutV c s=.tuple #[.string s,.string ⟨#[]⟩,.bool false]):=by unfold Hid Fd.cutV;rw[if_pos (by rw[h2,hl])]
   go_enter func265,ntmps265;go_wp2_with fail
   refine HI.mono ?_;rintro e w1 ⟨rfl,hw⟩;subst hw;go_wp2;go_ret3
   exact⟨by rw[HR.o];rfl,0,rfl⟩
 . rw[h1] at HI;rw[hl] at h2;have HR:Hid (Fd.cutV c s=.tuple #[.string (s.extract 0 (Fd.at_ c s.data.toList)),.string (s.extract (Fd.at_ c s.data.toList+1) s.size),.bool true]):=by unfold Hid Fd.cutV;rw[if_neg (by omega)]
   generalize Fd.at_ c s.data.toList=k at HI HR h2;have c1:(0:Int)<=k:=by omega
   have c2:(k:Int)<=s.size:=by omega
   have c3:(k:Int)+1<=s.size:=by omega
   have c4:IntKind.i64.wrap ((k:Int)+1)=(k:Int)+1:=ko (by omega) (by omega);have c5:(0:Int)<=(k:Int)+1:=by omega
   have c6:((k:Int)+1).toNat=k+1:=by omega
   go_enter func265,ntmps265;go_wp2_with fail
   refine HI.mono ?_;rintro e w1 ⟨rfl,hw⟩;subst hw;go_wp2;go_quiet (fail)
   go_wp2;go_ret3
   exact⟨by rw[HR.o];rfl,nq,rfl⟩
theorem wQ (s:ay)(c:UInt8)(w:World)(hs:s.size<=maxLen):
 Calls prog 231 #[.string s,.string ⟨#[c]⟩] w fun e w'=>e=.returned (Fd.cutV c s)∧∃n,w'=w.drewN n:=by
 have HC:=RJ s c w hs;unfold Fd.cutV at HC ⊢;split at HC
 . rename_i h;rw[if_pos h];go_enter func231,ntmps231;go_wp2_with fail
   refine HC.mono ?_;rintro e w1 ⟨rfl,n,hw⟩;subst hw;go_wp2;go_ret3
   exact⟨rfl,n,rfl⟩
 . rename_i h;rw[if_neg h];go_enter func231,ntmps231;go_wp2_with fail
   refine HC.mono ?_;rintro e w1 ⟨rfl,n,hw⟩;subst hw;go_wp2;go_ret3
   exact⟨rfl,n,rfl⟩
theorem wR (c:Int)(w:X):
 Calls prog 290 #[I .u8 c] w fun e w'=>e=Y (.bool (Ch.digit c))∧w'=w:=by
 go_enter func290,ntmps290;go_wp2;all_goals go_ret
 all_goals refine⟨iN ?_,rfl⟩
 all_goals (simp[Ch.digit];try omega)
theorem Qf (c:Int)(w:X)(f:0<=c)(g:c<=255):
 Calls prog 261 #[I .u8 c] w fun e w'=>e=Y (I .i64 (Ch.hex c))∧w'=w:=by
 have b:Hid (Ch.hex c=if Ch.digit c then c-48 else if decide (97<=c)&&decide (c<=102) then c-87 else if decide (65<=c)&&decide (c<=70) then c-55 else -1):=rfl;cases a:Ch.digit c
 . go_enter func261,ntmps261;go_wp2_with (go_at_call 290;refine(wR _ _).mono ?_;rintro e w' ⟨rfl,rfl⟩)
   all_goals go_ret
   all_goals refine⟨lH ?_,rfl⟩
   all_goals (rw[b.o,a];simp only[dF,if_false,cO,bP];repeat' split) <;> omega
 . have d:48<=c∧c<=57:=by simpa[Ch.digit] using a
   go_enter func261,ntmps261;go_wp2_with (go_at_call 290;refine(wR _ _).mono ?_;rintro e w' ⟨rfl,rfl⟩)
   go_ret;refine⟨lH ?_,rfl⟩;rw[b.o,a,if_pos rfl]
theorem Dw (s:ay)(base most:Int)(w:World)(hs:s.size<=maxLen)(hb0:2<=base)(hb1:base<=16)(hm0:0<=most)(hm1:most<=9):
 Calls prog 224 #[.string s,.int .i64 base,.int .i64 most] w fun e w'=>e=.returned (.tuple #[.int .i64 (Ch.number base most s.data.toList).1,.bool (Ch.number base most s.data.toList).2])∧w'=w:=by
 unfold maxLen at hs;by_cases h0:s.size=0
 . obtain rfl:=Ch.empty_eq s h0;go_enter func224,ntmps224;go_wp2;go_ret2;exact⟨Cr (Ch.tH _ _ _ (Or.inl rfl)),rfl⟩
 . have hne:=Ch.mP s (by omega);by_cases hlong:most<s.size
   . have HL:most<s.data.toList.length:=by rw[Ch.iK];exact hlong
     go_enter func224,ntmps224;go_wp2;go_ret2;exact⟨Cr (Ch.tH _ _ _ (Or.inr HL)),rfl⟩
   . have hlg:decide (most<(s.size:Int))=false:=aJ hlong;have HL:¬most<s.data.toList.length:=by rw[Ch.iK];exact hlong
     go_enter func224,ntmps224;go_wp2;go_loop [8,21] (fun n i=>∃k:Nat,k<=s.size∧i=.int .i64 k∧(s.data.toList.take k).all (Ch.FK base)=true∧n=.int .i64 (Ch.numOf base (s.data.toList.take k))) (fun _ i=>s.size-(intOf i).toNat)
     case atStart=>exact⟨0,aA _,rfl,rfl,rfl⟩
     case round =>
      obtain⟨k,hk,rfl,hall,rfl⟩:=hrel;have HN:(s.data.toList.take k).all (Ch.FK base)=true:=hall;have hbd:=Ch.qX base (by omega) hb1 _ hall (by have:(s.data.toList.take k).length<=k:=List.length_take_le _ _;omega);generalize hn:Ch.numOf base (s.data.toList.take k)=n at hbd;have Hn:Hid (Ch.numOf base (s.data.toList.take k)=n):=hn;have p0:0<=n*base:=Int.mul_nonneg hbd.1 (by omega);have p1:n*base<=n*16:=Int.mul_le_mul_of_nonneg_left hb1 hbd.1;by_cases hlt:k<s.size
      . have hb:=s[k].toNat_lt;have hx:=Ch.uV s[k];by_cases hd:0<=Ch.hex s[k].toNat∧Ch.hex s[k].toNat<base
        . have HE:Hid (Ch.FK base s[k]=true):=by unfold Hid Ch.FK;rw[aI hd.1,aI hd.2];rfl
          have hd1:=aJ (by omega);have hd2:=aJ (by omega);go_wp2_with (go_at_call 261;refine(Qf _ _ (by omega) (by omega)).mono ?_;rintro e w' ⟨rfl,rfl⟩)
          go_round
          case rel=>exact⟨k+1,by omega,by go_num,by rw[Ch.nD s k hlt,Ch.CF,HN,HE.o];rfl,by rw[Ch.nD s k hlt,Ch.MH,Hn.o]⟩
          case measure=>simp[intOf];omega
        . have HE:Hid (Ch.FK base s[k]=false):=by
           unfold Hid Ch.FK;by_cases hz:0<=Ch.hex s[k].toNat
           . rw[aJ (show ¬Ch.hex s[k].toNat<base from fun h=>hd ⟨hz,h⟩)];simp
           . rw[aJ hz];rfl
          by_cases hz:0<=Ch.hex s[k].toNat;all_goals
           go_wp2_with (go_at_call 261;refine(Qf _ _ (by omega) (by omega)).mono ?_;rintro e w' ⟨rfl,rfl⟩)
           all_goals first | omega | (go_ret2;exact⟨Cr (Ch.zS _ _ _ (Ch.uU _ s k hlt HE.o)),rfl⟩)
      . go_wp2;go_ret2;exact⟨Cr (by rw[<-Hn.o,Ch.yD s k (by omega)];exact Ch.xM _ _ _ (Ch.ne_nil s (by omega)) (Int.not_lt.2 HL) (by rw[<-HN,Ch.yD s k (by omega)])),rfl⟩
theorem yZ (s:ay)(w:World)(hs:s.size<=maxLen):
 Calls prog 358 #[.string s] w fun e w'=>e=.returned (.tuple #[.int .i64 (Ch.number 16 6 s.data.toList).1,.bool (Ch.number 16 6 s.data.toList).2])∧w'=w:=by
 have h:=Dw s 16 6 w hs (by decide) (by decide) (by decide) (by decide);generalize Ch.number 16 6 s.data.toList=p at h;go_enter func358,ntmps358;go_wp2_with (go_at_call 224;refine h.mono ?_;rintro e w' ⟨rfl,rfl⟩)
 go_ret2;exact⟨rfl,rfl⟩
theorem vK (c:Int)(w:X):
 Calls prog 289 #[I .u8 c] w fun e w'=>e=Y (.bool (Ch.capital c))∧w'=w:=by
 go_enter func289,ntmps289;go_wp2;all_goals go_ret
 all_goals refine⟨iN ?_,rfl⟩
 all_goals (simp[Ch.capital];try omega)
theorem Dx (c:Int)(w:X):
 Calls prog 299 #[I .u8 c] w fun e w'=>e=Y (.bool (Ch.letter c))∧w'=w:=by
 go_enter func299,ntmps299;go_wp2_with (go_at_call 289;refine(vK _ _).mono ?_;rintro e w' ⟨rfl,rfl⟩)
 all_goals go_ret
 all_goals refine⟨iN ?_,rfl⟩
 all_goals (unfold Ch.letter;first | (rw[aI (show 97<=c by omega)];simp;try omega) | (rw[aJ (show ¬97<=c by omega)];simp;try omega))
theorem wS (c:Int)(w:X):
 Calls prog 270 #[I .u8 c] w fun e w'=>e=Y (.bool (Ch.token c))∧w'=w:=by
 have a:=xD ⟨#[33,35,36,37,38,39,42,43,45,46,94,95,96,124,126]⟩ c w;have b:Hid (Lib.indexByte [33,35,36,37,38,39,42,43,45,46,94,95,96,124,126] c.toNat.toUInt8=Lib.indexByte Ch.marks c.toNat.toUInt8):=rfl;generalize (Lib.indexByte [33,35,36,37,38,39,42,43,45,46,94,95,96,124,126] c.toNat.toUInt8)=r at a b;cases f:Ch.digit c
 . cases g:Ch.letter c;all_goals
    have d:Ch.token c=(Ch.digit c||Ch.letter c||decide (0<=r)):=by rw[b.o];rfl
    go_enter func270,ntmps270;go_wp2_with (first | (go_at_call 290;refine(wR _ _).mono ?_;rintro e w' ⟨rfl,rfl⟩) | (go_at_call 299;refine(Dx _ _).mono ?_;rintro e w' ⟨rfl,rfl⟩) | (go_at_call 300;refine a.mono ?_;rintro e w' ⟨rfl,rfl⟩))
    go_ret;refine⟨iN ?_,rfl⟩;rw[d,f,g];simp
 . have d:Ch.token c=(Ch.digit c||Ch.letter c||decide (0<=r)):=by rw[b.o];rfl
   go_enter func270,ntmps270;go_wp2_with (first | (go_at_call 290;refine(wR _ _).mono ?_;rintro e w' ⟨rfl,rfl⟩) | (go_at_call 299;refine(Dx _ _).mono ?_;rintro e w' ⟨rfl,rfl⟩) | (go_at_call 300;refine a.mono ?_;rintro e w' ⟨rfl,rfl⟩))
   go_ret;refine⟨iN ?_,rfl⟩;rw[d,f];simp
theorem RN (s:ay)(w:World)(hs:s.size<=maxLen):
 Calls prog 269 #[.string s,.func (.func 270) #[] #[]] w fun e w'=>e=.returned (.bool (Ch.CB s.data.toList))∧w'=w:=by
 unfold maxLen at hs;go_enter func269,ntmps269;go_wp2;go_loop [8] (fun i=>∃k:Nat,k<=s.size∧i=.int .i64 k∧((s.data.toList.take k).all fun b=>Ch.token b.toNat)=true) (fun i=>s.size-(intOf i).toNat)
 case atStart=>exact⟨0,aA _,rfl,rfl⟩
 case round =>
  obtain⟨k,hk,rfl,hno⟩:=hrel;have HN:((s.data.toList.take k).all fun b=>Ch.token b.toNat)=true:=hno;by_cases hlt:k<s.size
  . cases he:Ch.token (s[k].toNat:Int)
    . have HE:Ch.token (s[k].toNat:Int)=false:=he;go_wp2_with (go_at_call 270;refine(wS _ _).mono ?_;rintro e w' ⟨rfl,rfl⟩)
      go_ret;refine⟨iN ?_,rfl⟩;exact(Ch.uU (fun b=>Ch.token b.toNat) s k hlt HE).symm
    . have HE:Ch.token (s[k].toNat:Int)=true:=he;go_wp2_with (go_at_call 270;refine(wS _ _).mono ?_;rintro e w' ⟨rfl,rfl⟩)
      go_round
      case rel=>exact⟨k+1,by omega,by go_num,by rw[Ch.nD s k hlt,Ch.CF,HN,HE];rfl⟩
      case measure=>simp[intOf];omega
  . go_wp2;go_ret;refine⟨iN ?_,rfl⟩;rw[<-HN,Ch.yD s k (by omega)];rfl
theorem rA (s:ay)(w:World)(hs:s.size<=maxLen):
 Calls prog 233 #[.string s] w fun e w'=>e=.returned (.bool (Ch.isToken s.data.toList))∧w'=w:=by
 by_cases h0:s.size=0
 . obtain rfl:=Ch.empty_eq s h0;go_enter func233,ntmps233;go_wp2;go_ret;exact⟨rfl,rfl⟩
 . have hne:=Ch.mP s (by omega);have HT:Hid (Ch.CB s.data.toList=Ch.isToken s.data.toList):=by
    unfold Hid Ch.isToken Ch.CB;rw[<-Lib.toList_data,hne];simp
   go_enter func233,ntmps233;go_wp2_with (go_at_call 269;refine(RN _ _ hs).mono ?_;rintro e w' ⟨rfl,rfl⟩)
   go_ret;exact⟨iN HT.o,rfl⟩
theorem Kv (s:ay)(w:World)(hs:s.size<=maxLen):
 Calls prog 269 #[.string s,.func (.func 230) #[] #[]] w fun e w'=>e=.returned (.bool (Ch.gV s.data.toList))∧w'=w:=by
 unfold maxLen at hs;go_enter func269,ntmps269;go_wp2;go_loop [8] (fun i=>∃k:Nat,k<=s.size∧i=.int .i64 k∧((s.data.toList.take k).all fun b=>Ch.visible b.toNat)=true) (fun i=>s.size-(intOf i).toNat)
 case atStart=>exact⟨0,aA _,rfl,rfl⟩
 case round =>
  obtain⟨k,hk,rfl,hno⟩:=hrel;have HN:((s.data.toList.take k).all fun b=>Ch.visible b.toNat)=true:=hno;by_cases hlt:k<s.size
  . cases he:Ch.visible (s[k].toNat:Int)
    . have HE:Ch.visible (s[k].toNat:Int)=false:=he;go_wp2_with (go_at_call 230;refine(ru _ _).mono ?_;rintro e w' ⟨rfl,rfl⟩)
      go_ret;refine⟨iN ?_,rfl⟩;exact(Ch.uU (fun b=>Ch.visible b.toNat) s k hlt HE).symm
    . have HE:Ch.visible (s[k].toNat:Int)=true:=he;go_wp2_with (go_at_call 230;refine(ru _ _).mono ?_;rintro e w' ⟨rfl,rfl⟩)
      go_round
      case rel=>exact⟨k+1,by omega,by go_num,by rw[Ch.nD s k hlt,Ch.CF,HN,HE];rfl⟩
      case measure=>simp[intOf];omega
  . go_wp2;go_ret;refine⟨iN ?_,rfl⟩;rw[<-HN,Ch.yD s k (by omega)];rfl
theorem kJ (s:ay)(w:World)(hs:s.size<=maxLen):
 Calls prog 238 #[.string s] w fun e w'=>e=.returned (.bool (Ch.gV s.data.toList))∧w'=w:=by
 go_enter func238,ntmps238;go_wp2_with (go_at_call 269;refine(Kv _ _ hs).mono ?_;rintro e w' ⟨rfl,rfl⟩)
 go_ret;exact⟨rfl,rfl⟩
def lJ (s:ay)(k j:Nat):Value:=I .u8 ((if j<k then Ch.BN (s.data.toList.getD j 0) else s.data.toList.getD j 0).toNat:Int)
theorem II (s:ay)(k j:Nat)(h:Ch.BN (s.data.toList.getD k 0)=s.data.toList.getD k 0):some (lJ s k j)=some (lJ s (k+1) j):=by grind [Ch.BN,lJ]
theorem Fa (s:ay)(k j:Nat)(h:j≠k):some (lJ s k j)=some (lJ s (k+1) j):=by grind [lJ]
theorem oF (s:ay)(w:World)(hs:s.size<=maxLen):
 Calls prog 260 #[.string s] w fun e w'=>e=.returned (.string ⟨(Ch.lower s.data.toList).toArray⟩)∧Below w.heap.size w w':=by
 unfold maxLen at hs;have uN:=run_bytes_of_string (P:=prog) w 9 31 5 s underlying9 underlying31 underlying5;generalize grownCap w s.size 0 5=cap at uN;have hat:∀j,j<s.size->(bytesRow s cap)[j]? = some (lJ s 0 j):=fun j hj=>by
  rw[bytesRow_at s cap j hj];unfold lJ;rw[if_neg (by omega)];have e:s.data.toList.getD j 0=s.data[j]'hj:=by
   simp[List.getD,hj]
  rw[e]
 have hsz:s.size<=(bytesRow s cap).size:=by unfold bytesRow;simp
 generalize bytesRow s cap=C at uN hat hsz;go_enter func260,ntmps260;go_wp2;have hB0:Below w.heap.size w (w.alloc (.cells C 5 (C.size,C.size+1))).drew:=((eY _ _).alloc (aM _) _).drew;have hc0:∀j,j<s.size->((w.alloc (.cells C 5 (C.size,C.size+1))).drew).cell? ⟨w.heap.size,j,none⟩=some (lJ s 0 j):=fun j hj=>by
  rw[<-hat j hj];exact World.cell?_alloc_mark w C 5 _ j
 have hf0:∀j,j<s.size->((w.alloc (.cells C 5 (C.size,C.size+1))).drew).frozen? ⟨w.heap.size,j,none⟩=false:=fun j hj=>by
  refine(World.frozen?_alloc_mark w C 5 C.size (C.size+1) j).trans ?_;rw[aJ (by omega)];rfl
 go_loopw [10] (fun i wr=>∃k:Nat,k<=s.size∧i=.int .i64 k∧Below w.heap.size w wr∧(∀j,j<s.size->wr.cell? ⟨w.heap.size,j,none⟩=some (lJ s k j))∧(∀j,j<s.size->wr.frozen? ⟨w.heap.size,j,none⟩=false)) (fun i _=>s.size-(intOf i).toNat)
 case atStart=>exact⟨0,aA _,rfl,hB0,hc0,hf0⟩
 case round =>
  obtain⟨k,hk,rfl,hbl,hcs,hfs⟩:=hrel;have HC:Hid (∀j,j<s.size->wr.cell? ⟨w.heap.size,j,none⟩=some (lJ s k j)):=hcs;have HF:Hid (∀j,j<s.size->wr.frozen? ⟨w.heap.size,j,none⟩=false):=hfs;clear hcs hfs;by_cases hlt:k<s.size
  . have hb:=s[k].toNat_lt;have e0:s.data.toList.getD k 0=s[k]:=by
     have:s.data.toList[k]? = some s[k]:=dz (by simpa using hlt);simp[List.getD,this]
    have hcell:wr.cell? ⟨w.heap.size,k,none⟩=some (.int .u8 s[k].toNat):=by
     rw[HC.o k hlt];unfold lJ;rw[if_neg (by omega),e0]
    have hfz:=HF.o k hlt;have H0:s.data.toList.getD k 0=s[k]:=e0;cases hcap:Ch.capital s[k].toNat
    . have HL:Hid (Ch.BN s[k]=s[k]):=Ch.YD _ hcap;go_wp2_with (go_at_call 289;refine(vK _ _).mono ?_;rintro e w' ⟨rfl,rfl⟩)
      go_roundw
      case rel=>exact⟨k+1,by omega,by go_num,hbl,fun j hj=>by rw[HC.o j hj];exact II s k j (by rw[H0,HL.o]),HF.o⟩
      case measure=>simp[intOf];omega
    . have HL:Hid (((Ch.BN s[k]).toNat:Int)=s[k].toNat-65+97):=Ch.UR _ hcap;have hcr:65<=s[k].toNat∧s[k].toNat<=90:=by
       unfold Ch.capital at hcap;rw[cO,bP,bP] at hcap;omega
      go_wp2_with (go_at_call 289;refine(vK _ _).mono ?_;rintro e w' ⟨rfl,rfl⟩)
      go_roundw
      case rel =>
       refine⟨k+1,by omega,by go_num,hbl.setCell (aM _) _,fun j hj=>?_,fun j hj=>by rw[World.frozen?_setCell];exact HF.o j hj⟩;by_cases hjk:j=k
       . subst hjk;rw[fA (h:=hcell)];unfold lJ;rw[if_pos (by omega),H0,HL.o]
       . rw[fB (h:=by intro h;injection h with _ h2;exact hjk h2.symm),HC.o j hj];exact Fa s k j hjk
      case measure=>simp[intOf];omega
  . obtain rfl:k=s.size:=by omega
    have hback:(convert 31 9 (.slice (some ⟨w.heap.size,0,none⟩) s.size cap)).run prog wr=.ok (.string ⟨(Ch.lower s.data.toList).toArray⟩) wr:=by
     have h:=run_convert_bytes_back (P:=prog) wr 31 9 5 ⟨w.heap.size,0,none⟩ cap (Ch.lower s.data.toList) underlying31 underlying5 underlying9 (fun j hj=>by
      have hj':j<s.size:=by rw[Ch.nO,Ch.iK] at hj;exact hj
      have ha:((⟨w.heap.size,0,none⟩:Addr).add j)=⟨w.heap.size,j,none⟩:=by unfold Addr.add;simp;omega
      rw[ha,HC.o j hj'];unfold lJ;rw[if_pos hj'];have e:(Ch.lower s.data.toList)[j]=Ch.BN (s.data.toList.getD j 0):=by
       simp[Ch.lower,List.getD,hj']
      rw[e])
     rw[Ch.nO,Ch.iK] at h;exact h
    generalize hr:(⟨(Ch.lower s.data.toList).toArray⟩:ay)=r at hback;have HR:(⟨(Ch.lower s.data.toList).toArray⟩:ay)=r:=hr;go_wp2;go_ret;exact⟨yU HR.symm,hbl⟩
theorem nV (s:ay)(w:World)(hs:s.size<=maxLen):
 Calls prog 173 #[.string s] w fun e w'=>e=.returned (.tuple #[.int .i64 (Ch.number 10 9 s.data.toList).1,.bool (Ch.number 10 9 s.data.toList).2])∧w'=w:=by
 have h:=Dw s 10 9 w hs (by decide) (by decide) (by decide) (by decide);generalize Ch.number 10 9 s.data.toList=p at h;go_enter func173,ntmps173;go_wp2_with (go_at_call 224;refine h.mono ?_;rintro e w' ⟨rfl,rfl⟩)
 go_ret2;exact⟨rfl,rfl⟩
theorem NA:(prog.info? 240).map (fun i=>(i.zero,i.size,i.bytes))=some (some (.agg #[V ⟨#[]⟩,V ⟨#[]⟩]),2,32):=by kernel_rfl
theorem R6 (a b:ay):(a.toList==b.toList)=decide (a.data.toList=b.data.toList):=by
 rw[Lib.toList_data,Lib.toList_data,aH];simp
def lD (ps:au):List Pm.rT:=ps.map fun p=>(p.1.data.toList,p.2.data.toList)
theorem rH (a:au):(lD a).length=a.length:=by simp[lD]
theorem KQ (a b:au):lD (a++b)=lD a++lD b:=by simp[lD]
theorem D8 (n:Int)(w:X):
 Calls prog 189 #[I .i64 n] w fun e w'=>e=Y (V ⟨(Rp.word n).toArray⟩)∧w'=w:=by
 by_cases b:n=200
 . subst b;go_enter func189,ntmps189;go_wp2;go_ret;exact⟨rfl,rfl⟩
 by_cases c:n=201
 . subst c;go_enter func189,ntmps189;go_wp2;go_ret;exact⟨rfl,rfl⟩
 by_cases d:n=204
 . subst d;go_enter func189,ntmps189;go_wp2;go_ret;exact⟨rfl,rfl⟩
 by_cases f:n=400
 . subst f;go_enter func189,ntmps189;go_wp2;go_ret;exact⟨rfl,rfl⟩
 by_cases g:n=404
 . subst g;go_enter func189,ntmps189;go_wp2;go_ret;exact⟨rfl,rfl⟩
 by_cases i:n=405
 . subst i;go_enter func189,ntmps189;go_wp2;go_ret;exact⟨rfl,rfl⟩
 by_cases j:n=409
 . subst j;go_enter func189,ntmps189;go_wp2;go_ret;exact⟨rfl,rfl⟩
 by_cases k:n=412
 . subst k;go_enter func189,ntmps189;go_wp2;go_ret;exact⟨rfl,rfl⟩
 by_cases l:n=413
 . subst l;go_enter func189,ntmps189;go_wp2;go_ret;exact⟨rfl,rfl⟩
 by_cases m:n=415
 . subst m;go_enter func189,ntmps189;go_wp2;go_ret;exact⟨rfl,rfl⟩
 by_cases a:n=507
 . subst a;go_enter func189,ntmps189;go_wp2;go_ret;exact⟨rfl,rfl⟩
 have q:Rp.word n=[]:=by
  refine Rp.Ib Rp.tab n (fun p o=>?_);simp only[Rp.tab,dZ,List.not_mem_nil,or_false] at o;rcases o with rfl | rfl | rfl | rfl | rfl | rfl | rfl | rfl | rfl | rfl | rfl;all_goals (intro e;simp only at e;omega)
 have s:(n==200)=F:=by rw[aR];exact b
 have t:(n==201)=F:=by rw[aR];exact c
 have u:(n==204)=F:=by rw[aR];exact d
 have v:(n==400)=F:=by rw[aR];exact f
 have x:(n==404)=F:=by rw[aR];exact g
 have y:(n==405)=F:=by rw[aR];exact i
 have z:(n==409)=F:=by rw[aR];exact j
 have B:(n==412)=F:=by rw[aR];exact k
 have C:(n==413)=F:=by rw[aR];exact l
 have D:(n==415)=F:=by rw[aR];exact m
 have r:(n==507)=F:=by rw[aR];exact a
 go_enter func189,ntmps189;go_wp2;go_ret;exact⟨by rw[q];rfl,rfl⟩
end Go.Proofs.YthhklgjjnaeaoaaGreatDoor