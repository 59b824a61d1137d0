import Derived.Test.YtodmelffkfbalaaGreatDoorAm
import Derived.WalkSpells
import Derived.WalkLawsBesides
import Derived.BigQuiet
import Derived.Lib.IndexBytes
import Derived.Test.YtodmelffkfbalaaGreatDoorPk3
import Derived.Test.YtodmelffkfbalaaGreatDoorProg
open Go.Value renaming int->I,string->V
open Go.IntKind renaming i64->J
open Go.Obj renaming cells->K
open Go.Ending renaming returned->Y
open Option renaming some->M
open Bool renaming false->F
open Go renaming World->X
set_option maxHeartbeats 2000000
set_option maxRecDepth 100000
open Go.Proofs.Tryz
namespace Go.Proofs.YtodmelffkfbalaaGreatDoor
open Go.RowKit
theorem fy {a b:Bool}(h:a=b):Ending.returned (.bool a)=Y (.bool b):=by rw[h]
theorem jQ {k:IntKind}{a b:Int}(h:a=b):Ending.returned (I k a)=Y (I k b):=by rw[h]
theorem mE {a b:ae}(h:a=b):Ending.returned (V a)=Y (V b):=by rw[h]
theorem wj {k:IntKind}{a:Int}{b:Bool}{p:Int×Bool}(h:p=(a,b)):Ending.returned (.tuple #[I k a,.bool b])=Y (.tuple #[I k p.1,.bool p.2]):=by rw[h]
theorem Uc {p:Prop}(h:p):Hid p:=h
theorem gF {x:Int}(a:-9223372036854775808<=x)(b:x<=9223372036854775807):IntKind.i64.wrap x=x:=by rw[IntKind.wrap_i64];omega
theorem FO {a b:UInt8}(h:a≠b):((a.toNat:Int) != b.toNat)=true:=by
 rw[dh];intro e;exact h (iO.1 (by omega))
theorem FP {a b:UInt8}(h:a=b):((a.toNat:Int) != b.toNat)=F:=by subst h;simp
theorem ot {a b:UInt8}(h:a≠b):((a.toNat:Int)==b.toNat)=F:=by
 rw[aO];intro e;exact h (iO.1 (by omega))
theorem au {w a b:X}(h:Below w.heap.size w a)(k:Below a.heap.size a b):Below w.heap.size w b:=h.trans (k.mono h.size)
theorem iP {w a:X}(h:∃n,a=w.drewN n):Below w.heap.size w a:=by
 obtain⟨n,rfl⟩:=h;exact⟨rfl,rfl,rfl,am _,fun _ _=>rfl⟩
def Tc:Value->Nat | V x=>x.size | _=>0
def lW (p:ab×Nat):Value:=.tuple #[V ⟨p.1.toArray⟩,I J (p.2:Int)]
theorem pc {v:Value}{p q:ab×Nat}(a:q=p)(h:v=lW p):Ending.returned v=Y (lW q):=by rw[h,a]
theorem Qk {w:X}{o:Obj}{w':X}(h:∃n,w'=(w.alloc o).drewN n):Below w.heap.size w w':=by
 obtain⟨n,rfl⟩:=h;exact((ar _ _).alloc (am _) _).trans ⟨rfl,rfl,rfl,am _,fun _ _=>rfl⟩
theorem aa {p : Prop}(h : p): Hid p := h
theorem _root_.Go.RowKit.Hid.o {p : Prop}(h : Hid p): p := h
theorem vH (c:Int)(w:X):
 Calls prog 90 #[I .u8 c] w fun e w'=>e=Y (.bool (ex c))∧w'=w:=by
 by_cases b:c=9
 . subst b;go_enter func90,ntmps90;go_wp2;go_ret;exact⟨fy (by decide),rfl⟩
 . have a:(c==9)=F:=aO.2 b;go_enter func90,ntmps90;go_wp2;all_goals go_ret
   all_goals refine⟨fy ?_,rfl⟩
   all_goals (unfold ex;rw[a];first | (rw[bq (show 32<=c by omega)];simp) | (rw[aX (show ¬32<=c by omega)];simp))
theorem Ij (s:ae)(c:Int)(w:X):
 Calls prog 255 #[V s,I .u8 c] w fun e w'=>e=Y (I J (Lib.indexByte s.data.toList c.toNat.toUInt8))∧w'=w:=by
 go_enter func255,ntmps255;go_wp2;rw[run_callFunc_extern func298 (by kernel_rfl) (by kernel_rfl) (by kernel_rfl) (e:=Extern.BytealgIndexByte.indexByte) (by kernel_rfl),Lib.run_indexByteString];simp only[Result.andThen];rw[Oper.upon_value];go_wp2;go_ret;exact⟨rfl,rfl⟩
theorem Ib (s:ae)(c:Int)(w:X):
 Calls prog 340 #[V s,I .u8 c] w fun e w'=>e=Y (I J (Lib.indexByte s.data.toList c.toNat.toUInt8))∧w'=w:=by
 go_enter func340,ntmps340;go_wp2_with (go_at_call 255;refine(Ij _ _ _).mono ?_;rintro e w' ⟨rfl,rfl⟩)
 go_ret;exact⟨rfl,rfl⟩
theorem Hq (s:ae)(c:UInt8)(w:X):
 Calls prog 197 #[V s,V ⟨#[c]⟩] w fun e w'=>e=Y (I J (Lib.indexByte s.data.toList c))∧w'=w:=by
 go_enter func197,ntmps197;go_wp2_with (go_at_call 255;refine(Ij _ _ _).mono ?_;rintro e w' ⟨rfl,rfl⟩)
 . have h:([c]==s.toList)=true:=by assumption
   go_ret;refine⟨?_,rfl⟩;have e:s.data.toList=[c]:=by rw[<-Lib.toList_data];exact(cJ.1 h).symm
   rw[e];simp[Lib.indexByte]
 . go_ret;exact⟨rfl,rfl⟩
def jY (c:UInt8)(s:ae):Value :=
 if aV c s.data.toList=s.size then .tuple #[V s,V ⟨#[]⟩,.bool F]
 else .tuple #[V (s.extract 0 (aV c s.data.toList)),V (s.extract (aV c s.data.toList+1) s.size),.bool true]
theorem Qn (s:ae)(c:UInt8)(w:World)(hs:s.size<=maxLen):
 Calls prog 261 #[.string s,.string ⟨#[c]⟩] w fun e w'=>e=.returned (jY c s)∧∃n,w'=w.drewN n:=by
 have HI:=Hq s c w;have hl:s.data.toList.length=s.size:=by rw[cI];rfl
 unfold maxLen at hs;rcases Dg s.data.toList c with ⟨h1,h2⟩ | ⟨h1,h2⟩
 . rw[h1] at HI;have HR:Hid (jY c s=.tuple #[.string s,.string ⟨#[]⟩,.bool false]):=by unfold Hid jY;rw[if_pos (by rw[h2,hl])]
   go_enter func261,ntmps261;go_wp2_with fail;refine HI.mono ?_;rintro e w1 ⟨rfl,hw⟩;subst hw;go_wp2;go_ret3
   exact⟨by rw[HR.o];rfl,0,rfl⟩
 . rw[h1] at HI;rw[hl] at h2;have HR:Hid (jY c s=.tuple #[.string (s.extract 0 (aV c s.data.toList)),.string (s.extract (aV c s.data.toList+1) s.size),.bool true]):=by unfold Hid jY;rw[if_neg (by omega)]
   generalize aV c s.data.toList=k at HI HR h2;have c1:(0:Int)<=k:=by omega
   have c2:(k:Int)<=s.size:=by omega
   have c3:(k:Int)+1<=s.size:=by omega
   have c4:IntKind.i64.wrap ((k:Int)+1)=(k:Int)+1:=gF (by omega) (by omega);have c5:(0:Int)<=(k:Int)+1:=by omega
   have c6:((k:Int)+1).toNat=k+1:=by omega
   go_enter func261,ntmps261;go_wp2_with fail;refine HI.mono ?_;rintro e w1 ⟨rfl,hw⟩;subst hw;go_wp2;go_quiet (fail)
   go_wp2;go_ret3
   exact⟨by rw[HR.o];rfl,nq,rfl⟩
theorem rB (s:ae)(c:UInt8)(w:World)(hs:s.size<=maxLen):
 Calls prog 201 #[.string s,.string ⟨#[c]⟩] w fun e w'=>e=.returned (jY c s)∧∃n,w'=w.drewN n:=by
 have HC:=Qn s c w hs;unfold jY at HC ⊢;split at HC
 . rename_i h;rw[if_pos h];go_enter func201,ntmps201;go_wp2_with fail;refine HC.mono ?_;rintro e w1 ⟨rfl,n,hw⟩;subst hw;go_wp2;go_ret3
   exact⟨rfl,n,rfl⟩
 . rename_i h;rw[if_neg h];go_enter func201,ntmps201;go_wp2_with fail;refine HC.mono ?_;rintro e w1 ⟨rfl,n,hw⟩;subst hw;go_wp2;go_ret3
   exact⟨rfl,n,rfl⟩
theorem yr (c:Int)(w:X):
 Calls prog 262 #[I .u8 c] w fun e w'=>e=Y (.bool (nK c))∧w'=w:=by
 go_enter func262,ntmps262;go_wp2;all_goals go_ret
 all_goals refine⟨fy ?_,rfl⟩
 all_goals (simp[nK];try omega)
theorem Aw (c:Int)(w:X)(f:0<=c)(g:c<=255):
 Calls prog 204 #[I .u8 c] w fun e w'=>e=Y (I J (aF c))∧w'=w:=by
 have b:Hid (aF c=if nK c then c-48 else if decide (97<=c)&&decide (c<=102) then c-87 else if decide (65<=c)&&decide (c<=70) then c-55 else -1):=rfl;cases a:nK c
 . go_enter func204,ntmps204;go_wp2_with (go_at_call 262;refine(yr _ _).mono ?_;rintro e w' ⟨rfl,rfl⟩)
   all_goals go_ret
   all_goals refine⟨jQ ?_,rfl⟩
   all_goals (rw[b.o,a];simp only[xP,if_false,hQ,bN];repeat' split) <;> omega
 . have d:48<=c∧c<=57:=by simpa[nK] using a
   go_enter func204,ntmps204;go_wp2_with (go_at_call 262;refine(yr _ _).mono ?_;rintro e w' ⟨rfl,rfl⟩)
   go_ret;refine⟨jQ ?_,rfl⟩;rw[b.o,a,if_pos rfl]
theorem CY (s:ae)(base most:Int)(w:World)(hs:s.size<=maxLen)(hb0:2<=base)(hb1:base<=16)(hm0:0<=most)(hm1:most<=9):
 Calls prog 268 #[.string s,.int .i64 base,.int .i64 most] w fun e w'=>e=.returned (.tuple #[.int .i64 (bB base most s.data.toList).1,.bool (bB base most s.data.toList).2])∧w'=w:=by
 unfold maxLen at hs;by_cases h0:s.size=0
 . obtain rfl:=ql s h0;go_enter func268,ntmps268;go_wp2;go_ret2;exact⟨wj (yQ _ _ _ (Or.inl rfl)),rfl⟩
 . have hne:=qm s (by omega);by_cases hlong:most<s.size
   . have HL:most<s.data.toList.length:=by rw[cA];exact hlong
     go_enter func268,ntmps268;go_wp2;go_ret2;exact⟨wj (yQ _ _ _ (Or.inr HL)),rfl⟩
   . have hlg:decide (most<(s.size:Int))=false:=aX hlong;have HL:¬most<s.data.toList.length:=by rw[cA];exact hlong
     go_enter func268,ntmps268;go_wp2;go_loop [8,21] (fun n i=>∃k:Nat,k<=s.size∧i=.int .i64 k∧(s.data.toList.take k).all (gy base)=true∧n=.int .i64 (lq base (s.data.toList.take k))) (fun _ i=>s.size-(intOf i).toNat)
     case atStart=>exact⟨0,ax _,rfl,rfl,rfl⟩
     case round =>
      obtain⟨k,hk,rfl,hall,rfl⟩:=hrel;have HN:(s.data.toList.take k).all (gy base)=true:=hall;have hbd:=wi base (by omega) hb1 _ hall (by have:(s.data.toList.take k).length<=k:=List.length_take_le _ _;omega);generalize hn:lq base (s.data.toList.take k)=n at hbd;have Hn:Hid (lq base (s.data.toList.take k)=n):=hn;have p0:0<=n*base:=Int.mul_nonneg hbd.1 (by omega);have p1:n*base<=n*16:=Int.mul_le_mul_of_nonneg_left hb1 hbd.1;by_cases hlt:k<s.size
      . have hb:=s[k].toNat_lt;have hx:=oJ s[k];by_cases hd:0<=aF s[k].toNat∧aF s[k].toNat<base
        . have HE:Hid (gy base s[k]=true):=by unfold Hid gy;rw[bq hd.1,bq hd.2];rfl
          have hd1:=aX (by omega);have hd2:=aX (by omega);go_wp2_with (go_at_call 204;refine(Aw _ _ (by omega) (by omega)).mono ?_;rintro e w' ⟨rfl,rfl⟩)
          go_round
          case rel=>exact⟨k+1,by omega,by go_num,by rw[tP s k hlt,yL,HN,HE.o];rfl,by rw[tP s k hlt,It,Hn.o]⟩
          case measure=>simp[intOf];omega
        . have HE:Hid (gy base s[k]=false):=by
           unfold Hid gy;by_cases hz:0<=aF s[k].toNat
           . rw[aX (show ¬aF s[k].toNat<base from fun h=>hd ⟨hz,h⟩)];simp
           . rw[aX hz];rfl
          by_cases hz:0<=aF s[k].toNat;all_goals
           go_wp2_with (go_at_call 204;refine(Aw _ _ (by omega) (by omega)).mono ?_;rintro e w' ⟨rfl,rfl⟩)
           all_goals first | omega | (go_ret2;exact⟨wj (yI _ _ _ (yR _ s k hlt HE.o)),rfl⟩)
      . go_wp2;go_ret2;exact⟨wj (by rw[<-Hn.o,tR s k (by omega)];exact yS _ _ _ (yP s (by omega)) (Int.not_lt.2 HL) (by rw[<-HN,tR s k (by omega)])),rfl⟩
theorem Il (s:ae)(w:World)(hs:s.size<=maxLen):
 Calls prog 385 #[.string s] w fun e w'=>e=.returned (.tuple #[.int .i64 (bB 16 6 s.data.toList).1,.bool (bB 16 6 s.data.toList).2])∧w'=w:=by
 have h:=CY s 16 6 w hs (by decide) (by decide) (by decide) (by decide);generalize bB 16 6 s.data.toList=p at h;go_enter func385,ntmps385;go_wp2_with (go_at_call 268;refine h.mono ?_;rintro e w' ⟨rfl,rfl⟩)
 go_ret2;exact⟨rfl,rfl⟩
theorem BK (c:Int)(w:X):
 Calls prog 331 #[I .u8 c] w fun e w'=>e=Y (.bool (oE c))∧w'=w:=by
 go_enter func331,ntmps331;go_wp2;all_goals go_ret
 all_goals refine⟨fy ?_,rfl⟩
 all_goals (simp[oE];try omega)
theorem Jl (c:Int)(w:X):
 Calls prog 339 #[I .u8 c] w fun e w'=>e=Y (.bool (rK c))∧w'=w:=by
 go_enter func339,ntmps339;go_wp2_with (go_at_call 331;refine(BK _ _).mono ?_;rintro e w' ⟨rfl,rfl⟩)
 all_goals go_ret
 all_goals refine⟨fy ?_,rfl⟩
 all_goals (unfold rK;first | (rw[bq (show 97<=c by omega)];simp;try omega) | (rw[aX (show ¬97<=c by omega)];simp;try omega))
theorem ys (c:Int)(w:X):
 Calls prog 312 #[I .u8 c] w fun e w'=>e=Y (.bool (lt c))∧w'=w:=by
 have a:=Ib ⟨#[33,35,36,37,38,39,42,43,45,46,94,95,96,124,126]⟩ c w;have b:Hid (Lib.indexByte [33,35,36,37,38,39,42,43,45,46,94,95,96,124,126] c.toNat.toUInt8=Lib.indexByte Ce c.toNat.toUInt8):=rfl;generalize (Lib.indexByte [33,35,36,37,38,39,42,43,45,46,94,95,96,124,126] c.toNat.toUInt8)=r at a b;cases f:nK c
 . cases g:rK c;all_goals
    have d:lt c=(nK c||rK c||decide (0<=r)):=by rw[b.o];rfl
    go_enter func312,ntmps312;go_wp2_with (first | (go_at_call 262;refine(yr _ _).mono ?_;rintro e w' ⟨rfl,rfl⟩) | (go_at_call 339;refine(Jl _ _).mono ?_;rintro e w' ⟨rfl,rfl⟩) | (go_at_call 340;refine a.mono ?_;rintro e w' ⟨rfl,rfl⟩))
    go_ret;refine⟨fy ?_,rfl⟩;rw[d,f,g];simp
 . have d:lt c=(nK c||rK c||decide (0<=r)):=by rw[b.o];rfl
   go_enter func312,ntmps312;go_wp2_with (first | (go_at_call 262;refine(yr _ _).mono ?_;rintro e w' ⟨rfl,rfl⟩) | (go_at_call 339;refine(EI _ _).mono ?_;rintro e w' ⟨rfl,rfl⟩) | (go_at_call 340;refine a.mono ?_;rintro e w' ⟨rfl,rfl⟩))
   go_ret;refine⟨fy ?_,rfl⟩;rw[d,f];simp
theorem PH (s:ae)(w:World)(hs:s.size<=maxLen):
 Calls prog 311 #[.string s,.func (.func 312) #[] #[]] w fun e w'=>e=.returned (.bool (yJ s.data.toList))∧w'=w:=by
 unfold maxLen at hs;go_enter func311,ntmps311;go_wp2;go_loop [8] (fun i=>∃k:Nat,k<=s.size∧i=.int .i64 k∧((s.data.toList.take k).all fun b=>lt b.toNat)=true) (fun i=>s.size-(intOf i).toNat)
 case atStart=>exact⟨0,ax _,rfl,rfl⟩
 case round =>
  obtain⟨k,hk,rfl,hno⟩:=hrel;have HN:((s.data.toList.take k).all fun b=>lt b.toNat)=true:=hno;by_cases hlt:k<s.size
  . cases he:lt (s[k].toNat:Int)
    . have HE:lt (s[k].toNat:Int)=false:=he;go_wp2_with (go_at_call 312;refine(ys _ _).mono ?_;rintro e w' ⟨rfl,rfl⟩)
      go_ret;refine⟨fy ?_,rfl⟩;exact(yR (fun b=>lt b.toNat) s k hlt HE).symm
    . have HE:lt (s[k].toNat:Int)=true:=he;go_wp2_with (go_at_call 312;refine(ys _ _).mono ?_;rintro e w' ⟨rfl,rfl⟩)
      go_round
      case rel=>exact⟨k+1,by omega,by go_num,by rw[tP s k hlt,yL,HN,HE];rfl⟩
      case measure=>simp[intOf];omega
  . go_wp2;go_ret;refine⟨fy ?_,rfl⟩;rw[<-HN,tR s k (by omega)];rfl
theorem yh (s:ae)(w:World)(hs:s.size<=maxLen):
 Calls prog 275 #[.string s] w fun e w'=>e=.returned (.bool (fi s.data.toList))∧w'=w:=by
 by_cases h0:s.size=0
 . obtain rfl:=ql s h0;go_enter func275,ntmps275;go_wp2;go_ret;exact⟨rfl,rfl⟩
 . have hne:=qm s (by omega);have HT:Hid (yJ s.data.toList=fi s.data.toList):=by
    unfold Hid fi yJ;rw[<-Lib.toList_data,hne];simp
   go_enter func275,ntmps275;go_wp2_with (go_at_call 311;refine(PH _ _ hs).mono ?_;rintro e w' ⟨rfl,rfl⟩)
   go_ret;exact⟨fy HT.o,rfl⟩
theorem Mt (s:ae)(w:World)(hs:s.size<=maxLen):
 Calls prog 311 #[.string s,.func (.func 90) #[] #[]] w fun e w'=>e=.returned (.bool (dP s.data.toList))∧w'=w:=by
 unfold maxLen at hs;go_enter func311,ntmps311;go_wp2;go_loop [8] (fun i=>∃k:Nat,k<=s.size∧i=.int .i64 k∧((s.data.toList.take k).all fun b=>ex b.toNat)=true) (fun i=>s.size-(intOf i).toNat)
 case atStart=>exact⟨0,ax _,rfl,rfl⟩
 case round =>
  obtain⟨k,hk,rfl,hno⟩:=hrel;have HN:((s.data.toList.take k).all fun b=>ex b.toNat)=true:=hno;by_cases hlt:k<s.size
  . cases he:ex (s[k].toNat:Int)
    . have HE:ex (s[k].toNat:Int)=false:=he;go_wp2_with (go_at_call 90;refine(vH _ _).mono ?_;rintro e w' ⟨rfl,rfl⟩)
      go_ret;refine⟨fy ?_,rfl⟩;exact(yR (fun b=>ex b.toNat) s k hlt HE).symm
    . have HE:ex (s[k].toNat:Int)=true:=he;go_wp2_with (go_at_call 90;refine(vH _ _).mono ?_;rintro e w' ⟨rfl,rfl⟩)
      go_round
      case rel=>exact⟨k+1,by omega,by go_num,by rw[tP s k hlt,yL,HN,HE];rfl⟩
      case measure=>simp[intOf];omega
  . go_wp2;go_ret;refine⟨fy ?_,rfl⟩;rw[<-HN,tR s k (by omega)];rfl
theorem rj (s:ae)(w:World)(hs:s.size<=maxLen):
 Calls prog 280 #[.string s] w fun e w'=>e=.returned (.bool (dP s.data.toList))∧w'=w:=by
 go_enter func280,ntmps280;go_wp2_with (go_at_call 311;refine(Mt _ _ hs).mono ?_;rintro e w' ⟨rfl,rfl⟩)
 go_ret;exact⟨rfl,rfl⟩
theorem PQ (s:ae)(w:X)(r:s.size<=2000):
 Calls prog 119 #[V s] w fun e w'=>e=Y (V ⟨(aY s.data.toList).toArray⟩)∧∃n,w'=w.drewN n:=by
 go_enter func119,ntmps119;go_wp2;go_loopw [3,4] (fun o i wr=>∃k n:Nat,∃x:ae,k<=s.size∧i=I J k∧o=V x∧x.data.toList=aY (s.data.toList.take k)∧wr=w.drewN n) (fun _ i _=>s.size-(intOf i).toNat)
 case atStart=>exact⟨0,0,⟨#[]⟩,ax _,rfl,rfl,rfl,rfl⟩
 case round =>
  obtain⟨k,n,x,t,rfl,rfl,f,rfl⟩:=hrel;have p:x.size<=2000:=by
   have:=qo f;rw[rL] at this;have u:(s.data.toList.take k).length<=k:=List.length_take_le _ _;omega
  have g:x.data.toList=aY (s.data.toList.take k):=f;by_cases b:k<s.size
  . go_wp2;go_loopw [5,6] (fun c i wr=>∃j n:Nat,∃y:ae,j<=26∧i=I J j∧c=V y∧y.data.toList=[ma s[k] j]∧wr=w.drewN n) (fun _ i _=>26-(intOf i).toNat)
    case atStart=>exact⟨0,n,_,ax _,rfl,rfl,by rw[Iw s k b,Iv],rfl⟩
    case round =>
     obtain⟨j,n,y,v,rfl,rfl,l,rfl⟩:=hrel;have q:y.size<=1:=by have:=qo l;simp at this;omega
     have m:y.data.toList=[ma s[k] j]:=l;by_cases a:j<26
     . go_wp2;go_quiet (fail)
       go_wp2
       . have d:(((((⟨#[65,66,67,68,69,70,71,72,73,74,75,76,77,78,79,80,81,82,83,84,85,86,87,88,89,90]⟩:ae)[j]'a).toNat:Nat):Int)==(s[k].toNat:Int))=true:=by assumption
         go_roundw
         case rel=>exact⟨j+1,n+nq,_,by omega,by go_num,rfl,Iz _ _ a d,by simp[World.drewN]⟩
         case measure=>simp[intOf];omega
       . have d:(((((⟨#[65,66,67,68,69,70,71,72,73,74,75,76,77,78,79,80,81,82,83,84,85,86,87,88,89,90]⟩:ae)[j]'a).toNat:Nat):Int)==(s[k].toNat:Int))=F:=by assumption
         go_roundw
         case rel=>exact⟨j+1,n+nq,y,by omega,by go_num,rfl,by rw[m,Iu _ _ a d],by simp[World.drewN]⟩
         case measure=>simp[intOf];omega
     . obtain rfl:j=26:=by omega
       go_wp2;go_roundw
       case rel=>exact⟨k+1,n,x++y,by omega,by go_num,rfl,by rw[jy,g,m,tP s k b,Ix];rfl,rfl⟩
       case measure=>simp[intOf];omega
  . go_wp2;go_ret;exact⟨mE (ph (by rw[g,tR s k (by omega)])),n,rfl⟩
theorem PR (b:UInt8)(w:X):
 Calls prog 92 #[I .u8 b.toNat] w fun e w'=>e=Y (I J (aF b.toNat))∧Below w.heap.size w w':=by
 have v:=b.toNat_lt;have t:(convert 31 9 (.slice (M ⟨w.heap.size,0,none⟩) 1 1)).run prog (w.alloc (K #[I .u8 b.toNat] 5))=.ok (V ⟨#[b]⟩) (w.alloc (K #[I .u8 b.toNat] 5)) :=
  run_convert_bytes_back (P:=prog) (w.alloc (K #[I .u8 b.toNat] 5)) 31 9 5 ⟨w.heap.size,0,none⟩ 1 [b] underlying31 underlying5 underlying9 (fun j p=>by
   obtain rfl:j=0:=by simp at p;exact p
   rw[show((⟨w.heap.size,0,none⟩:Addr).add 0)=⟨w.heap.size,0,none⟩ from rfl,World.cell?_alloc_at _ _ _ _ rfl];rfl)
 have a:=PQ ⟨#[b]⟩ (w.alloc (K #[I .u8 b.toNat] 5)) (by show 1<=2000;omega);rw[show(⟨(aY (⟨#[b]⟩:ae).data.toList).toArray⟩:ae)=⟨#[fA b]⟩ from rfl] at a;have c:Below w.heap.size w (w.alloc (K #[I .u8 b.toNat] 5)):=(ar _ _).alloc (am _) _;go_enter func92,ntmps92;go_wp2_with fail;refine a.mono ?_;rintro e u ⟨rfl,x,d⟩;have f:Below w.heap.size w u:=by rw[d];exact⟨c.os,c.tape,c.output,c.size,c.block⟩
 clear d c a t;go_wp2;go_loop [5] (fun i=>∃j:Nat,j<=16∧i=I J j∧∀m,m<j->fA b≠dQ.getD m 0) (fun i=>16-(intOf i).toNat)
 case atStart=>exact⟨0,ax _,rfl,fun m q=>absurd q (oW _)⟩
 case round =>
  obtain⟨j,p,rfl,r⟩:=hrel;have s:∀m,m<j->fA b≠dQ.getD m 0:=r;by_cases g:j<16
  . have k:=ID b j g;by_cases l:fA b=dQ.getD j 0
    . rw[bq l] at k;have n:Hid (aF b.toNat=j):=IC b j g l;clear l;go_wp2;go_ret;exact⟨jQ n.o.symm,f⟩
    . rw[aX l] at k;have n:fA b≠dQ.getD j 0:=l;go_wp2;go_round
      case rel=>exact⟨j+1,by omega,by go_num,fun m q=>by
       rcases eI m j with h | h
       . exact s m h
       . obtain rfl:m=j:=by omega
         exact n⟩
      case measure=>simp[intOf];omega
  . have n:Hid (aF b.toNat=-1):=IA b (fun m q=>s m (by omega));go_wp2;go_ret;exact⟨jQ n.o.symm,f⟩
def lj (s:ae)(k j:Nat):Value:=I .u8 ((if j<k then fA (s.data.toList.getD j 0) else s.data.toList.getD j 0).toNat:Int)
theorem LO (s:ae)(k j:Nat)(h:fA (s.data.toList.getD k 0)=s.data.toList.getD k 0):M (lj s k j)=M (lj s (k+1) j):=by grind [fA,lj]
theorem K1 (s:ae)(k j:Nat)(h:j≠k):M (lj s k j)=M (lj s (k+1) j):=by grind [lj]
theorem rs (s:ae)(w:World)(hs:s.size<=maxLen):
 Calls prog 305 #[.string s] w fun e w'=>e=.returned (.string ⟨(aY s.data.toList).toArray⟩)∧Below w.heap.size w w':=by
 unfold maxLen at hs;have rY:=run_bytes_of_string (P:=prog) w 9 31 5 s underlying9 underlying31 underlying5;generalize grownCap w s.size 0 5=cap at rY;have hat:∀j,j<s.size->(bytesRow s cap)[j]? = some (lj s 0 j):=fun j hj=>by
  rw[bytesRow_at s cap j hj];unfold lj;rw[if_neg (by omega)];have e:s.data.toList.getD j 0=s.data[j]'hj:=by
   simp[List.getD,hj]
  rw[e]
 have hsz:s.size<=(bytesRow s cap).size:=by unfold bytesRow;simp
 generalize bytesRow s cap=C at rY hat hsz;go_enter func305,ntmps305;go_wp2;have hB0:Below w.heap.size w (w.alloc (.cells C 5 (C.size,C.size+1))).drew:=((ar _ _).alloc (am _) _).drew;have hc0:∀j,j<s.size->((w.alloc (.cells C 5 (C.size,C.size+1))).drew).cell? ⟨w.heap.size,j,none⟩=some (lj s 0 j):=fun j hj=>by
  rw[<-hat j hj];exact World.cell?_alloc_mark w C 5 _ j
 have hf0:∀j,j<s.size->((w.alloc (.cells C 5 (C.size,C.size+1))).drew).frozen? ⟨w.heap.size,j,none⟩=false:=fun j hj=>by
  refine(World.frozen?_alloc_mark w C 5 C.size (C.size+1) j).trans ?_;rw[aX (by omega)];rfl
 go_loopw [10] (fun i wr=>∃k:Nat,k<=s.size∧i=.int .i64 k∧Below w.heap.size w wr∧(∀j,j<s.size->wr.cell? ⟨w.heap.size,j,none⟩=some (lj s k j))∧(∀j,j<s.size->wr.frozen? ⟨w.heap.size,j,none⟩=false)) (fun i _=>s.size-(intOf i).toNat)
 case atStart=>exact⟨0,ax _,rfl,hB0,hc0,hf0⟩
 case round =>
  obtain⟨k,hk,rfl,hbl,hcs,hfs⟩:=hrel;have HC:Hid (∀j,j<s.size->wr.cell? ⟨w.heap.size,j,none⟩=some (lj s k j)):=hcs;have HF:Hid (∀j,j<s.size->wr.frozen? ⟨w.heap.size,j,none⟩=false):=hfs;clear hcs hfs;by_cases hlt:k<s.size
  . have hb:=s[k].toNat_lt;have e0:s.data.toList.getD k 0=s[k]:=by
     have:s.data.toList[k]? = some s[k]:=iA (by simpa using hlt);simp[List.getD,this]
    have hcell:wr.cell? ⟨w.heap.size,k,none⟩=some (.int .u8 s[k].toNat):=by
     rw[HC.o k hlt];unfold lj;rw[if_neg (by omega),e0]
    have hfz:=HF.o k hlt;have H0:s.data.toList.getD k 0=s[k]:=e0;cases hcap:oE s[k].toNat
    . have HL:Hid (fA s[k]=s[k]):=II _ hcap;go_wp2_with (go_at_call 331;refine(BK _ _).mono ?_;rintro e w' ⟨rfl,rfl⟩)
      go_roundw
      case rel=>exact⟨k+1,by omega,by go_num,hbl,fun j hj=>by rw[HC.o j hj];exact LO s k j (by rw[H0,HL.o]),HF.o⟩
      case measure=>simp[intOf];omega
    . have HL:Hid (((fA s[k]).toNat:Int)=s[k].toNat-65+97):=IE _ hcap;have hcr:65<=s[k].toNat∧s[k].toNat<=90:=by
       unfold oE at hcap;rw[hQ,bN,bN] at hcap;omega
      go_wp2_with (go_at_call 331;refine(BK _ _).mono ?_;rintro e w' ⟨rfl,rfl⟩)
      go_roundw
      case rel =>
       refine⟨k+1,by omega,by go_num,hbl.setCell (am _) _,fun j hj=>?_,fun j hj=>by rw[World.frozen?_setCell];exact HF.o j hj⟩;by_cases hjk:j=k
       . subst hjk;rw[sM (h:=hcell)];unfold lj;rw[if_pos (by omega),H0,HL.o]
       . rw[sN (h:=by intro h;injection h with _ h2;exact hjk h2.symm),HC.o j hj];exact K1 s k j hjk
      case measure=>simp[intOf];omega
  . obtain rfl:k=s.size:=by omega
    have hback:(convert 31 9 (.slice (some ⟨w.heap.size,0,none⟩) s.size cap)).run prog wr=.ok (.string ⟨(aY s.data.toList).toArray⟩) wr:=by
     have h:=run_convert_bytes_back (P:=prog) wr 31 9 5 ⟨w.heap.size,0,none⟩ cap (aY s.data.toList) underlying31 underlying5 underlying9 (fun j hj=>by
      have hj':j<s.size:=by rw[rL,cA] at hj;exact hj
      have ha:((⟨w.heap.size,0,none⟩:Addr).add j)=⟨w.heap.size,j,none⟩:=by unfold Addr.add;simp;omega
      rw[ha,HC.o j hj'];unfold lj;rw[if_pos hj'];have e:(aY s.data.toList)[j]=fA (s.data.toList.getD j 0):=by
       simp[aY,List.getD,hj']
      rw[e])
     rw[rL,cA] at h;exact h
    generalize hr:(⟨(aY s.data.toList).toArray⟩:ae)=r at hback;have HR:(⟨(aY s.data.toList).toArray⟩:ae)=r:=hr;go_wp2;go_ret;exact⟨mE HR.symm,hbl⟩
theorem sV (s:ae)(w:World)(hs:s.size<=maxLen):
 Calls prog 211 #[.string s] w fun e w'=>e=.returned (.tuple #[.int .i64 (bB 10 9 s.data.toList).1,.bool (bB 10 9 s.data.toList).2])∧w'=w:=by
 have h:=CY s 10 9 w hs (by decide) (by decide) (by decide) (by decide);generalize bB 10 9 s.data.toList=p at h;go_enter func211,ntmps211;go_wp2_with (go_at_call 268;refine h.mono ?_;rintro e w' ⟨rfl,rfl⟩)
 go_ret2;exact⟨rfl,rfl⟩
theorem Nl:(prog.info? 283).map (fun i=>(i.zero,i.size,i.bytes))=M (M (.agg #[V ⟨#[]⟩,V ⟨#[]⟩]),2,32):=by kernel_rfl
theorem PW (a b:ae):(a.toList==b.toList)=decide (a.data.toList=b.data.toList):=by
 rw[Lib.toList_data,Lib.toList_data,ix];simp
def dx (ps:aC):List cU:=ps.map fun p=>(p.1.data.toList,p.2.data.toList)
theorem yk (a:aC):(dx a).length=a.length:=by simp[dx]
theorem Mp (a b:aC):dx (a++b)=dx a++dx b:=by simp[dx]
theorem Dc (n:Int)(w:X):
 Calls prog 227 #[I J n] w fun e w'=>e=Y (V ⟨(gS n).toArray⟩)∧w'=w:=by
 by_cases b:n=200
 . subst b;go_enter func227,ntmps227;go_wp2;go_ret;exact⟨rfl,rfl⟩
 by_cases c:n=201
 . subst c;go_enter func227,ntmps227;go_wp2;go_ret;exact⟨rfl,rfl⟩
 by_cases d:n=204
 . subst d;go_enter func227,ntmps227;go_wp2;go_ret;exact⟨rfl,rfl⟩
 by_cases f:n=400
 . subst f;go_enter func227,ntmps227;go_wp2;go_ret;exact⟨rfl,rfl⟩
 by_cases g:n=404
 . subst g;go_enter func227,ntmps227;go_wp2;go_ret;exact⟨rfl,rfl⟩
 by_cases i:n=405
 . subst i;go_enter func227,ntmps227;go_wp2;go_ret;exact⟨rfl,rfl⟩
 by_cases j:n=409
 . subst j;go_enter func227,ntmps227;go_wp2;go_ret;exact⟨rfl,rfl⟩
 by_cases k:n=412
 . subst k;go_enter func227,ntmps227;go_wp2;go_ret;exact⟨rfl,rfl⟩
 by_cases l:n=413
 . subst l;go_enter func227,ntmps227;go_wp2;go_ret;exact⟨rfl,rfl⟩
 by_cases m:n=415
 . subst m;go_enter func227,ntmps227;go_wp2;go_ret;exact⟨rfl,rfl⟩
 by_cases a:n=507
 . subst a;go_enter func227,ntmps227;go_wp2;go_ret;exact⟨rfl,rfl⟩
 have q:gS n=[]:=by
  refine AV mp n (fun p o=>?_);simp only[mp,fS,List.not_mem_nil,or_false] at o;rcases o with rfl | rfl | rfl | rfl | rfl | rfl | rfl | rfl | rfl | rfl | rfl;all_goals (intro e;simp only at e;omega)
 have s:(n==200)=F:=by rw[aO];exact b
 have t:(n==201)=F:=by rw[aO];exact c
 have u:(n==204)=F:=by rw[aO];exact d
 have v:(n==400)=F:=by rw[aO];exact f
 have x:(n==404)=F:=by rw[aO];exact g
 have y:(n==405)=F:=by rw[aO];exact i
 have z:(n==409)=F:=by rw[aO];exact j
 have B:(n==412)=F:=by rw[aO];exact k
 have C:(n==413)=F:=by rw[aO];exact l
 have D:(n==415)=F:=by rw[aO];exact m
 have r:(n==507)=F:=by rw[aO];exact a
 go_enter func227,ntmps227;go_wp2;go_ret;exact⟨by rw[q];rfl,rfl⟩
theorem Re (f:Nat):∀(n:Nat) (w:X),n<16 ^ (f+1)->n<4611686018427387904->f<30 ->
 Calls prog 93 #[I J n] w fun e w'=>e=Y (V ⟨(gM f n).toArray⟩)∧w'=w:=by
 induction f with
 | zero =>
   intro n w c _ _;have i:n<16:=by simpa using c
   have a:Hid (((⟨#[48,49,50,51,52,53,54,55,56,57,97,98,99,100,101,102]⟩:ae).extract n (n+1))=⟨(gM 0 n).toArray⟩):=ph (yO n i);clear c;go_enter func93,ntmps93;go_wp2;go_ret;exact⟨mE a.o,rfl⟩
 | succ f g =>
   intro n w c v x;by_cases b:n<16
   . have a:Hid (((⟨#[48,49,50,51,52,53,54,55,56,57,97,98,99,100,101,102]⟩:ae).extract n (n+1))=⟨(gM (f+1) n).toArray⟩):=ph (by rw[yO n b,gM,if_pos b]);clear c g;go_enter func93,ntmps93;go_wp2;go_ret;exact⟨mE a.o,rfl⟩
   . have k:n / 16<16 ^ (f+1):=by
      rw[Nat.pow_succ] at c;omega
     have l:n % 16<16 ^ (f+1):=by
      have:(16:Nat) ^ 1<=16 ^ (f+1):=Nat.pow_le_pow_right (by decide) (by omega);omega
     have m:Hid (∀w,Calls prog 93 #[I J ((n:Int) / 16)] w fun e w'=>e=Y (V ⟨(gM f (n / 16)).toArray⟩)∧w'=w):=fun w=>(show((n / 16:Nat):Int)=(n:Int) / 16 by omega)▸g (n / 16) w k (by omega) (by omega);have p:Hid (∀w,Calls prog 93 #[I J ((n:Int) % 16)] w fun e w'=>e=Y (V ⟨(gM f (n % 16)).toArray⟩)∧w'=w):=fun w=>(show((n % 16:Nat):Int)=(n:Int) % 16 by omega)▸g (n % 16) w l (by omega) (by omega);have r:=B9 f (n / 16);have j:=B9 f (n % 16);clear g c k l;have a:Hid ((⟨(gM f (n / 16)).toArray⟩:ae)++(⟨(gM f (n % 16)).toArray⟩:ae)=⟨(gM (f+1) n).toArray⟩) :=
      ph (by rw[jy,IB f n b])
     generalize (gM f (n / 16))=d at m r a;generalize (gM f (n % 16))=q at p j a;have s:(⟨d.toArray⟩:ae).size<=31:=by show d.toArray.size<=31;simp;omega
     have t:(⟨q.toArray⟩:ae).size<=31:=by show q.toArray.size<=31;simp;omega
     go_enter func93,ntmps93;go_wp2_with fail;refine(m.out _).mono ?_;rintro e u ⟨rfl,rfl⟩;go_wp2_with fail;refine(p.out _).mono ?_;rintro e u ⟨rfl,rfl⟩;go_wp2;go_ret;exact⟨mE a.o,rfl⟩
