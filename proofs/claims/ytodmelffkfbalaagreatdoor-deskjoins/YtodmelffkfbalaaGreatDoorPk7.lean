import Derived.Test.YtodmelffkfbalaaGreatDoorAm
import Derived.WalkSpells
import Derived.WalkLawsBesides
import Derived.BigQuiet
import Derived.Lib.IndexBytes
import Derived.Test.YtodmelffkfbalaaGreatDoorPk3
import Derived.Test.YtodmelffkfbalaaGreatDoorProg
open Go.Value renaming int->I,string->V
open Go.Ending renaming returned->Y
open Bool renaming false->F
open Go renaming World->X
set_option maxHeartbeats 2000000
set_option maxRecDepth 100000
open Go.Proofs.Tryz
namespace Go.Proofs.YtodmelffkfbalaaGreatDoor
open Go.RowKit
theorem fy {a b:Bool}(h:a=b):Ending.returned (.bool a)=Y (.bool b):=by rw[h]
theorem ld {k:IntKind}{a b:Int}(h:a=b):Ending.returned (I k a)=Y (I k b):=by rw[h]
theorem ru {a b:ae}(h:a=b):Ending.returned (V a)=Y (V b):=by rw[h]
theorem wz {k:IntKind}{a:Int}{b:Bool}{p:Int×Bool}(h:p=(a,b)):Ending.returned (.tuple #[I k a,.bool b])=Y (.tuple #[I k p.1,.bool p.2]):=by rw[h]
theorem T8 {p:Prop}(h:p):Hid p:=h
theorem ja {x:Int}(a:-9223372036854775808<=x)(b:x<=9223372036854775807):IntKind.i64.wrap x=x:=by rw[IntKind.wrap_i64];omega
theorem PK {x:Int}(a:-9223372036854775808<=x)(b:x<=9223372036854775807):wrap64 x=x:=by unfold wrap64;omega
theorem FI {a b:UInt8}(h:a≠b):((a.toNat:Int) != b.toNat)=true:=by
 rw[di];intro e;exact h (lN.1 (by omega))
theorem FJ {a b:UInt8}(h:a=b):((a.toNat:Int) != b.toNat)=F:=by subst h;simp
theorem op {a b:UInt8}(h:a≠b):((a.toNat:Int)==b.toNat)=F:=by
 rw[aQ];intro e;exact h (lN.1 (by omega))
theorem au {w a b:X}(h:Below w.heap.size w a)(k:Below a.heap.size a b):Below w.heap.size w b:=h.trans (k.mono h.size)
theorem iZ {w a:X}(h:∃n,a=w.drewN n):Below w.heap.size w a:=by
 obtain⟨n,rfl⟩:=h;exact⟨rfl,rfl,rfl,ak _,fun _ _=>rfl⟩
def Tc:Value->Nat | V x=>x.size | _=>0
def lU (p:ab×Nat):Value:=.tuple #[V ⟨p.1.toArray⟩,I .i64 (p.2:Int)]
theorem oV {v:Value}{p q:ab×Nat}(a:q=p)(h:v=lU p):Ending.returned v=Y (lU q):=by rw[h,a]
theorem P9 {w:X}{o:Obj}{w':X}(h:∃n,w'=(w.alloc o).drewN n):Below w.heap.size w w':=by
 obtain⟨n,rfl⟩:=h;exact((ar _ _).alloc (ak _) _).trans ⟨rfl,rfl,rfl,ak _,fun _ _=>rfl⟩
theorem aa {p : Prop}(h : p): Hid p := h
theorem _root_.Go.RowKit.Hid.o {p : Prop}(h : Hid p): p := h
theorem vF (c:Int)(w:X):
 Calls prog 90 #[I .u8 c] w fun e w'=>e=Y (.bool (er c))∧w'=w:=by
 by_cases b:c=9
 . subst b;go_enter func90,ntmps90;go_wp2;go_ret;exact⟨fy (by decide),rfl⟩
 . have a:(c==9)=F:=aQ.2 b;go_enter func90,ntmps90;go_wp2;all_goals go_ret
   all_goals refine⟨fy ?_,rfl⟩
   all_goals (unfold er;rw[a];first | (rw[br (show 32<=c by omega)];simp) | (rw[ba (show ¬32<=c by omega)];simp))
theorem Ic (s:ae)(c:Int)(w:X):
 Calls prog 255 #[V s,I .u8 c] w fun e w'=>e=Y (I .i64 (Lib.indexByte s.data.toList c.toNat.toUInt8))∧w'=w:=by
 go_enter func255,ntmps255;go_wp2;rw[run_callFunc_extern func298 (by kernel_rfl) (by kernel_rfl) (by kernel_rfl) (e:=Extern.BytealgIndexByte.indexByte) (by kernel_rfl),Lib.run_indexByteString];simp only[Result.andThen];rw[Oper.upon_value];go_wp2;go_ret;exact⟨rfl,rfl⟩
theorem Hv (s:ae)(c:Int)(w:X):
 Calls prog 340 #[V s,I .u8 c] w fun e w'=>e=Y (I .i64 (Lib.indexByte s.data.toList c.toNat.toUInt8))∧w'=w:=by
 go_enter func340,ntmps340;go_wp2_with (go_at_call 255;refine(Ic _ _ _).mono ?_;rintro e w' ⟨rfl,rfl⟩)
 go_ret;exact⟨rfl,rfl⟩
theorem Hl (s:ae)(c:UInt8)(w:X):
 Calls prog 197 #[V s,V ⟨#[c]⟩] w fun e w'=>e=Y (I .i64 (Lib.indexByte s.data.toList c))∧w'=w:=by
 go_enter func197,ntmps197;go_wp2_with (go_at_call 255;refine(Ic _ _ _).mono ?_;rintro e w' ⟨rfl,rfl⟩)
 . have h:([c]==s.toList)=true:=by assumption
   go_ret;refine⟨?_,rfl⟩;have e:s.data.toList=[c]:=by rw[<-Lib.toList_data];exact(cR.1 h).symm
   rw[e];simp[Lib.indexByte]
 . go_ret;exact⟨rfl,rfl⟩
def jV (c:UInt8)(s:ae):Value :=
 if aV c s.data.toList=s.size then .tuple #[V s,V ⟨#[]⟩,.bool F]
 else .tuple #[V (s.extract 0 (aV c s.data.toList)),V (s.extract (aV c s.data.toList+1) s.size),.bool true]
theorem Qg (s:ae)(c:UInt8)(w:World)(hs:s.size<=maxLen):
 Calls prog 261 #[.string s,.string ⟨#[c]⟩] w fun e w'=>e=.returned (jV c s)∧∃n,w'=w.drewN n:=by
 have HI:=Hl s c w;have hl:s.data.toList.length=s.size:=by rw[cJ];rfl
 unfold maxLen at hs;rcases Da s.data.toList c with ⟨h1,h2⟩ | ⟨h1,h2⟩
 . rw[h1] at HI;have HR:Hid (jV c s=.tuple #[.string s,.string ⟨#[]⟩,.bool false]):=by unfold Hid jV;rw[if_pos (by rw[h2,hl])]
   go_enter func261,ntmps261;go_wp2_with fail;refine HI.mono ?_;rintro e w1 ⟨rfl,hw⟩;subst hw;go_wp2;go_ret3
   exact⟨by rw[HR.o];rfl,0,rfl⟩
 . rw[h1] at HI;rw[hl] at h2;have HR:Hid (jV c s=.tuple #[.string (s.extract 0 (aV c s.data.toList)),.string (s.extract (aV c s.data.toList+1) s.size),.bool true]):=by unfold Hid jV;rw[if_neg (by omega)]
   generalize aV c s.data.toList=k at HI HR h2;have c1:(0:Int)<=k:=by omega
   have c2:(k:Int)<=s.size:=by omega
   have c3:(k:Int)+1<=s.size:=by omega
   have c4:IntKind.i64.wrap ((k:Int)+1)=(k:Int)+1:=ja (by omega) (by omega);have c5:(0:Int)<=(k:Int)+1:=by omega
   have c6:((k:Int)+1).toNat=k+1:=by omega
   go_enter func261,ntmps261;go_wp2_with fail;refine HI.mono ?_;rintro e w1 ⟨rfl,hw⟩;subst hw;go_wp2;go_quiet (fail)
   go_wp2;go_ret3
   exact⟨by rw[HR.o];rfl,nq,rfl⟩
theorem rv (s:ae)(c:UInt8)(w:World)(hs:s.size<=maxLen):
 Calls prog 201 #[.string s,.string ⟨#[c]⟩] w fun e w'=>e=.returned (jV c s)∧∃n,w'=w.drewN n:=by
 have HC:=Qg s c w hs;unfold jV at HC ⊢;split at HC
 . rename_i h;rw[if_pos h];go_enter func201,ntmps201;go_wp2_with fail;refine HC.mono ?_;rintro e w1 ⟨rfl,n,hw⟩;subst hw;go_wp2;go_ret3
   exact⟨rfl,n,rfl⟩
 . rename_i h;rw[if_neg h];go_enter func201,ntmps201;go_wp2_with fail;refine HC.mono ?_;rintro e w1 ⟨rfl,n,hw⟩;subst hw;go_wp2;go_ret3
   exact⟨rfl,n,rfl⟩
theorem yx (c:Int)(w:X):
 Calls prog 262 #[I .u8 c] w fun e w'=>e=Y (.bool (nG c))∧w'=w:=by
 go_enter func262,ntmps262;go_wp2;all_goals go_ret
 all_goals refine⟨fy ?_,rfl⟩
 all_goals (simp[nG];try omega)
theorem Az (c:Int)(w:X)(f:0<=c)(g:c<=255):
 Calls prog 204 #[I .u8 c] w fun e w'=>e=Y (I .i64 (aT c))∧w'=w:=by
 have b:Hid (aT c=if nG c then c-48 else if decide (97<=c)&&decide (c<=102) then c-87 else if decide (65<=c)&&decide (c<=70) then c-55 else -1):=rfl;cases a:nG c
 . go_enter func204,ntmps204;go_wp2_with (go_at_call 262;refine(yx _ _).mono ?_;rintro e w' ⟨rfl,rfl⟩)
   all_goals go_ret
   all_goals refine⟨ld ?_,rfl⟩
   all_goals (rw[b.o,a];simp only[xR,if_false,gZ,bR];repeat' split) <;> omega
 . have d:48<=c∧c<=57:=by simpa[nG] using a
   go_enter func204,ntmps204;go_wp2_with (go_at_call 262;refine(yx _ _).mono ?_;rintro e w' ⟨rfl,rfl⟩)
   go_ret;refine⟨ld ?_,rfl⟩;rw[b.o,a,if_pos rfl]
theorem CZ (s:ae)(base most:Int)(w:World)(hs:s.size<=maxLen)(hb0:2<=base)(hb1:base<=16)(hm0:0<=most)(hm1:most<=9):
 Calls prog 268 #[.string s,.int .i64 base,.int .i64 most] w fun e w'=>e=.returned (.tuple #[.int .i64 (bB base most s.data.toList).1,.bool (bB base most s.data.toList).2])∧w'=w:=by
 unfold maxLen at hs;by_cases h0:s.size=0
 . obtain rfl:=qe s h0;go_enter func268,ntmps268;go_wp2;go_ret2;exact⟨wz (yV _ _ _ (Or.inl rfl)),rfl⟩
 . have hne:=qh s (by omega);by_cases hlong:most<s.size
   . have HL:most<s.data.toList.length:=by rw[cH];exact hlong
     go_enter func268,ntmps268;go_wp2;go_ret2;exact⟨wz (yV _ _ _ (Or.inr HL)),rfl⟩
   . have hlg:decide (most<(s.size:Int))=false:=ba hlong;have HL:¬most<s.data.toList.length:=by rw[cH];exact hlong
     go_enter func268,ntmps268;go_wp2;go_loop [8,21] (fun n i=>∃k:Nat,k<=s.size∧i=.int .i64 k∧(s.data.toList.take k).all (gw base)=true∧n=.int .i64 (lm base (s.data.toList.take k))) (fun _ i=>s.size-(intOf i).toNat)
     case atStart=>exact⟨0,ax _,rfl,rfl,rfl⟩
     case round =>
      obtain⟨k,hk,rfl,hall,rfl⟩:=hrel;have HN:(s.data.toList.take k).all (gw base)=true:=hall;have hbd:=we base (by omega) hb1 _ hall (by have:(s.data.toList.take k).length<=k:=List.length_take_le _ _;omega);generalize hn:lm base (s.data.toList.take k)=n at hbd;have Hn:Hid (lm base (s.data.toList.take k)=n):=hn;have p0:0<=n*base:=Int.mul_nonneg hbd.1 (by omega);have p1:n*base<=n*16:=Int.mul_le_mul_of_nonneg_left hb1 hbd.1;by_cases hlt:k<s.size
      . have hb:=s[k].toNat_lt;have hx:=qi s[k];by_cases hd:0<=aT s[k].toNat∧aT s[k].toNat<base
        . have HE:Hid (gw base s[k]=true):=by unfold Hid gw;rw[br hd.1,br hd.2];rfl
          have hd1:=ba (by omega);have hd2:=ba (by omega);go_wp2_with (go_at_call 204;refine(Az _ _ (by omega) (by omega)).mono ?_;rintro e w' ⟨rfl,rfl⟩)
          go_round
          case rel=>exact⟨k+1,by omega,by go_num,by rw[wa s k hlt,yP,HN,HE.o];rfl,by rw[wa s k hlt,Io,Hn.o]⟩
          case measure=>simp[intOf];omega
        . have HE:Hid (gw base s[k]=false):=by
           unfold Hid gw;by_cases hz:0<=aT s[k].toNat
           . rw[ba (show ¬aT s[k].toNat<base from fun h=>hd ⟨hz,h⟩)];simp
           . rw[ba hz];rfl
          by_cases hz:0<=aT s[k].toNat;all_goals
           go_wp2_with (go_at_call 204;refine(Az _ _ (by omega) (by omega)).mono ?_;rintro e w' ⟨rfl,rfl⟩)
           all_goals first | omega | (go_ret2;exact⟨wz (yN _ _ _ (yW _ s k hlt HE.o)),rfl⟩)
      . go_wp2;go_ret2;exact⟨wz (by rw[<-Hn.o,wg s k (by omega)];exact yZ _ _ _ (yS s (by omega)) (Int.not_lt.2 HL) (by rw[<-HN,wg s k (by omega)])),rfl⟩
theorem Ie (s:ae)(w:World)(hs:s.size<=maxLen):
 Calls prog 385 #[.string s] w fun e w'=>e=.returned (.tuple #[.int .i64 (bB 16 6 s.data.toList).1,.bool (bB 16 6 s.data.toList).2])∧w'=w:=by
 have h:=CZ s 16 6 w hs (by decide) (by decide) (by decide) (by decide);generalize bB 16 6 s.data.toList=p at h;go_enter func385,ntmps385;go_wp2_with (go_at_call 268;refine h.mono ?_;rintro e w' ⟨rfl,rfl⟩)
 go_ret2;exact⟨rfl,rfl⟩
theorem BH (c:Int)(w:X):
 Calls prog 331 #[I .u8 c] w fun e w'=>e=Y (.bool (oy c))∧w'=w:=by
 go_enter func331,ntmps331;go_wp2;all_goals go_ret
 all_goals refine⟨fy ?_,rfl⟩
 all_goals (simp[oy];try omega)
theorem I6 (c:Int)(w:X):
 Calls prog 339 #[I .u8 c] w fun e w'=>e=Y (.bool (rF c))∧w'=w:=by
 go_enter func339,ntmps339;go_wp2_with (go_at_call 331;refine(BH _ _).mono ?_;rintro e w' ⟨rfl,rfl⟩)
 all_goals go_ret
 all_goals refine⟨fy ?_,rfl⟩
 all_goals (unfold rF;first | (rw[br (show 97<=c by omega)];simp;try omega) | (rw[ba (show ¬97<=c by omega)];simp;try omega))
theorem yp (c:Int)(w:X):
 Calls prog 312 #[I .u8 c] w fun e w'=>e=Y (.bool (lt c))∧w'=w:=by
 have a:=Hv ⟨#[33,35,36,37,38,39,42,43,45,46,94,95,96,124,126]⟩ c w;have b:Hid (Lib.indexByte [33,35,36,37,38,39,42,43,45,46,94,95,96,124,126] c.toNat.toUInt8=Lib.indexByte Cb c.toNat.toUInt8):=rfl;generalize (Lib.indexByte [33,35,36,37,38,39,42,43,45,46,94,95,96,124,126] c.toNat.toUInt8)=r at a b;cases f:nG c
 . cases g:rF c;all_goals
    have d:lt c=(nG c||rF c||decide (0<=r)):=by rw[b.o];rfl
    go_enter func312,ntmps312;go_wp2_with (first | (go_at_call 262;refine(yx _ _).mono ?_;rintro e w' ⟨rfl,rfl⟩) | (go_at_call 339;refine(I6 _ _).mono ?_;rintro e w' ⟨rfl,rfl⟩) | (go_at_call 340;refine a.mono ?_;rintro e w' ⟨rfl,rfl⟩))
    go_ret;refine⟨fy ?_,rfl⟩;rw[d,f,g];simp
 . have d:lt c=(nG c||rF c||decide (0<=r)):=by rw[b.o];rfl
   go_enter func312,ntmps312;go_wp2_with (first | (go_at_call 262;refine(yx _ _).mono ?_;rintro e w' ⟨rfl,rfl⟩) | (go_at_call 339;refine(EA _ _).mono ?_;rintro e w' ⟨rfl,rfl⟩) | (go_at_call 340;refine a.mono ?_;rintro e w' ⟨rfl,rfl⟩))
   go_ret;refine⟨fy ?_,rfl⟩;rw[d,f];simp
theorem Px (s:ae)(w:World)(hs:s.size<=maxLen):
 Calls prog 311 #[.string s,.func (.func 312) #[] #[]] w fun e w'=>e=.returned (.bool (yO s.data.toList))∧w'=w:=by
 unfold maxLen at hs;go_enter func311,ntmps311;go_wp2;go_loop [8] (fun i=>∃k:Nat,k<=s.size∧i=.int .i64 k∧((s.data.toList.take k).all fun b=>lt b.toNat)=true) (fun i=>s.size-(intOf i).toNat)
 case atStart=>exact⟨0,ax _,rfl,rfl⟩
 case round =>
  obtain⟨k,hk,rfl,hno⟩:=hrel;have HN:((s.data.toList.take k).all fun b=>lt b.toNat)=true:=hno;by_cases hlt:k<s.size
  . cases he:lt (s[k].toNat:Int)
    . have HE:lt (s[k].toNat:Int)=false:=he;go_wp2_with (go_at_call 312;refine(yp _ _).mono ?_;rintro e w' ⟨rfl,rfl⟩)
      go_ret;refine⟨fy ?_,rfl⟩;exact(yW (fun b=>lt b.toNat) s k hlt HE).symm
    . have HE:lt (s[k].toNat:Int)=true:=he;go_wp2_with (go_at_call 312;refine(yp _ _).mono ?_;rintro e w' ⟨rfl,rfl⟩)
      go_round
      case rel=>exact⟨k+1,by omega,by go_num,by rw[wa s k hlt,yP,HN,HE];rfl⟩
      case measure=>simp[intOf];omega
  . go_wp2;go_ret;refine⟨fy ?_,rfl⟩;rw[<-HN,wg s k (by omega)];rfl
theorem yi (s:ae)(w:World)(hs:s.size<=maxLen):
 Calls prog 275 #[.string s] w fun e w'=>e=.returned (.bool (fj s.data.toList))∧w'=w:=by
 by_cases h0:s.size=0
 . obtain rfl:=qe s h0;go_enter func275,ntmps275;go_wp2;go_ret;exact⟨rfl,rfl⟩
 . have hne:=qh s (by omega);have HT:Hid (yO s.data.toList=fj s.data.toList):=by
    unfold Hid fj yO;rw[<-Lib.toList_data,hne];simp
   go_enter func275,ntmps275;go_wp2_with (go_at_call 311;refine(Px _ _ hs).mono ?_;rintro e w' ⟨rfl,rfl⟩)
   go_ret;exact⟨fy HT.o,rfl⟩
theorem Me (s:ae)(w:World)(hs:s.size<=maxLen):
 Calls prog 311 #[.string s,.func (.func 90) #[] #[]] w fun e w'=>e=.returned (.bool (dO s.data.toList))∧w'=w:=by
 unfold maxLen at hs;go_enter func311,ntmps311;go_wp2;go_loop [8] (fun i=>∃k:Nat,k<=s.size∧i=.int .i64 k∧((s.data.toList.take k).all fun b=>er b.toNat)=true) (fun i=>s.size-(intOf i).toNat)
 case atStart=>exact⟨0,ax _,rfl,rfl⟩
 case round =>
  obtain⟨k,hk,rfl,hno⟩:=hrel;have HN:((s.data.toList.take k).all fun b=>er b.toNat)=true:=hno;by_cases hlt:k<s.size
  . cases he:er (s[k].toNat:Int)
    . have HE:er (s[k].toNat:Int)=false:=he;go_wp2_with (go_at_call 90;refine(vF _ _).mono ?_;rintro e w' ⟨rfl,rfl⟩)
      go_ret;refine⟨fy ?_,rfl⟩;exact(yW (fun b=>er b.toNat) s k hlt HE).symm
    . have HE:er (s[k].toNat:Int)=true:=he;go_wp2_with (go_at_call 90;refine(vF _ _).mono ?_;rintro e w' ⟨rfl,rfl⟩)
      go_round
      case rel=>exact⟨k+1,by omega,by go_num,by rw[wa s k hlt,yP,HN,HE];rfl⟩
      case measure=>simp[intOf];omega
  . go_wp2;go_ret;refine⟨fy ?_,rfl⟩;rw[<-HN,wg s k (by omega)];rfl
theorem rf (s:ae)(w:World)(hs:s.size<=maxLen):
 Calls prog 280 #[.string s] w fun e w'=>e=.returned (.bool (dO s.data.toList))∧w'=w:=by
 go_enter func280,ntmps280;go_wp2_with (go_at_call 311;refine(Me _ _ hs).mono ?_;rintro e w' ⟨rfl,rfl⟩)
 go_ret;exact⟨rfl,rfl⟩
def li (s:ae)(k j:Nat):Value:=I .u8 ((if j<k then lZ (s.data.toList.getD j 0) else s.data.toList.getD j 0).toNat:Int)
theorem Ly (s:ae)(k j:Nat)(h:lZ (s.data.toList.getD k 0)=s.data.toList.getD k 0):some (li s k j)=some (li s (k+1) j):=by grind [lZ,li]
theorem KN (s:ae)(k j:Nat)(h:j≠k):some (li s k j)=some (li s (k+1) j):=by grind [li]
theorem rj (s:ae)(w:World)(hs:s.size<=maxLen):
 Calls prog 305 #[.string s] w fun e w'=>e=.returned (.string ⟨(be s.data.toList).toArray⟩)∧Below w.heap.size w w':=by
 unfold maxLen at hs;have vC:=run_bytes_of_string (P:=prog) w 9 31 5 s underlying9 underlying31 underlying5;generalize grownCap w s.size 0 5=cap at vC;have hat:∀j,j<s.size->(bytesRow s cap)[j]? = some (li s 0 j):=fun j hj=>by
  rw[bytesRow_at s cap j hj];unfold li;rw[if_neg (by omega)];have e:s.data.toList.getD j 0=s.data[j]'hj:=by
   simp[List.getD,hj]
  rw[e]
 have hsz:s.size<=(bytesRow s cap).size:=by unfold bytesRow;simp
 generalize bytesRow s cap=C at vC hat hsz;go_enter func305,ntmps305;go_wp2;have hB0:Below w.heap.size w (w.alloc (.cells C 5 (C.size,C.size+1))).drew:=((ar _ _).alloc (ak _) _).drew;have hc0:∀j,j<s.size->((w.alloc (.cells C 5 (C.size,C.size+1))).drew).cell? ⟨w.heap.size,j,none⟩=some (li s 0 j):=fun j hj=>by
  rw[<-hat j hj];exact World.cell?_alloc_mark w C 5 _ j
 have hf0:∀j,j<s.size->((w.alloc (.cells C 5 (C.size,C.size+1))).drew).frozen? ⟨w.heap.size,j,none⟩=false:=fun j hj=>by
  refine(World.frozen?_alloc_mark w C 5 C.size (C.size+1) j).trans ?_;rw[ba (by omega)];rfl
 go_loopw [10] (fun i wr=>∃k:Nat,k<=s.size∧i=.int .i64 k∧Below w.heap.size w wr∧(∀j,j<s.size->wr.cell? ⟨w.heap.size,j,none⟩=some (li s k j))∧(∀j,j<s.size->wr.frozen? ⟨w.heap.size,j,none⟩=false)) (fun i _=>s.size-(intOf i).toNat)
 case atStart=>exact⟨0,ax _,rfl,hB0,hc0,hf0⟩
 case round =>
  obtain⟨k,hk,rfl,hbl,hcs,hfs⟩:=hrel;have HC:Hid (∀j,j<s.size->wr.cell? ⟨w.heap.size,j,none⟩=some (li s k j)):=hcs;have HF:Hid (∀j,j<s.size->wr.frozen? ⟨w.heap.size,j,none⟩=false):=hfs;clear hcs hfs;by_cases hlt:k<s.size
  . have hb:=s[k].toNat_lt;have e0:s.data.toList.getD k 0=s[k]:=by
     have:s.data.toList[k]? = some s[k]:=iz (by simpa using hlt);simp[List.getD,this]
    have hcell:wr.cell? ⟨w.heap.size,k,none⟩=some (.int .u8 s[k].toNat):=by
     rw[HC.o k hlt];unfold li;rw[if_neg (by omega),e0]
    have hfz:=HF.o k hlt;have H0:s.data.toList.getD k 0=s[k]:=e0;cases hcap:oy s[k].toNat
    . have HL:Hid (lZ s[k]=s[k]):=Is _ hcap;go_wp2_with (go_at_call 331;refine(BH _ _).mono ?_;rintro e w' ⟨rfl,rfl⟩)
      go_roundw
      case rel=>exact⟨k+1,by omega,by go_num,hbl,fun j hj=>by rw[HC.o j hj];exact Ly s k j (by rw[H0,HL.o]),HF.o⟩
      case measure=>simp[intOf];omega
    . have HL:Hid (((lZ s[k]).toNat:Int)=s[k].toNat-65+97):=Iq _ hcap;have hcr:65<=s[k].toNat∧s[k].toNat<=90:=by
       unfold oy at hcap;rw[gZ,bR,bR] at hcap;omega
      go_wp2_with (go_at_call 331;refine(BH _ _).mono ?_;rintro e w' ⟨rfl,rfl⟩)
      go_roundw
      case rel =>
       refine⟨k+1,by omega,by go_num,hbl.setCell (ak _) _,fun j hj=>?_,fun j hj=>by rw[World.frozen?_setCell];exact HF.o j hj⟩;by_cases hjk:j=k
       . subst hjk;rw[sI (h:=hcell)];unfold li;rw[if_pos (by omega),H0,HL.o]
       . rw[sJ (h:=by intro h;injection h with _ h2;exact hjk h2.symm),HC.o j hj];exact KN s k j hjk
      case measure=>simp[intOf];omega
  . obtain rfl:k=s.size:=by omega
    have hback:(convert 31 9 (.slice (some ⟨w.heap.size,0,none⟩) s.size cap)).run prog wr=.ok (.string ⟨(be s.data.toList).toArray⟩) wr:=by
     have h:=run_convert_bytes_back (P:=prog) wr 31 9 5 ⟨w.heap.size,0,none⟩ cap (be s.data.toList) underlying31 underlying5 underlying9 (fun j hj=>by
      have hj':j<s.size:=by rw[tN,cH] at hj;exact hj
      have ha:((⟨w.heap.size,0,none⟩:Addr).add j)=⟨w.heap.size,j,none⟩:=by unfold Addr.add;simp;omega
      rw[ha,HC.o j hj'];unfold li;rw[if_pos hj'];have e:(be s.data.toList)[j]=lZ (s.data.toList.getD j 0):=by
       simp[be,List.getD,hj']
      rw[e])
     rw[tN,cH] at h;exact h
    generalize hr:(⟨(be s.data.toList).toArray⟩:ae)=r at hback;have HR:(⟨(be s.data.toList).toArray⟩:ae)=r:=hr;go_wp2;go_ret;exact⟨ru HR.symm,hbl⟩
theorem sV (s:ae)(w:World)(hs:s.size<=maxLen):
 Calls prog 211 #[.string s] w fun e w'=>e=.returned (.tuple #[.int .i64 (bB 10 9 s.data.toList).1,.bool (bB 10 9 s.data.toList).2])∧w'=w:=by
 have h:=CZ s 10 9 w hs (by decide) (by decide) (by decide) (by decide);generalize bB 10 9 s.data.toList=p at h;go_enter func211,ntmps211;go_wp2_with (go_at_call 268;refine h.mono ?_;rintro e w' ⟨rfl,rfl⟩)
 go_ret2;exact⟨rfl,rfl⟩
theorem Nc:(prog.info? 283).map (fun i=>(i.zero,i.size,i.bytes))=some (some (.agg #[V ⟨#[]⟩,V ⟨#[]⟩]),2,32):=by kernel_rfl
theorem PG (a b:ae):(a.toList==b.toList)=decide (a.data.toList=b.data.toList):=by
 rw[Lib.toList_data,Lib.toList_data,iM];simp
def dy (ps:aC):List cW:=ps.map fun p=>(p.1.data.toList,p.2.data.toList)
theorem yl (a:aC):(dy a).length=a.length:=by simp[dy]
theorem Ma (a b:aC):dy (a++b)=dy a++dy b:=by simp[dy]
theorem CW (n:Int)(w:X):
 Calls prog 227 #[I .i64 n] w fun e w'=>e=Y (V ⟨(gS n).toArray⟩)∧w'=w:=by
 by_cases b:n=200
 . subst b;go_enter func227,ntmps227;go_wp2;go_ret;exact⟨rfl,rfl⟩
 by_cases c:n=201
 . subst c;go_enter func227,ntmps227;go_wp2;go_ret;exact⟨rfl,rfl⟩
 by_cases d:n=204
 . subst d;go_enter func227,ntmps227;go_wp2;go_ret;exact⟨rfl,rfl⟩
 by_cases f:n=400
 . subst f;go_enter func227,ntmps227;go_wp2;go_ret;exact⟨rfl,rfl⟩
 by_cases g:n=404
 . subst g;go_enter func227,ntmps227;go_wp2;go_ret;exact⟨rfl,rfl⟩
 by_cases i:n=405
 . subst i;go_enter func227,ntmps227;go_wp2;go_ret;exact⟨rfl,rfl⟩
 by_cases j:n=409
 . subst j;go_enter func227,ntmps227;go_wp2;go_ret;exact⟨rfl,rfl⟩
 by_cases k:n=412
 . subst k;go_enter func227,ntmps227;go_wp2;go_ret;exact⟨rfl,rfl⟩
 by_cases l:n=413
 . subst l;go_enter func227,ntmps227;go_wp2;go_ret;exact⟨rfl,rfl⟩
 by_cases m:n=415
 . subst m;go_enter func227,ntmps227;go_wp2;go_ret;exact⟨rfl,rfl⟩
 by_cases a:n=507
 . subst a;go_enter func227,ntmps227;go_wp2;go_ret;exact⟨rfl,rfl⟩
 have q:gS n=[]:=by
  refine AZ mp n (fun p o=>?_);simp only[mp,fS,List.not_mem_nil,or_false] at o;rcases o with rfl | rfl | rfl | rfl | rfl | rfl | rfl | rfl | rfl | rfl | rfl;all_goals (intro e;simp only at e;omega)
 have s:(n==200)=F:=by rw[aQ];exact b
 have t:(n==201)=F:=by rw[aQ];exact c
 have u:(n==204)=F:=by rw[aQ];exact d
 have v:(n==400)=F:=by rw[aQ];exact f
 have x:(n==404)=F:=by rw[aQ];exact g
 have y:(n==405)=F:=by rw[aQ];exact i
 have z:(n==409)=F:=by rw[aQ];exact j
 have B:(n==412)=F:=by rw[aQ];exact k
 have C:(n==413)=F:=by rw[aQ];exact l
 have D:(n==415)=F:=by rw[aQ];exact m
 have r:(n==507)=F:=by rw[aQ];exact a
 go_enter func227,ntmps227;go_wp2;go_ret;exact⟨by rw[q];rfl,rfl⟩
