import Derived.Test.YtmbghcpcbdjfoaaGreatDoorAm
import Derived.WalkSpells
import Derived.WalkLawsBesides
import Derived.BigQuiet
import Derived.Lib.IndexBytes
import Derived.Test.YtmbghcpcbdjfoaaGreatDoorPk3
import Derived.Test.YtmbghcpcbdjfoaaGreatDoorProg
open Go.Value renaming int->I,string->V
open Go.IntKind renaming i64->J
open Go.Obj renaming cells->K
open Go.Ending renaming returned->Y
open Option renaming some->M
open Bool renaming false->F
open Go renaming World->X
set_option maxHeartbeats 2000000
set_option maxRecDepth 100000
open Go.Proofs.Tryz
namespace Go.Proofs.YtmbghcpcbdjfoaaGreatDoor
open Go.RowKit
theorem dS {a b:Bool}(h:a=b):Ending.returned (.bool a)=Y (.bool b):=by rw[h]
theorem jV {k:IntKind}{a b:Int}(h:a=b):Ending.returned (I k a)=Y (I k b):=by rw[h]
theorem mV {a b:ag}(h:a=b):Ending.returned (V a)=Y (V b):=by rw[h]
theorem qF {k:IntKind}{a:Int}{b:Bool}{p:Int×Bool}(h:p=(a,b)):Ending.returned (.tuple #[I k a,.bool b])=Y (.tuple #[I k p.1,.bool p.2]):=by rw[h]
theorem rJ {a:Func}{t u v x:Tmp}(h:a.results=#[.tmp t,.tmp u,.tmp v,.tmp x])(tmps:Array Value)(P:Program)(w:X):
 (results a tmps).run P w=.ok (.tuple #[tmps.getD t undef,tmps.getD u undef,tmps.getD v undef,tmps.getD x undef]) w:=by
 simp[results,h]
theorem Vi {p:Prop}(h:p):Hid p:=h
theorem iY {x:Int}(a:-9223372036854775808<=x)(b:x<=9223372036854775807):IntKind.i64.wrap x=x:=by rw[IntKind.wrap_i64];omega
theorem QV {x:Int}(a:-9223372036854775808<=x)(b:x<=9223372036854775807):wrap64 x=x:=by unfold wrap64;omega
theorem xk {a b:UInt8}(h:a≠b):((a.toNat:Int) != b.toNat)=true:=by
 rw[cW];intro e;exact h (pq.1 (by omega))
theorem GS {a b:UInt8}(h:a=b):((a.toNat:Int) != b.toNat)=F:=by subst h;simp
theorem mn {a b:UInt8}(h:a≠b):((a.toNat:Int)==b.toNat)=F:=by
 rw[aO];intro e;exact h (pq.1 (by omega))
theorem ar {w a b:X}(h:Below w.heap.size w a)(k:Below a.heap.size a b):Below w.heap.size w b:=h.trans (k.mono h.size)
theorem jp {w a:X}(h:∃n,a=w.drewN n):Below w.heap.size w a:=by
 obtain⟨n,rfl⟩:=h;exact⟨rfl,rfl,rfl,ak _,fun _ _=>rfl⟩
def rY:Value->Nat | V x=>x.size | _=>0
def jX (p:ae×Nat):Value:=.tuple #[V ⟨p.1.toArray⟩,I J (p.2:Int)]
theorem mW {v:Value}{p q:ae×Nat}(a:q=p)(h:v=jX p):Ending.returned v=Y (jX q):=by rw[h,a]
theorem QW {w:X}{o:Obj}{w':X}(h:∃n,w'=(w.alloc o).drewN n):Below w.heap.size w w':=by
 obtain⟨n,rfl⟩:=h;exact((aq _ _).alloc (ak _) _).trans ⟨rfl,rfl,rfl,ak _,fun _ _=>rfl⟩
theorem aa {p : Prop}(h : p): Hid p := h
theorem _root_.Go.RowKit.Hid.o {p : Prop}(h : Hid p): p := h
theorem yW (c:Int)(w:X):
 Calls prog 228 #[I .u8 c] w fun e w'=>e=Y (.bool (cG c))∧w'=w:=by
 by_cases b:c=9
 . subst b;go_enter func228,ntmps228;go_wp2;go_ret;exact⟨dS (by decide),rfl⟩
 . have a:(c==9)=F:=aO.2 b;go_enter func228,ntmps228;go_wp2;all_goals go_ret
   all_goals refine⟨dS ?_,rfl⟩
   all_goals (unfold cG;rw[a];first | (rw[aV (show 32<=c by omega)];simp) | (rw[aW (show ¬32<=c by omega)];simp))
theorem CL (s:ag)(c:Int)(w:X):
 Calls prog 327 #[V s,I .u8 c] w fun e w'=>e=Y (I J (Lib.indexByte s.data.toList c.toNat.toUInt8))∧w'=w:=by
 go_enter func327,ntmps327;go_wp2;rw[run_callFunc_extern func345 (by kernel_rfl) (by kernel_rfl) (by kernel_rfl) (e:=Extern.BytealgIndexByte.indexByte) (by kernel_rfl),Lib.run_indexByteString];simp only[Result.andThen];rw[Oper.upon_value];go_wp2;go_ret;exact⟨rfl,rfl⟩
theorem IR (s:ag)(c:Int)(w:X):
 Calls prog 298 #[V s,I .u8 c] w fun e w'=>e=Y (I J (Lib.indexByte s.data.toList c.toNat.toUInt8))∧w'=w:=by
 go_enter func298,ntmps298;go_wp2_with (go_at_call 327;refine(CL _ _ _).mono ?_;rintro e w' ⟨rfl,rfl⟩)
 go_ret;exact⟨rfl,rfl⟩
theorem UU (s:ag)(c:UInt8)(w:X):
 Calls prog 296 #[V s,V ⟨#[c]⟩] w fun e w'=>e=Y (I J (Lib.indexByte s.data.toList c))∧w'=w:=by
 go_enter func296,ntmps296;go_wp2_with (go_at_call 327;refine(CL _ _ _).mono ?_;rintro e w' ⟨rfl,rfl⟩)
 . have h:([c]==s.toList)=true:=by assumption
   go_ret;refine⟨?_,rfl⟩;have e:s.data.toList=[c]:=by rw[<-Lib.toList_data];exact(cM.1 h).symm
   rw[e];simp[Lib.indexByte]
 . go_ret;exact⟨rfl,rfl⟩
def kO (c:UInt8)(s:ag):Value :=
 if bg c s.data.toList=s.size then .tuple #[V s,V ⟨#[]⟩,.bool F]
 else .tuple #[V (s.extract 0 (bg c s.data.toList)),V (s.extract (bg c s.data.toList+1) s.size),.bool true]
theorem Rn (s:ag)(c:UInt8)(w:World)(hs:s.size<=maxLen):
 Calls prog 263 #[.string s,.string ⟨#[c]⟩] w fun e w'=>e=.returned (kO c s)∧∃n,w'=w.drewN n:=by
 have HI:=UU s c w;have hl:s.data.toList.length=s.size:=by rw[cy];rfl
 unfold maxLen at hs;rcases JF s.data.toList c with ⟨h1,h2⟩ | ⟨h1,h2⟩
 . rw[h1] at HI;have HR:Hid (kO c s=.tuple #[.string s,.string ⟨#[]⟩,.bool false]):=by unfold Hid kO;rw[if_pos (by rw[h2,hl])]
   go_enter func263,ntmps263;go_wp2_with fail;refine HI.mono ?_;rintro e w1 ⟨rfl,hw⟩;subst hw;go_wp2;go_ret3
   exact⟨by rw[HR.o];rfl,0,rfl⟩
 . rw[h1] at HI;rw[hl] at h2;have HR:Hid (kO c s=.tuple #[.string (s.extract 0 (bg c s.data.toList)),.string (s.extract (bg c s.data.toList+1) s.size),.bool true]):=by unfold Hid kO;rw[if_neg (by omega)]
   generalize bg c s.data.toList=k at HI HR h2;have c1:(0:Int)<=k:=by omega
   have c2:(k:Int)<=s.size:=by omega
   have c3:(k:Int)+1<=s.size:=by omega
   have c4:IntKind.i64.wrap ((k:Int)+1)=(k:Int)+1:=iY (by omega) (by omega);have c5:(0:Int)<=(k:Int)+1:=by omega
   have c6:((k:Int)+1).toNat=k+1:=by omega
   go_enter func263,ntmps263;go_wp2_with fail;refine HI.mono ?_;rintro e w1 ⟨rfl,hw⟩;subst hw;go_wp2;go_quiet (fail)
   go_wp2;go_ret3
   exact⟨by rw[HR.o];rfl,nq,rfl⟩
theorem uv (s:ag)(c:UInt8)(w:World)(hs:s.size<=maxLen):
 Calls prog 229 #[.string s,.string ⟨#[c]⟩] w fun e w'=>e=.returned (kO c s)∧∃n,w'=w.drewN n:=by
 have HC:=Rn s c w hs;unfold kO at HC ⊢;split at HC
 . rename_i h;rw[if_pos h];go_enter func229,ntmps229;go_wp2_with fail;refine HC.mono ?_;rintro e w1 ⟨rfl,n,hw⟩;subst hw;go_wp2;go_ret3
   exact⟨rfl,n,rfl⟩
 . rename_i h;rw[if_neg h];go_enter func229,ntmps229;go_wp2_with fail;refine HC.mono ?_;rintro e w1 ⟨rfl,n,hw⟩;subst hw;go_wp2;go_ret3
   exact⟨rfl,n,rfl⟩
theorem zq (c:Int)(w:X):
 Calls prog 288 #[I .u8 c] w fun e w'=>e=Y (.bool (kM c))∧w'=w:=by
 go_enter func288,ntmps288;go_wp2;all_goals go_ret
 all_goals refine⟨dS ?_,rfl⟩
 all_goals (simp[kM];try omega)
theorem GR (c:Int)(w:X)(f:0<=c)(g:c<=255):
 Calls prog 259 #[I .u8 c] w fun e w'=>e=Y (I J (bl c))∧w'=w:=by
 have b:Hid (bl c=if kM c then c-48 else if decide (97<=c)&&decide (c<=102) then c-87 else if decide (65<=c)&&decide (c<=70) then c-55 else -1):=rfl;cases a:kM c
 . go_enter func259,ntmps259;go_wp2_with (go_at_call 288;refine(zq _ _).mono ?_;rintro e w' ⟨rfl,rfl⟩)
   all_goals go_ret
   all_goals refine⟨jV ?_,rfl⟩
   all_goals (rw[b.o,a];simp only[wt,if_false,gr,bS];repeat' split) <;> omega
 . have d:48<=c∧c<=57:=by simpa[kM] using a
   go_enter func259,ntmps259;go_wp2_with (go_at_call 288;refine(zq _ _).mono ?_;rintro e w' ⟨rfl,rfl⟩)
   go_ret;refine⟨jV ?_,rfl⟩;rw[b.o,a,if_pos rfl]
theorem DF (s:ag)(base most:Int)(w:World)(hs:s.size<=maxLen)(hb0:2<=base)(hb1:base<=16)(hm0:0<=most)(hm1:most<=9):
 Calls prog 222 #[.string s,.int .i64 base,.int .i64 most] w fun e w'=>e=.returned (.tuple #[.int .i64 (bB base most s.data.toList).1,.bool (bB base most s.data.toList).2])∧w'=w:=by
 unfold maxLen at hs;by_cases h0:s.size=0
 . obtain rfl:=nh s h0;go_enter func222,ntmps222;go_wp2;go_ret2;exact⟨qF (uD _ _ _ (Or.inl rfl)),rfl⟩
 . have hne:=sg s (by omega);by_cases hlong:most<s.size
   . have HL:most<s.data.toList.length:=by rw[ep];exact hlong
     go_enter func222,ntmps222;go_wp2;go_ret2;exact⟨qF (uD _ _ _ (Or.inr HL)),rfl⟩
   . have hlg:decide (most<(s.size:Int))=false:=aW hlong;have HL:¬most<s.data.toList.length:=by rw[ep];exact hlong
     go_enter func222,ntmps222;go_wp2;go_loop [8,21] (fun n i=>∃k:Nat,k<=s.size∧i=.int .i64 k∧(s.data.toList.take k).all (ee base)=true∧n=.int .i64 (iP base (s.data.toList.take k))) (fun _ i=>s.size-(intOf i).toNat)
     case atStart=>exact⟨0,ax _,rfl,rfl,rfl⟩
     case round =>
      obtain⟨k,hk,rfl,hall,rfl⟩:=hrel;have HN:(s.data.toList.take k).all (ee base)=true:=hall;have hbd:=sj base (by omega) hb1 _ hall (by have:(s.data.toList.take k).length<=k:=wu _ _;omega);generalize hn:iP base (s.data.toList.take k)=n at hbd;have Hn:Hid (iP base (s.data.toList.take k)=n):=hn;have p0:0<=n*base:=Int.mul_nonneg hbd.1 (by omega);have p1:n*base<=n*16:=Int.mul_le_mul_of_nonneg_left hb1 hbd.1;by_cases hlt:k<s.size
      . have hb:=s[k].toNat_lt;have hx:=ss s[k];by_cases hd:0<=bl s[k].toNat∧bl s[k].toNat<base
        . have HE:Hid (ee base s[k]=true):=by unfold Hid ee;rw[aV hd.1,aV hd.2];rfl
          have hd1:=aW (by omega);have hd2:=aW (by omega);go_wp2_with (go_at_call 259;refine(GR _ _ (by omega) (by omega)).mono ?_;rintro e w' ⟨rfl,rfl⟩)
          go_round
          case rel=>exact⟨k+1,by omega,by go_num,by rw[nj s k hlt,qS,HN,HE.o];rfl,by rw[nj s k hlt,zD,Hn.o]⟩
          case measure=>simp[intOf];omega
        . have HE:Hid (ee base s[k]=false):=by
           unfold Hid ee;by_cases hz:0<=bl s[k].toNat
           . rw[aW (show ¬bl s[k].toNat<base from fun h=>hd ⟨hz,h⟩)];simp
           . rw[aW hz];rfl
          by_cases hz:0<=bl s[k].toNat;all_goals
           go_wp2_with (go_at_call 259;refine(GR _ _ (by omega) (by omega)).mono ?_;rintro e w' ⟨rfl,rfl⟩)
           all_goals first | omega | (go_ret2;exact⟨qF (xi _ _ _ (si _ s k hlt HE.o)),rfl⟩)
      . go_wp2;go_ret2;exact⟨qF (by rw[<-Hn.o,nk s k (by omega)];exact uE _ _ _ (zC s (by omega)) (Int.not_lt.2 HL) (by rw[<-HN,nk s k (by omega)])),rfl⟩
theorem CM (s:ag)(w:World)(hs:s.size<=maxLen):
 Calls prog 356 #[.string s] w fun e w'=>e=.returned (.tuple #[.int .i64 (bB 16 6 s.data.toList).1,.bool (bB 16 6 s.data.toList).2])∧w'=w:=by
 have h:=DF s 16 6 w hs (by decide) (by decide) (by decide) (by decide);generalize bB 16 6 s.data.toList=p at h;go_enter func356,ntmps356;go_wp2_with (go_at_call 222;refine h.mono ?_;rintro e w' ⟨rfl,rfl⟩)
 go_ret2;exact⟨rfl,rfl⟩
theorem Cw (c:Int)(w:X):
 Calls prog 287 #[I .u8 c] w fun e w'=>e=Y (.bool (oS c))∧w'=w:=by
 go_enter func287,ntmps287;go_wp2;all_goals go_ret
 all_goals refine⟨dS ?_,rfl⟩
 all_goals (simp[oS];try omega)
theorem JH (c:Int)(w:X):
 Calls prog 297 #[I .u8 c] w fun e w'=>e=Y (.bool (sf c))∧w'=w:=by
 go_enter func297,ntmps297;go_wp2_with (go_at_call 287;refine(Cw _ _).mono ?_;rintro e w' ⟨rfl,rfl⟩)
 all_goals go_ret
 all_goals refine⟨dS ?_,rfl⟩
 all_goals (unfold sf;first | (rw[aV (show 97<=c by omega)];simp;try omega) | (rw[aW (show ¬97<=c by omega)];simp;try omega))
theorem zr (c:Int)(w:X):
 Calls prog 268 #[I .u8 c] w fun e w'=>e=Y (.bool (fI c))∧w'=w:=by
 have a:=IR ⟨#[33,35,36,37,38,39,42,43,45,46,94,95,96,124,126]⟩ c w;have b:Hid (Lib.indexByte [33,35,36,37,38,39,42,43,45,46,94,95,96,124,126] c.toNat.toUInt8=Lib.indexByte C3 c.toNat.toUInt8):=rfl;generalize (Lib.indexByte [33,35,36,37,38,39,42,43,45,46,94,95,96,124,126] c.toNat.toUInt8)=r at a b;cases f:kM c
 . cases g:sf c;all_goals
    have d:fI c=(kM c||sf c||decide (0<=r)):=by rw[b.o];rfl
    go_enter func268,ntmps268;go_wp2_with (first | (go_at_call 288;refine(zq _ _).mono ?_;rintro e w' ⟨rfl,rfl⟩) | (go_at_call 297;refine(JH _ _).mono ?_;rintro e w' ⟨rfl,rfl⟩) | (go_at_call 298;refine a.mono ?_;rintro e w' ⟨rfl,rfl⟩))
    go_ret;refine⟨dS ?_,rfl⟩;rw[d,f,g];simp
 . have d:fI c=(kM c||sf c||decide (0<=r)):=by rw[b.o];rfl
   go_enter func268,ntmps268;go_wp2_with (first | (go_at_call 288;refine(zq _ _).mono ?_;rintro e w' ⟨rfl,rfl⟩) | (go_at_call 297;refine(Fj _ _).mono ?_;rintro e w' ⟨rfl,rfl⟩) | (go_at_call 298;refine a.mono ?_;rintro e w' ⟨rfl,rfl⟩))
   go_ret;refine⟨dS ?_,rfl⟩;rw[d,f];simp
theorem Ro (s:ag)(w:World)(hs:s.size<=maxLen):
 Calls prog 267 #[.string s,.func (.func 268) #[] #[]] w fun e w'=>e=.returned (.bool (zy s.data.toList))∧w'=w:=by
 unfold maxLen at hs;go_enter func267,ntmps267;go_wp2;go_loop [8] (fun i=>∃k:Nat,k<=s.size∧i=.int .i64 k∧((s.data.toList.take k).all fun b=>fI b.toNat)=true) (fun i=>s.size-(intOf i).toNat)
 case atStart=>exact⟨0,ax _,rfl,rfl⟩
 case round =>
  obtain⟨k,hk,rfl,hno⟩:=hrel;have HN:((s.data.toList.take k).all fun b=>fI b.toNat)=true:=hno;by_cases hlt:k<s.size
  . cases he:fI (s[k].toNat:Int)
    . have HE:fI (s[k].toNat:Int)=false:=he;go_wp2_with (go_at_call 268;refine(zr _ _).mono ?_;rintro e w' ⟨rfl,rfl⟩)
      go_ret;refine⟨dS ?_,rfl⟩;exact(si (fun b=>fI b.toNat) s k hlt HE).symm
    . have HE:fI (s[k].toNat:Int)=true:=he;go_wp2_with (go_at_call 268;refine(zr _ _).mono ?_;rintro e w' ⟨rfl,rfl⟩)
      go_round
      case rel=>exact⟨k+1,by omega,by go_num,by rw[nj s k hlt,qS,HN,HE];rfl⟩
      case measure=>simp[intOf];omega
  . go_wp2;go_ret;refine⟨dS ?_,rfl⟩;rw[<-HN,nk s k (by omega)];rfl
theorem yY (s:ag)(w:World)(hs:s.size<=maxLen):
 Calls prog 231 #[.string s] w fun e w'=>e=.returned (.bool (cT s.data.toList))∧w'=w:=by
 by_cases h0:s.size=0
 . obtain rfl:=nh s h0;go_enter func231,ntmps231;go_wp2;go_ret;exact⟨rfl,rfl⟩
 . have hne:=sg s (by omega);have HT:Hid (zy s.data.toList=cT s.data.toList):=by
    unfold Hid cT zy;rw[<-Lib.toList_data,hne];simp
   go_enter func231,ntmps231;go_wp2_with (go_at_call 267;refine(Ro _ _ hs).mono ?_;rintro e w' ⟨rfl,rfl⟩)
   go_ret;exact⟨dS HT.o,rfl⟩
theorem MR (s:ag)(w:World)(hs:s.size<=maxLen):
 Calls prog 267 #[.string s,.func (.func 228) #[] #[]] w fun e w'=>e=.returned (.bool (cF s.data.toList))∧w'=w:=by
 unfold maxLen at hs;go_enter func267,ntmps267;go_wp2;go_loop [8] (fun i=>∃k:Nat,k<=s.size∧i=.int .i64 k∧((s.data.toList.take k).all fun b=>cG b.toNat)=true) (fun i=>s.size-(intOf i).toNat)
 case atStart=>exact⟨0,ax _,rfl,rfl⟩
 case round =>
  obtain⟨k,hk,rfl,hno⟩:=hrel;have HN:((s.data.toList.take k).all fun b=>cG b.toNat)=true:=hno;by_cases hlt:k<s.size
  . cases he:cG (s[k].toNat:Int)
    . have HE:cG (s[k].toNat:Int)=false:=he;go_wp2_with (go_at_call 228;refine(yW _ _).mono ?_;rintro e w' ⟨rfl,rfl⟩)
      go_ret;refine⟨dS ?_,rfl⟩;exact(si (fun b=>cG b.toNat) s k hlt HE).symm
    . have HE:cG (s[k].toNat:Int)=true:=he;go_wp2_with (go_at_call 228;refine(yW _ _).mono ?_;rintro e w' ⟨rfl,rfl⟩)
      go_round
      case rel=>exact⟨k+1,by omega,by go_num,by rw[nj s k hlt,qS,HN,HE];rfl⟩
      case measure=>simp[intOf];omega
  . go_wp2;go_ret;refine⟨dS ?_,rfl⟩;rw[<-HN,nk s k (by omega)];rfl
theorem rH (s:ag)(w:World)(hs:s.size<=maxLen):
 Calls prog 236 #[.string s] w fun e w'=>e=.returned (.bool (cF s.data.toList))∧w'=w:=by
 go_enter func236,ntmps236;go_wp2_with (go_at_call 267;refine(MR _ _ hs).mono ?_;rintro e w' ⟨rfl,rfl⟩)
 go_ret;exact⟨rfl,rfl⟩
theorem zh (s:ag)(w:X)(r:s.size<=2000):
 Calls prog 95 #[V s] w fun e w'=>e=Y (V ⟨(aU s.data.toList).toArray⟩)∧∃n,w'=w.drewN n:=by
 go_enter func95,ntmps95;go_wp2;go_loopw [3,4] (fun o i wr=>∃k n:Nat,∃x:ag,k<=s.size∧i=I J k∧o=V x∧x.data.toList=aU (s.data.toList.take k)∧wr=w.drewN n) (fun _ i _=>s.size-(intOf i).toNat)
 case atStart=>exact⟨0,0,⟨#[]⟩,ax _,rfl,rfl,rfl,rfl⟩
 case round =>
  obtain⟨k,n,x,t,rfl,rfl,f,rfl⟩:=hrel;have p:x.size<=2000:=by
   have:=sq f;rw[sh] at this;have u:(s.data.toList.take k).length<=k:=wu _ _;omega
  have g:x.data.toList=aU (s.data.toList.take k):=f;by_cases b:k<s.size
  . go_wp2;go_loopw [5,6] (fun c i wr=>∃j n:Nat,∃y:ag,j<=26∧i=I J j∧c=V y∧y.data.toList=[mA s[k] j]∧wr=w.drewN n) (fun _ i _=>26-(intOf i).toNat)
    case atStart=>exact⟨0,n,_,ax _,rfl,rfl,by rw[CZ s k b,I5],rfl⟩
    case round =>
     obtain⟨j,n,y,v,rfl,rfl,l,rfl⟩:=hrel;have q:y.size<=1:=by have:=sq l;simp at this;omega
     have m:y.data.toList=[mA s[k] j]:=l;by_cases a:j<26
     . go_wp2;go_quiet (fail)
       go_wp2
       . have d:(((((⟨#[65,66,67,68,69,70,71,72,73,74,75,76,77,78,79,80,81,82,83,84,85,86,87,88,89,90]⟩:ag)[j]'a).toNat:Nat):Int)==(s[k].toNat:Int))=true:=by assumption
         go_roundw
         case rel=>exact⟨j+1,n+nq,_,by omega,by go_num,rfl,Ja _ _ a d,by simp[World.drewN]⟩
         case measure=>simp[intOf];omega
       . have d:(((((⟨#[65,66,67,68,69,70,71,72,73,74,75,76,77,78,79,80,81,82,83,84,85,86,87,88,89,90]⟩:ag)[j]'a).toNat:Nat):Int)==(s[k].toNat:Int))=F:=by assumption
         go_roundw
         case rel=>exact⟨j+1,n+nq,y,by omega,by go_num,rfl,by rw[m,I4 _ _ a d],by simp[World.drewN]⟩
         case measure=>simp[intOf];omega
     . obtain rfl:j=26:=by omega
       go_wp2;go_roundw
       case rel=>exact⟨k+1,n,x++y,by omega,by go_num,rfl,by rw[my,g,m,nj s k b,I6];rfl,rfl⟩
       case measure=>simp[intOf];omega
  . go_wp2;go_ret;exact⟨mV (pB (by rw[g,nk s k (by omega)])),n,rfl⟩
theorem Rz (b:UInt8)(w:X):
 Calls prog 127 #[I .u8 b.toNat] w fun e w'=>e=Y (I J (bl b.toNat))∧Below w.heap.size w w':=by
 have v:=b.toNat_lt;have t:(convert 31 9 (.slice (M ⟨w.heap.size,0,none⟩) 1 1)).run prog (w.alloc (K #[I .u8 b.toNat] 5))=.ok (V ⟨#[b]⟩) (w.alloc (K #[I .u8 b.toNat] 5)) :=
  run_convert_bytes_back (P:=prog) (w.alloc (K #[I .u8 b.toNat] 5)) 31 9 5 ⟨w.heap.size,0,none⟩ 1 [b] underlying31 underlying5 underlying9 (fun j p=>by
   obtain rfl:j=0:=by simp at p;exact p
   rw[show((⟨w.heap.size,0,none⟩:Addr).add 0)=⟨w.heap.size,0,none⟩ from rfl,World.cell?_alloc_at _ _ _ _ rfl];rfl)
 have a:=zh ⟨#[b]⟩ (w.alloc (K #[I .u8 b.toNat] 5)) (by show 1<=2000;omega);rw[show(⟨(aU (⟨#[b]⟩:ag).data.toList).toArray⟩:ag)=⟨#[fR b]⟩ from rfl] at a;have c:Below w.heap.size w (w.alloc (K #[I .u8 b.toNat] 5)):=(aq _ _).alloc (ak _) _;go_enter func127,ntmps127;go_wp2_with fail;refine a.mono ?_;rintro e u ⟨rfl,x,d⟩;have f:Below w.heap.size w u:=by rw[d];exact⟨c.os,c.tape,c.output,c.size,c.block⟩
 clear d c a t;go_wp2;go_loop [5] (fun i=>∃j:Nat,j<=16∧i=I J j∧∀m,m<j->fR b≠mx.getD m 0) (fun i=>16-(intOf i).toNat)
 case atStart=>exact⟨0,ax _,rfl,fun m q=>absurd q (pk _)⟩
 case round =>
  obtain⟨j,p,rfl,r⟩:=hrel;have s:∀m,m<j->fR b≠mx.getD m 0:=r;by_cases g:j<16
  . have k:=Je b j g;by_cases l:fR b=mx.getD j 0
    . rw[aV l] at k;have n:Hid (bl b.toNat=j):=Jd b j g l;clear l;go_wp2;go_ret;exact⟨jV n.o.symm,f⟩
    . rw[aW l] at k;have n:fR b≠mx.getD j 0:=l;go_wp2;go_round
      case rel=>exact⟨j+1,by omega,by go_num,fun m q=>by
       rcases fe m j with h | h
       . exact s m h
       . obtain rfl:m=j:=by omega
         exact n⟩
      case measure=>simp[intOf];omega
  . have n:Hid (bl b.toNat=-1):=Jb b (fun m q=>s m (by omega));go_wp2;go_ret;exact⟨jV n.o.symm,f⟩
theorem HH (c:Int)(s:ag)(w:World)(hs:s.size<=maxLen):
 Calls prog 126 #[.int .u8 c,.string s] w fun e w'=>e=.returned (.bool (mz c s.data.toList))∧w'=w:=by
 unfold maxLen at hs;go_enter func126,ntmps126;go_wp2;go_loop [5] (fun i=>∃k:Nat,k<=s.size∧i=.int .i64 k∧mz c (s.data.toList.take k)=false) (fun i=>s.size-(intOf i).toNat)
 case atStart=>exact⟨0,ax _,rfl,rfl⟩
 case round =>
  obtain⟨k,hk,rfl,hno⟩:=hrel;have HN:mz c (s.data.toList.take k)=false:=hno;by_cases hlt:k<s.size
  . by_cases he:((s[k].toNat:Int))=c
    . have HE:(s[k].toNat:Int)=c:=he;have hb:=cM.2 he;go_wp2;go_ret;refine⟨dS ?_,rfl⟩;exact(I2 (fun b=>(b.toNat:Int)==c) s k hlt (cM.2 HE)).symm
    . have hb:(((s[k].toNat:Int))==c)=false:=aO.2 he;have HB:(((s[k].toNat:Int))==c)=false:=hb;go_wp2;go_round
      case rel=>exact⟨k+1,by omega,by go_num,by rw[nj s k hlt,I3,HN,HB];rfl⟩
      case measure=>simp[intOf];omega
  . go_wp2;go_ret;refine⟨dS ?_,rfl⟩;rw[<-HN,nk s k (by omega)]
theorem My (s:ag)(w:World)(hs:s.size<=maxLen):
 Calls prog 78 #[.string s] w fun e w'=>e=.returned (.tuple #[.int .i64 (bB 10 9 s.data.toList).1,.bool (bB 10 9 s.data.toList).2])∧Below w.heap.size w w':=by
 unfold maxLen at hs;by_cases h0:s.size=0
 . obtain rfl:=nh s h0;go_enter func78,ntmps78;go_wp2;go_ret2;exact⟨qF (uD _ _ _ (Or.inl rfl)),aq _ _⟩
 . have hpos:decide ((s.size:Int)<1)=false:=aW (by omega);by_cases hlong:(9:Int)<s.size
   . have HL:(9:Int)<s.data.toList.length:=by rw[ep];exact hlong
     go_enter func78,ntmps78;go_wp2;go_ret2;exact⟨qF (uD _ _ _ (Or.inr HL)),aq _ _⟩
   . have hlg:decide ((9:Int)<(s.size:Int))=false:=aW hlong;have HL:(s.data.toList.length:Int)<=9:=by rw[ep];omega
     go_enter func78,ntmps78;go_wp2;go_loopw [4,5] (fun n i wr=>∃k:Nat,k<=s.size∧i=.int .i64 k∧(s.data.toList.take k).all (ee 10)=true∧n=.int .i64 (iP 10 (s.data.toList.take k))∧Below w.heap.size w wr) (fun _ i _=>s.size-(intOf i).toNat)
     case atStart=>exact⟨0,ax _,rfl,rfl,rfl,aq _ _⟩
     case round =>
      obtain⟨k,hk,rfl,hall,rfl,hbl⟩:=hrel;have HN:(s.data.toList.take k).all (ee 10)=true:=hall;have hbd:=sj 10 (by omega) (by omega) _ hall (by have:(s.data.toList.take k).length<=k:=wu _ _;omega);generalize hn:iP 10 (s.data.toList.take k)=n at hbd;have Hn:iP 10 (s.data.toList.take k)=n:=hn;by_cases hlt:k<s.size
      . have hb:=s[k].toNat_lt;have hx:=ss s[k];have hone:=fun wx=>HH (s[k].toNat:Int) ⟨#[48,49,50,51,52,53,54,55,56,57]⟩ wx (by decide);have ho:mz (s[k].toNat:Int) (⟨#[48,49,50,51,52,53,54,55,56,57]⟩:ag).data.toList=ee 10 s[k]:=(I7 _).trans (Ji _).symm;rw[ho] at hone;have HO:∀wx,Calls prog 126 #[.int .u8 (s[k].toNat:Int),.string ⟨#[48,49,50,51,52,53,54,55,56,57]⟩] wx fun e w'=>e=.returned (.bool (ee 10 s[k]))∧w'=wx:=hone;cases hd:ee 10 s[k]
        . have HE:ee 10 s[k]=false:=hd;go_wp2_with fail;refine(HO _).mono ?_;rintro e w1 ⟨rfl,rfl⟩;go_wp2;go_ret2;exact⟨qF (xi _ _ _ (si _ s k hlt HE)),hbl⟩
        . have HE:ee 10 s[k]=true:=hd;have hx2:0<=bl s[k].toNat:=by
           unfold ee at hd;rw[gr] at hd;exact tG hd.1
          go_wp2_with fail;refine(HO _).mono ?_;rintro e w1 ⟨rfl,rfl⟩;go_wp2_with fail;refine(Rz s[k] _).mono ?_;rintro e w2 ⟨rfl,hb2⟩;go_wp2;go_roundw
          case rel=>exact⟨k+1,by omega,by go_num,by rw[nj s k hlt,qS,HN,HE];rfl,by rw[nj s k hlt,zD,Hn,Int.mul_comm],hbl.trans (hb2.mono hbl.size)⟩
          case measure=>simp[intOf];omega
      . go_wp2;go_ret2;exact⟨qF (by rw[<-Hn,nk s k (by omega)];exact uE _ _ _ (zC s (by omega)) (Int.not_lt.2 HL) (by rw[<-HN,nk s k (by omega)])),hbl⟩
def lL (s:ag)(k j:Nat):Value:=I .u8 ((if j<k then fR (s.data.toList.getD j 0) else s.data.toList.getD j 0).toNat:Int)
theorem Mz (s:ag)(k j:Nat)(h:fR (s.data.toList.getD k 0)=s.data.toList.getD k 0):M (lL s k j)=M (lL s (k+1) j):=by grind [fR,lL]
theorem KO (s:ag)(k j:Nat)(h:j≠k):M (lL s k j)=M (lL s (k+1) j):=by grind [lL]
theorem rN (s:ag)(w:World)(hs:s.size<=maxLen):
 Calls prog 258 #[.string s] w fun e w'=>e=.returned (.string ⟨(aU s.data.toList).toArray⟩)∧Below w.heap.size w w':=by
 unfold maxLen at hs;have qL:=run_bytes_of_string (P:=prog) w 9 31 5 s underlying9 underlying31 underlying5;generalize grownCap w s.size 0 5=cap at qL;have hat:∀j,j<s.size->(bytesRow s cap)[j]? = some (lL s 0 j):=fun j hj=>by
  rw[bytesRow_at s cap j hj];unfold lL;rw[if_neg (by omega)];have e:s.data.toList.getD j 0=s.data[j]'hj:=by
   simp[List.getD,hj]
  rw[e]
 have hsz:s.size<=(bytesRow s cap).size:=by unfold bytesRow;simp
 generalize bytesRow s cap=C at qL hat hsz;go_enter func258,ntmps258;go_wp2;have hB0:Below w.heap.size w (w.alloc (.cells C 5 (C.size,C.size+1))).drew:=((aq _ _).alloc (ak _) _).drew;have hc0:∀j,j<s.size->((w.alloc (.cells C 5 (C.size,C.size+1))).drew).cell? ⟨w.heap.size,j,none⟩=some (lL s 0 j):=fun j hj=>by
  rw[<-hat j hj];exact World.cell?_alloc_mark w C 5 _ j
 have hf0:∀j,j<s.size->((w.alloc (.cells C 5 (C.size,C.size+1))).drew).frozen? ⟨w.heap.size,j,none⟩=false:=fun j hj=>by
  refine(World.frozen?_alloc_mark w C 5 C.size (C.size+1) j).trans ?_;rw[aW (by omega)];rfl
 go_loopw [10] (fun i wr=>∃k:Nat,k<=s.size∧i=.int .i64 k∧Below w.heap.size w wr∧(∀j,j<s.size->wr.cell? ⟨w.heap.size,j,none⟩=some (lL s k j))∧(∀j,j<s.size->wr.frozen? ⟨w.heap.size,j,none⟩=false)) (fun i _=>s.size-(intOf i).toNat)
 case atStart=>exact⟨0,ax _,rfl,hB0,hc0,hf0⟩
 case round =>
  obtain⟨k,hk,rfl,hbl,hcs,hfs⟩:=hrel;have HC:Hid (∀j,j<s.size->wr.cell? ⟨w.heap.size,j,none⟩=some (lL s k j)):=hcs;have HF:Hid (∀j,j<s.size->wr.frozen? ⟨w.heap.size,j,none⟩=false):=hfs;clear hcs hfs;by_cases hlt:k<s.size
  . have hb:=s[k].toNat_lt;have e0:s.data.toList.getD k 0=s[k]:=by
     have:s.data.toList[k]? = some s[k]:=gU (by simpa using hlt);simp[List.getD,this]
    have hcell:wr.cell? ⟨w.heap.size,k,none⟩=some (.int .u8 s[k].toNat):=by
     rw[HC.o k hlt];unfold lL;rw[if_neg (by omega),e0]
    have hfz:=HF.o k hlt;have H0:s.data.toList.getD k 0=s[k]:=e0;cases hcap:oS s[k].toNat
    . have HL:Hid (fR s[k]=s[k]):=Jh _ hcap;go_wp2_with (go_at_call 287;refine(Cw _ _).mono ?_;rintro e w' ⟨rfl,rfl⟩)
      go_roundw
      case rel=>exact⟨k+1,by omega,by go_num,hbl,fun j hj=>by rw[HC.o j hj];exact Mz s k j (by rw[H0,HL.o]),HF.o⟩
      case measure=>simp[intOf];omega
    . have HL:Hid (((fR s[k]).toNat:Int)=s[k].toNat-65+97):=Jc _ hcap;have hcr:65<=s[k].toNat∧s[k].toNat<=90:=by
       unfold oS at hcap;rw[gr,bS,bS] at hcap;omega
      go_wp2_with (go_at_call 287;refine(Cw _ _).mono ?_;rintro e w' ⟨rfl,rfl⟩)
      go_roundw
      case rel =>
       refine⟨k+1,by omega,by go_num,hbl.setCell (ak _) _,fun j hj=>?_,fun j hj=>by rw[World.frozen?_setCell];exact HF.o j hj⟩;by_cases hjk:j=k
       . subst hjk;rw[tJ (h:=hcell)];unfold lL;rw[if_pos (by omega),H0,HL.o]
       . rw[tL (h:=by intro h;injection h with _ h2;exact hjk h2.symm),HC.o j hj];exact KO s k j hjk
      case measure=>simp[intOf];omega
  . obtain rfl:k=s.size:=by omega
    have hback:(convert 31 9 (.slice (some ⟨w.heap.size,0,none⟩) s.size cap)).run prog wr=.ok (.string ⟨(aU s.data.toList).toArray⟩) wr:=by
     have h:=run_convert_bytes_back (P:=prog) wr 31 9 5 ⟨w.heap.size,0,none⟩ cap (aU s.data.toList) underlying31 underlying5 underlying9 (fun j hj=>by
      have hj':j<s.size:=by rw[sh,ep] at hj;exact hj
      have ha:((⟨w.heap.size,0,none⟩:Addr).add j)=⟨w.heap.size,j,none⟩:=by unfold Addr.add;simp;omega
      rw[ha,HC.o j hj'];unfold lL;rw[if_pos hj'];have e:(aU s.data.toList)[j]=fR (s.data.toList.getD j 0):=by
       simp[aU,List.getD,hj']
      rw[e])
     rw[sh,ep] at h;exact h
    generalize hr:(⟨(aU s.data.toList).toArray⟩:ag)=r at hback;have HR:(⟨(aU s.data.toList).toArray⟩:ag)=r:=hr;go_wp2;go_ret;exact⟨mV HR.symm,hbl⟩
theorem wJ (s:ag)(w:World)(hs:s.size<=maxLen):
 Calls prog 171 #[.string s] w fun e w'=>e=.returned (.tuple #[.int .i64 (bB 10 9 s.data.toList).1,.bool (bB 10 9 s.data.toList).2])∧w'=w:=by
 have h:=DF s 10 9 w hs (by decide) (by decide) (by decide) (by decide);generalize bB 10 9 s.data.toList=p at h;go_enter func171,ntmps171;go_wp2_with (go_at_call 222;refine h.mono ?_;rintro e w' ⟨rfl,rfl⟩)
 go_ret2;exact⟨rfl,rfl⟩
theorem UG (f:Nat):∀(n:Nat) (w:X),n<10 ^ (f+1)->n<4611686018427387904->f<30 ->
 Calls prog 30 #[I J n] w fun e w'=>e=Y (V ⟨(ba f n).toArray⟩)∧∃m,w'=w.drewN m:=by
 induction f with
 | zero =>
   intro n w c _ _;have g:n<10:=by simpa using c
   have b:Hid (((⟨#[48,49,50,51,52,53,54,55,56,57]⟩:ag).extract n (n+1))=⟨(ba 0 n).toArray⟩):=pB (zA n g);go_enter func30,ntmps30;go_wp2;go_ret;exact⟨mV b.o,0,rfl⟩
 | succ f j =>
   intro n w c p q;by_cases a:n<10
   . have b:Hid (((⟨#[48,49,50,51,52,53,54,55,56,57]⟩:ag).extract n (n+1))=⟨(ba (f+1) n).toArray⟩):=pB (by rw[zA n a,ba,if_pos a]);go_enter func30,ntmps30;go_wp2;go_ret;exact⟨mV b.o,0,rfl⟩
   . have k:n / 10<10 ^ (f+1):=by
      rw[Nat.pow_succ] at c;omega
     have i:∀w,Calls prog 30 #[I J ((n:Int) / 10)] w fun e w'=>e=Y (V ⟨(ba f (n / 10)).toArray⟩)∧∃m,w'=w.drewN m:=fun w=>(show((n / 10:Nat):Int)=(n:Int) / 10 by omega)▸j (n / 10) w k (by omega) (by omega);have l:=jq f (n / 10);go_enter func30,ntmps30;go_wp2;have b:Hid ((⟨(ba f (n / 10)).toArray⟩:ag)++(⟨#[48,49,50,51,52,53,54,55,56,57]⟩:ag).extract (n % 10) (n % 10+1)=⟨(ba (f+1) n).toArray⟩) :=
      pB (by rw[my,zA _ (by omega),ba,if_neg a])
     generalize (ba f (n / 10))=d at i l b;go_quiet ((go_at_call 30;exact Calls.quiet_of (i _)))
     go_wp2;go_ret;exact⟨mV b.o,nq,rfl⟩
theorem OE:(prog.info? 237).map (fun i=>(i.zero,i.size,i.bytes))=M (M (.agg #[V ⟨#[]⟩,V ⟨#[]⟩]),2,32):=by kernel_rfl
theorem RE (a b:ag):(a.toList==b.toList)=decide (a.data.toList=b.data.toList):=by
 rw[Lib.toList_data,Lib.toList_data,ik];simp
def dy (ps:aC):List cZ:=ps.map fun p=>(p.1.data.toList,p.2.data.toList)
theorem zb (a:aC):(dy a).length=a.length:=by simp[dy]
theorem ML (a b:aC):dy (a++b)=dy a++dy b:=by simp[dy]
theorem IM (c:Int)(w:X)(a:0<=c)(b:c<=255):
 Calls prog 144 #[I .u8 c] w fun e w'=>e=Y (.bool (fI c))∧w'=w:=by
 have d:Hid (mz c xh=fI c):=I1 c a b;have f:=HH c ⟨xh.toArray⟩ w (by decide);go_enter func144,ntmps144;go_wp2_with fail;refine f.mono ?_;rintro e w' ⟨rfl,rfl⟩;go_wp2;go_ret;exact⟨dS d.o,rfl⟩
theorem CB (c:Int)(w:X):
 Calls prog 90 #[I .u8 c] w fun e w'=>e=Y (.bool (cG c))∧w'=w:=by
 by_cases b:c=9
 . subst b;go_enter func90,ntmps90;go_wp2;go_ret;exact⟨dS (by decide),rfl⟩
 . have a:(c==9)=F:=aO.2 b;go_enter func90,ntmps90;go_wp2;all_goals go_ret
   all_goals refine⟨dS ?_,rfl⟩
   all_goals (unfold cG;rw[a];first | (rw[aV (show 32<=c by omega)];simp) | (rw[aW (show ¬32<=c by omega)];simp))
theorem MA (s:ag)(w:World)(hs:s.size<=maxLen):
 Calls prog 93 #[.string s] w fun e w'=>e=.returned (.bool (cF s.data.toList))∧w'=w:=by
 unfold maxLen at hs;go_enter func93,ntmps93;go_wp2;go_loop [3] (fun i=>∃k:Nat,k<=s.size∧i=.int .i64 k∧((s.data.toList.take k).all fun b=>cG b.toNat)=true) (fun i=>s.size-(intOf i).toNat)
 case atStart=>exact⟨0,ax _,rfl,rfl⟩
 case round =>
  obtain⟨k,hk,rfl,hno⟩:=hrel;have HN:((s.data.toList.take k).all fun b=>cG b.toNat)=true:=hno;by_cases hlt:k<s.size
  . have hb:=s[k].toNat_lt;cases he:cG (s[k].toNat:Int)
    . have HE:cG (s[k].toNat:Int)=false:=he;go_wp2_with (go_at_call 90;refine(CB _ _).mono ?_;rintro e w' ⟨rfl,rfl⟩)
      go_ret;refine⟨dS ?_,rfl⟩;exact(si (fun b=>cG b.toNat) s k hlt HE).symm
    . have HE:cG (s[k].toNat:Int)=true:=he;go_wp2_with (go_at_call 90;refine(CB _ _).mono ?_;rintro e w' ⟨rfl,rfl⟩)
      go_round
      case rel=>exact⟨k+1,by omega,by go_num,by rw[nj s k hlt,qS,HN,HE];rfl⟩
      case measure=>simp[intOf];omega
  . go_wp2;go_ret;refine⟨dS ?_,rfl⟩;unfold cF;rw[<-HN,nk s k (by omega)]
theorem Dv (n:Int)(w:X):
 Calls prog 187 #[I J n] w fun e w'=>e=Y (V ⟨(ib n).toArray⟩)∧w'=w:=by
 by_cases b:n=200
 . subst b;go_enter func187,ntmps187;go_wp2;go_ret;exact⟨rfl,rfl⟩
 by_cases c:n=201
 . subst c;go_enter func187,ntmps187;go_wp2;go_ret;exact⟨rfl,rfl⟩
 by_cases d:n=204
 . subst d;go_enter func187,ntmps187;go_wp2;go_ret;exact⟨rfl,rfl⟩
 by_cases f:n=400
 . subst f;go_enter func187,ntmps187;go_wp2;go_ret;exact⟨rfl,rfl⟩
 by_cases g:n=404
 . subst g;go_enter func187,ntmps187;go_wp2;go_ret;exact⟨rfl,rfl⟩
 by_cases i:n=405
 . subst i;go_enter func187,ntmps187;go_wp2;go_ret;exact⟨rfl,rfl⟩
 by_cases j:n=409
 . subst j;go_enter func187,ntmps187;go_wp2;go_ret;exact⟨rfl,rfl⟩
 by_cases k:n=412
 . subst k;go_enter func187,ntmps187;go_wp2;go_ret;exact⟨rfl,rfl⟩
 by_cases l:n=413
 . subst l;go_enter func187,ntmps187;go_wp2;go_ret;exact⟨rfl,rfl⟩
 by_cases m:n=415
 . subst m;go_enter func187,ntmps187;go_wp2;go_ret;exact⟨rfl,rfl⟩
 by_cases a:n=507
 . subst a;go_enter func187,ntmps187;go_wp2;go_ret;exact⟨rfl,rfl⟩
 have q:ib n=[]:=by
  refine Bz mI n (fun p o=>?_);simp only[mI,fr,List.not_mem_nil,or_false] at o;rcases o with rfl | rfl | rfl | rfl | rfl | rfl | rfl | rfl | rfl | rfl | rfl;all_goals (intro e;simp only at e;omega)
 have s:(n==200)=F:=by rw[aO];exact b
 have t:(n==201)=F:=by rw[aO];exact c
 have u:(n==204)=F:=by rw[aO];exact d
 have v:(n==400)=F:=by rw[aO];exact f
 have x:(n==404)=F:=by rw[aO];exact g
 have y:(n==405)=F:=by rw[aO];exact i
 have z:(n==409)=F:=by rw[aO];exact j
 have B:(n==412)=F:=by rw[aO];exact k
 have C:(n==413)=F:=by rw[aO];exact l
 have D:(n==415)=F:=by rw[aO];exact m
 have r:(n==507)=F:=by rw[aO];exact a
 go_enter func187,ntmps187;go_wp2;go_ret;exact⟨by rw[q];rfl,rfl⟩
theorem IS (s:ag)(w:World)(hs:s.size<=maxLen):
 Calls prog 91 #[.string s] w fun e w'=>e=.returned (.bool (cT s.data.toList))∧w'=w:=by
 unfold maxLen at hs;go_enter func91,ntmps91;go_wp2;go_loop [3] (fun i=>∃k:Nat,k<=s.size∧i=.int .i64 k∧((s.data.toList.take k).all fun b=>fI b.toNat)=true) (fun i=>s.size-(intOf i).toNat)
 case atStart=>exact⟨0,ax _,rfl,rfl⟩
 case round =>
  obtain⟨k,hk,rfl,hno⟩:=hrel;have HN:((s.data.toList.take k).all fun b=>fI b.toNat)=true:=hno;by_cases hlt:k<s.size
  . have hb:=s[k].toNat_lt;cases he:fI (s[k].toNat:Int)
    . have HE:fI (s[k].toNat:Int)=false:=he;go_wp2_with (go_at_call 144;refine(IM _ _ (by omega) (by omega)).mono ?_;rintro e w' ⟨rfl,rfl⟩)
      go_ret;refine⟨dS ?_,rfl⟩;unfold cT;rw[si (fun b=>fI b.toNat) s k hlt HE];simp
    . have HE:fI (s[k].toNat:Int)=true:=he;go_wp2_with (go_at_call 144;refine(IM _ _ (by omega) (by omega)).mono ?_;rintro e w' ⟨rfl,rfl⟩)
      go_round
      case rel=>exact⟨k+1,by omega,by go_num,by rw[nj s k hlt,qS,HN,HE];rfl⟩
      case measure=>simp[intOf];omega
  . go_wp2;go_ret;refine⟨dS ?_,rfl⟩;have h:((s.data.toList).all fun b=>fI b.toNat)=true:=by rw[<-HN,nk s k (by omega)]
    unfold cT;rw[h];by_cases hz:s.size=0
    . obtain rfl:=nh s hz;rfl
    . rw[<-Lib.toList_data,sg s (by omega)];simp;omega
theorem MQ (s:ag)(w:World)(hs:s.size<=maxLen):
 Calls prog 94 #[.string s] w fun e w'=>e=.returned (.string ⟨(Lib.trimS s.data.toList aX).toArray⟩)∧w'=w:=by
 unfold maxLen at hs;go_enter func94,ntmps94;go_wp2;go_loop [0] (fun v=>∃x:ag,v=.string x∧x.size<=s.size∧Lib.trimLeftS x.data.toList aX=Lib.trimLeftS s.data.toList aX) (fun v=>rY v)
 case atStart=>exact⟨s,rfl,ak _,rfl⟩
 case round =>
  obtain⟨x,rfl,hxs,hx⟩:=hrel;have HX:Hid (Lib.trimLeftS x.data.toList aX=Lib.trimLeftS s.data.toList aX):=hx;by_cases hgo:∃h:0<x.size,aX.contains (x[0]'h)=true
  . obtain⟨h0,hp⟩:=hgo;have hpos:=aV (by omega);have HP:Hid (aX.contains (x[0]'h0)=true):=hp;rw[xf] at hp;cases h32:(((x[0]'h0).toNat:Int)==32)
    . rw[h32,Bool.false_or] at hp;go_wp2;go_round
      case rel=>exact⟨x.extract 1 x.size,rfl,by simp;omega,by rw[Lib.extract_to_end,C2 x h0 HP.o,HX.o]⟩
      case measure=>simp[rY];omega
    . skip;go_wp2;go_round
      case rel=>exact⟨x.extract 1 x.size,rfl,by simp;omega,by rw[Lib.extract_to_end,C2 x h0 HP.o,HX.o]⟩
      case measure=>simp[rY];omega
  . have hstop:∀h:0<x.size,aX.contains (x[0]'h)=false:=fun h=>by
     cases e:aX.contains (x[0]'h)
     . rfl
     . exact absurd ⟨h,e⟩ hgo
    have HD:Hid (x.data.toList=Lib.trimLeftS s.data.toList aX):=(Jn x hstop).symm.trans HX.o;have hne:x.size=0∨(0<x.size∧∀h:0<x.size,(((x[0]'h).toNat:Int)==32)=false∧(((x[0]'h).toNat:Int)==9)=false):=by
     rcases ww x.size with h | h
     . exact Or.inl h
     . refine Or.inr ⟨h,fun h'=>?_⟩;have:=hstop h';rw[xf,yv] at this;exact this
    rcases hne with hz | ⟨h0,hne⟩
    . have hpos:decide ((0:Int)<(x.size:Int))=false:=aW (by omega);obtain rfl:=nh x hz;go_wp2;refine wp_loop_rounds 1 ?_;rw[rounds_succ];go_wp2;go_ret;refine⟨mV ?_,rfl⟩;rw[<-xj,<-HD.o];rfl
    . have hpos:decide ((0:Int)<(x.size:Int))=true:=aV (by omega);have h32:=(hne h0).1;have h9:=(hne h0).2;go_wp2;go_loop [0] (fun v=>∃y:ag,v=.string y∧y.size<=x.size∧Lib.trimRightS y.data.toList aX=Lib.trimRightS x.data.toList aX) (fun v=>rY v)
      case atStart=>exact⟨x,rfl,ak _,rfl⟩
      case round =>
       obtain⟨y,rfl,hys,hy⟩:=hrel;have HY:Hid (Lib.trimRightS y.data.toList aX=Lib.trimRightS x.data.toList aX):=hy;by_cases hgo:∃h:0<y.size,aX.contains (y[y.size-1]'(by omega))=true
       . obtain⟨hy0,hp⟩:=hgo;have hypos:=aV (by omega);have HP:Hid (aX.contains (y[y.size-1]'(by omega))=true):=hp;rw[xf] at hp;cases hy32:(((y[y.size-1]'(by omega)).toNat:Int)==32)
         . rw[hy32,Bool.false_or] at hp;go_wp2;go_round
           case rel=>exact⟨y.extract 0 (y.size-1),rfl,by simp;omega,by rw[Lib.extract_data,List.drop_zero,Nat.sub_zero,C4 y hy0 HP.o,HY.o]⟩
           case measure=>simp[rY];omega
         . skip;go_wp2;go_round
           case rel=>exact⟨y.extract 0 (y.size-1),rfl,by simp;omega,by rw[Lib.extract_data,List.drop_zero,Nat.sub_zero,C4 y hy0 HP.o,HY.o]⟩
           case measure=>simp[rY];omega
       . have hstop:∀h:0<y.size,aX.contains (y[y.size-1]'(by omega))=false:=fun h=>by
          cases e:aX.contains (y[y.size-1]'(by omega))
          . rfl
          . exact absurd ⟨h,e⟩ hgo
         have HF:Hid (y=⟨(Lib.trimS s.data.toList aX).toArray⟩):=pB (by rw[<-xj,<-HD.o,<-HY.o,Jo y hstop]);rcases ww y.size with hz | hy0
         . have hypos:decide ((0:Int)<(y.size:Int))=false:=aW (by omega);go_wp2;go_ret;exact⟨mV HF.o,rfl⟩
         . have hypos:decide ((0:Int)<(y.size:Int))=true:=aV (by omega);have hst:=hstop hy0;rw[xf,yv] at hst;have hy32:=hst.1;have hy9:=hst.2;go_wp2;go_ret;exact⟨mV HF.o,rfl⟩
