/- Small texts, one behind the other: StAny, StAnyB, RqTgt. -/
import Derived.Test.YtjmndjmhjleabaaGreatDoorAl
import Derived.Test.YtjmndjmhjleabaaGreatDoorAm
import Derived.Test.YtjmndjmhjleabaaGreatDoorBase
import Derived.Test.YtjmndjmhjleabaaGreatDoorShelf
import Derived.Test.YtjmndjmhjleabaaGreatDoorPk5
import Derived.Laws.RangeAny
import Derived.Laws.Runes
import Derived.Lib.IndexAny
import Derived.Handy
import Derived.WalkMore
import Derived.Deep.RegionHeld3
set_option maxHeartbeats 4000000
set_option maxRecDepth 100000
open Go.Proofs.Tryz
namespace Go.Proofs.YtjmndjmhjleabaaGreatDoor
open Go.RowKit
theorem count_one (s:ay)(c:UInt8)(w:World):
 Calls prog 186 #[.string s,.string ⟨#[c]⟩] w fun e w'=>e=.returned (.int .i64 ((s.data.toList.count c:Nat):Int))∧w'=w:=Any.strings_Count_one Tryz.lays138 s c w
theorem Pn (s:ay)(w:World):
 Calls prog 49 #[.string s,.string ⟨#[47]⟩] w fun e w'=>e=.returned (.bool (decide (s.data.toList.head? = some 47)))∧w'=w:=by
 have h:=Any.strings_HasPrefix Tryz.lays99 s ⟨#[47]⟩ w;have e:Lib.hasPrefix s.data.toList [47]=decide (s.data.toList.head? = some 47):=by
  unfold Lib.hasPrefix;cases s.data.toList with
  | nil=>rfl
  | cons a t =>
    have:(47==a)=decide (a=47):=by rw[aH,aT,bR];exact eq_comm
    simpa[List.isPrefixOf] using this
 rw[<-e];exact h
theorem MF (w:World)(n:Nat):aj w (w.drewN n).drew:=(iU ⟨n,rfl⟩).trans ⟨rfl,rfl,rfl,aM _,fun _ _=>rfl⟩
theorem Fh (w:World)(s:ay)(i:Nat):aj w (w.iter s i):=(fJ _ _).alloc (aM _) _
theorem Po (s:ay)(i:Nat)(h:i<s.size)(ha:128<=(s[i]'h).toNat):
 128<=(Utf8.decode s i).1∧Utf8.valid ((Utf8.decode s i).1:Int)=true∧1<=(Utf8.decode s i).2∧i+(Utf8.decode s i).2<=s.size∧∀k,k<(Utf8.decode s i).2->128<=(s.get! (i+k)).toNat:=by
 have hn:¬(s[i]'h).toNat<128:=by omega
 have h0:128<=(s.get! (i+0)).toNat:=by rw[get_at s i h];exact ha
 have hb:∀k,(s.get! (i+k)).toNat<256:=fun k=>(s.get! (i+k)).toNat_lt;have b1:=hb 1;have b2:=hb 2;have b3:=hb 3;have b0:=hb 0
 simp only[Utf8.decode,get_at s i h,hn,if_false];rw[get_at s i h] at h0 b0;have one:128<=Utf8.runeError∧Utf8.valid (Utf8.runeError:Int)=true∧1<=1∧i+1<=s.size∧∀k,k<1->128<=(s.get! (i+k)).toNat :=
  ⟨by decide, by decide, aM _, h, fun k hk => by
   obtain rfl:k=0:=by omega
   rw[get_at s i h];exact ha⟩
 split
 . rename_i c;simp only[dh,aT,bR] at c;split
   . rename_i d;refine⟨d,?_,by omega,by omega,fun k hk=>?_⟩
     . simp only[Utf8.valid,Bool.or_eq_true,dh,bR];omega
     . match k,hk with
       | 0,_=>rw[get_at s i h];exact ha
       | 1,_=>omega
   . exact one
 . split
   . rename_i c;simp only[dh,aT,bR] at c;split
     . rename_i d;simp only[dh,bR] at d;refine⟨by omega,d.2,by omega,by omega,fun k hk=>?_⟩;match k,hk with
       | 0,_=>rw[get_at s i h];exact ha
       | 1,_=>omega
       | 2,_=>omega
     . exact one
   . split
     . rename_i c;simp only[dh,aT,bR] at c;split
       . rename_i d;simp only[dh,bR] at d;refine⟨by omega,d.2,by omega,by omega,fun k hk=>?_⟩;match k,hk with
         | 0,_=>rw[get_at s i h];exact ha
         | 1,_=>omega
         | 2,_=>omega
         | 3,_=>omega
       . exact one
     . exact one
theorem Gg (r:Int)(w:World)(h0:128<=r)(hv:r<55296∨57344<=r∧r<=1114111):
 Calls prog 302 #[.int .i32 r] w fun e w'=>e=.returned (.bool true)∧w'=w:=by
 have h1:decide ((0:Int)<=r)=true:=aI (by omega);rcases hv with h | h
 . have a1:decide (r<55296)=true:=aI h;go_enter func302,ntmps302;go_wp2;go_ret;exact⟨rfl,rfl⟩
 . have a1:decide (r<55296)=false:=aJ (by omega);have a2:decide ((57343:Int)<r)=true:=aI (by omega);have a3:decide (r<=1114111)=true:=aI h.2;clear h;go_enter func302,ntmps302;go_wp2;go_ret;exact⟨rfl,rfl⟩
theorem XM (r:Int)(w:World)(h0:128<=r)(hv:Utf8.valid r=true):
 Calls prog 286 #[.string ⟨#[32,9]⟩,.int .i32 r] w fun e w'=>e=.returned (.int .i64 (-1))∧aj w w':=by
 have h1:decide ((0:Int)<=r)=true:=aI (by omega);have h2:decide (r<128)=false:=aJ (by omega);by_cases he:r=65533
 . subst he;have n0:=fun ty=>run_next_ascii (P:=prog) w ⟨#[32,9]⟩ 0 ty (by decide) (by decide);have n1:=fun ty=>run_next_ascii (P:=prog) w ⟨#[32,9]⟩ 1 ty (by decide) (by decide);have n2:=fun ty=>run_next_end (P:=prog) w ⟨#[32,9]⟩ 2 ty (by decide);go_enter func286,ntmps286;go_wp2;go_loopg [5,6] 3 (fun g _ _ wx=>∃i:Nat,i+g=3∧1<=g∧wx=w.iter ⟨#[32,9]⟩ i)
   case atStart=>exact⟨0,by omega,by omega,rfl⟩
   case round =>
    obtain⟨i,hig,hg1,rfl⟩:=hrel;rcases(by omega:i=0∧gk=3∨i=1∧gk=2∨i=2∧gk=1) with ⟨rfl,rfl⟩ | ⟨rfl,rfl⟩ | ⟨rfl,rfl⟩
    . go_wp2;go_roundg 2
      case measure=>omega
      case rel=>exact⟨1,by omega,by omega,rfl⟩
    . go_wp2;go_roundg 1
      case measure=>omega
      case rel=>exact⟨2,by omega,by omega,rfl⟩
    . go_wp2;go_ret;exact⟨rfl,Fh w _ _⟩
 . have he':(r==65533)=false:=aS.2 he;obtain⟨e1,e2,e3⟩:=encode_facts r hv h0;obtain⟨rs,hrs⟩:∃rs,Utf8.encode r=rs:=⟨_,rfl⟩;rw[hrs] at e1 e2 e3;have hval:r<55296∨57344<=r∧r<=1114111:=by
    simp only[Utf8.valid,Bool.or_eq_true,dh,bR] at hv;omega
   have HVR:=H9 (Gg r w h0 hval);clear hv hval he;by_cases hz:rs.size=2
   . have h12:1<rs.size:=by omega
     have e4:128<=(rs[1]'h12).toNat:=by
      have:=e3 (by omega);simpa only[hz] using this
     have hne:((((⟨#[32,9]⟩:ay)[1]'(by decide)).toNat:Int) != ((rs[1]'h12).toNat:Int))=true:=by
      rw[cZ];have:((⟨#[32,9]⟩:ay)[1]'(by decide)).toNat=9:=by decide
      omega
     have hib:∀x:UInt8,decide (Lib.indexByte [] x<0)=true:=fun x=>rfl;have HIB:=H9 (fun(x:ay) (c:Int) (W:World)=>yt x c W);clear e3 e4 e1 e2;go_enter func286,ntmps286;go_wp2_with fail
     refine HVR.o.mono ?_;rintro e w1 ⟨rfl,rfl⟩;go_wp2;go_step3
     go_wp2;go_rounds 1
     go_step3
     go_wp2;go_quiet (fail)
     go_wp2;go_region_with (go_at_call 254;refine(HIB.o _ _ _).mono ?_;rintro e w2 ⟨rfl,rfl⟩)
     all_goals (go_wp2;simp only[Exit.noGoto,Exit.inBlock,Exit.then];go_ret;exact⟨rfl,MF _ _⟩)
   . have hz':decide ((rs.size:Int)-1<2)=false:=aJ (by omega);go_enter func286,ntmps286;go_wp2_with fail
     refine HVR.o.mono ?_;rintro e w1 ⟨rfl,rfl⟩;go_wp2;go_step3
     go_wp2;go_rounds 1
     simp only[Exit.noGoto,Exit.inBlock];go_ret;exact⟨rfl,fJ _ _⟩
theorem Uc {s:ay}{i n:Nat}(h:Lib.NoAny s.data.toList [32,9] i)(hk:∀k,k<n->128<=(s.get! (i+k)).toNat):Lib.NoAny s.data.toList [32,9] (i+n):=by
 intro j b hj hb;by_cases hji:j<i
 . exact h j b hji hb
 . have:=hk (j-i) (by omega);rw[show i+(j-i)=j by omega] at this;have hl:j<s.data.size:=by
    have:=(aQ.1 hb).1;rwa[aO] at this
   have e:s.get! j=b:=by
    have h2:s.data[j]? = some b:=by rw[<-hb];simp
    have h3:s.data[j]! = b:=by
     rw[getElem!_def,h2]
    exact h3
   rw[e] at this;have h1:b≠32:=fun e=>by subst e;exact absurd this (by decide)
   have h2:b≠9:=fun e=>by subst e;exact absurd this (by decide)
   simp[h1,h2]
def Bo (W:World)(k:Nat)(s:ay)(p:Nat):World:={ W with heap:=W.heap.setIfInBounds k (.stringIter s p) }
theorem run_next_at {P:Program}(W:World)(k pos:Nat)(s:ay)(ty:TypeId)(hk:W.heap[k]? = some (.stringIter s pos))(h:pos<s.size):
 (Instr.next (.pointer (some ⟨k,0,none⟩)) true ty).run P W=.ok (.tuple #[.bool true,.int .i64 pos,.int .i32 (Utf8.decode s pos).1]) (Bo W k s (pos+(Utf8.decode s pos).2)):=by
 simp only[Instr.next,getObj,setObj,Sem.run_bind,Sem.run,hk,Result.andThen,h,if_true];simp[goInt,Bo]
theorem Gh {P:Program}(W:World)(k pos:Nat)(s:ay)(ty:TypeId)(hk:W.heap[k]? = some (.stringIter s pos))(h:¬pos<s.size):
 (Instr.next (.pointer (some ⟨k,0,none⟩)) true ty).run P W=.ok (.tuple #[.bool false]) W:=by
 simp[Instr.next,getObj,Sem.run,hk,h]
theorem IQ {W:World}{k pos p:Nat}{s:ay}(hk:W.heap[k]? = some (.stringIter s pos)):(Bo W k s p).heap[k]? = some (.stringIter s p):=by
 have hl:=(aL.1 hk).1;show(W.heap.setIfInBounds k _)[k]? = _;simp[hl]
theorem Aj {w W:World}{s:ay}{p:Nat}(h:aj w W):aj w (Bo W w.heap.size s p) :=
 ⟨h.os, h.tape, h.output, by show w.heap.size <= (W.heap.setIfInBounds _ _).size; rw[Array.size_setIfInBounds]; exact h.size, fun k hk => by
  show(W.heap.setIfInBounds _ _)[k]? = _;rw[Array.getElem?_setIfInBounds_ne (by omega)];exact h.block k hk⟩
theorem Fj (s:ay)(w:World)(h8:s.size<=8):
 Calls prog 255 #[.string s,.string ⟨#[32,9]⟩] w fun e w'=>e=.returned (.int .i64 (Lib.indexAny s.data.toList [32,9]))∧aj w w':=by
 have h8z:decide ((8:Int)<(s.size:Int))=false:=aJ (by omega);have HS:=H9 (fun W=>Any.strings_shouldUseASCIISet { Tryz.lays153 with } (s.size:Int) W);have HR:=H9 (fun(r:Int) W h0 h1=>Any.strings_IndexRune_ascii { Tryz.lays153 with } ⟨#[32,9]⟩ r W h0 h1);change Hid (∀W,Calls prog 287 _ _ _) at HS;change Hid (∀(r:Int) (W:World) (h0:0<=r) (h1:r<128),Calls prog 286 _ _ _) at HR;go_enter func255,ntmps255;go_wp2_with (go_at_call 287;refine(HS.o _).mono ?_;rintro e w' ⟨rfl,hw⟩;rw[hw,h8z])
 go_loopg [9,10] s.size (fun g _ _ wx=>∃i:Nat,i+g=s.size∧Lib.NoAny s.data.toList [32,9] i∧wx.heap[w.heap.size]? = some (.stringIter s i)∧aj w wx)
 case atStart=>exact⟨0,by omega,Lib.NoAny.zero _ _,World.iter_heap w s 0,Fh w s 0⟩
 case round =>
  obtain⟨i,hig,hno,hit,hbl⟩:=hrel;have HN:=H9 hno;have HT:=H9 hit;have HB:=H9 hbl
  clear hno hit hbl;by_cases hi:i<s.size
  . obtain⟨x,hx⟩:∃x:UInt8,s[i]'hi=x:=⟨_,rfl⟩;have hxl:s.data.toList[i]? = some x:=by rw[<-hx];exact Lib.data_getElem? s i hi
    have Hx:=H9 hxl;clear hxl;by_cases h128:x.toNat<128
    . have hnx:=fun ty=>run_next_at (P:=prog) wr w.heap.size i s ty HT.o hi;rw[decode_ascii s i hi (by rw[hx];exact h128),hx] at hnx;have hcon:=Lib.contains_iff_indexByte [32,9] x;have hback:((x.toNat:Int)).toNat.toUInt8=x:=by simp
      have HB':=H9 (Aj (s:=s) (p:=i+1) HB.o);have HT':=H9 (IQ (p:=i+1) HT.o);have HRx:=H9 (HR.o (x.toNat:Int) (Bo wr w.heap.size s (i+1)) (by omega) (by omega));rw[hback] at HRx;clear hx;cases hin:([32,9]:av).contains x
      . rw[hin] at hcon;have hlt:decide ((0:Int)<=Lib.indexByte [32,9] x)=false:=hcon.symm;clear hcon;go_wp2_with (go_at_call 286;refine HRx.o.mono ?_;rintro e w' ⟨rfl,hw⟩;subst hw)
        go_roundg (s.size-(i+1))
        case measure=>omega
        case rel=>exact⟨i+1,by omega,HN.o.succ Hx.o hin,HT'.o,HB'.o⟩
      . rw[hin] at hcon;have hge:decide ((0:Int)<=Lib.indexByte [32,9] x)=true:=hcon.symm;clear hcon;go_wp2_with (go_at_call 286;refine HRx.o.mono ?_;rintro e w' ⟨rfl,hw⟩;subst hw)
        go_ret;exact⟨by rw[Lib.indexAny_hit HN.o Hx.o hin];rfl,HB'.o⟩
    . have hnx:=fun ty=>run_next_at (P:=prog) wr w.heap.size i s ty HT.o hi;obtain⟨d1,d2,d3,d4,d5⟩:=Po s i hi (by rw[hx];omega);have Zz:=H9 (Uc HN.o d5);have HB':=H9 (Aj (s:=s) (p:=i+(Utf8.decode s i).2) HB.o);have HT':=H9 (IQ (p:=i+(Utf8.decode s i).2) HT.o);have HRx:=H9 (XM ((Utf8.decode s i).1:Int) (Bo wr w.heap.size s (i+(Utf8.decode s i).2)) (by omega) d2);have HD:=H9 (And.intro d3 d4);clear d1 d2 d3 d4 d5 hx h128;generalize (Utf8.decode s i).1=r at hnx HRx;generalize (Utf8.decode s i).2=n at hnx HRx Zz HB' HT' HD;go_wp2_with (go_at_call 286;refine HRx.o.mono ?_;rintro e w2 ⟨rfl,hw⟩;have HW:=H9 hw;clear hw)
      go_roundg (s.size-(i+n))
      case measure=>have:=HD.o;omega
      case rel =>
       have:=HD.o;have hlt:=(aL.1 HT'.o).1;exact⟨i+n,by omega,Zz.o,(HW.o.block _ hlt).trans HT'.o,HB'.o.trans (HW.o.mono HB'.o.size)⟩
  . obtain rfl:i=s.size:=by omega
    have hnx:=fun ty=>Gh (P:=prog) wr w.heap.size s.size s ty HT.o hi;go_wp2;go_ret;exact⟨by rw[Lib.indexAny_none (by rw[<-Lib.size_eq];exact HN.o)];rfl,HB.o⟩
def Rq.blank (l:av):Bool:=l.any fun b=>b==32||b==9
theorem Rq.Ct:∀l:av,decide (0<=Lib.indexAny l [32,9])=Rq.blank l
 | []=>rfl
 | b :: l => by
   have ih:=Rq.Ct l;have hc:([32,9]:av).contains b=(b==32||b==9):=by
    simp[List.contains,List.elem];cases h1:b==32 <;> cases h2:b==9 <;> simp
   unfold Lib.indexAny Rq.blank;rw[List.any_cons,hc];cases h:(b==32||b==9)
   . simp only[dI,if_false,Bool.false_or];rw[show(l.any fun b=>b==32||b==9)=Rq.blank l from rfl,<-ih];have hg:=Lib.indexAny_ge [32,9] l;by_cases h1:Lib.indexAny l [32,9]=-1
     . rw[h1];rfl
     . have h2:(Lib.indexAny l [32,9]==-1)=false:=aS.2 h1;rw[h2];simp only[dI,if_false];rw[decide_eq_decide];omega
   . simp
def Rq.isTarget (l:av):Bool:=decide (l.head? = some 47)&&(!Rq.blank l&&Ch.iy l)
theorem MG:(prog.info? 290).map (fun i=>(i.zero,i.size))=some (some (.agg (Array.replicate 256 (.bool false))),256):=by kernel_rfl
theorem JU (s:ay)(w:World)(hs:s.size<=1000000):
 Calls prog 255 #[.string s,.string ⟨#[32,9]⟩] w fun e w'=>e=.returned (.int .i64 (Lib.indexAny s.data.toList [32,9]))∧aj w w':=by
 by_cases h8:s.size<=8
 . exact Fj s w h8
 . have hcon:=Any.strings_IndexAny_long Tryz.lays153 (zero_of_info MG).1 (zero_of_info MG).2 s ⟨#[32,9]⟩ w (by decide) (by omega) (by omega) (by decide) (fun j b hb=>by
    have:b∈([32,9]:av):=dL hb;simp at this;rcases this with rfl | rfl <;> decide)
   change Calls prog 255 _ _ (fun e w'=>e=.returned (.int .i64 (Lib.indexAny s.data.toList [32,9]))∧w'=_) at hcon;refine hcon.mono ?_;rintro e w' ⟨rfl,rfl⟩;exact⟨rfl,((fJ _ _).alloc (aM _) _).alloc (by simp) _⟩
theorem CR (s:ay)(w:World)(hs:s.size<=1000000):
 Calls prog 226 #[.string s,.string ⟨#[32,9]⟩] w fun e w'=>e=.returned (.bool (Rq.blank s.data.toList))∧aj w w':=by
 have HI:=H9 (JU s w hs);have hb:=Rq.Ct s.data.toList;go_enter func226,ntmps226;go_wp2_with (go_at_call 255;refine HI.o.mono ?_;rintro e w1 ⟨rfl,hw⟩;have HW:=H9 hw;clear hw)
 go_ret;exact⟨rfl,HW.o⟩
theorem JV (s:ay)(w:World)(hs:s.size<=1000000):
 Calls prog 188 #[.string s] w fun e w'=>e=.returned (.bool (Rq.isTarget s.data.toList))∧aj w w':=by
 have HP:=H9 (Pn s w);have HC:=H9 (CR s w hs);have HV:=H9 (fun W=>kU s W (by unfold maxLen;omega));have HE:Hid (Rq.isTarget s.data.toList=(decide (s.data.toList.head? = some 47)&&(!Rq.blank s.data.toList&&Ch.iy s.data.toList))):=rfl;generalize Rq.isTarget s.data.toList=tt at HE ⊢;generalize Ch.iy s.data.toList=vv at HV HE;generalize Rq.blank s.data.toList=bb at HC HE;generalize decide (s.data.toList.head? = some 47)=pp at HP HE;cases pp
 . go_enter func188,ntmps188;go_wp2_with (go_at_call 49;refine HP.o.mono ?_;rintro e w1 ⟨rfl,hw⟩;subst hw)
   go_ret;exact⟨iB (by rw[HE.o];rfl),fJ _ _⟩
 . cases bb
   . go_enter func188,ntmps188;go_wp2_with (first
      | (go_at_call 49;refine HP.o.mono ?_;rintro e w1 ⟨rfl,hw⟩;subst hw)
      | (go_at_call 226;refine HC.o.mono ?_;rintro e w2 ⟨rfl,hw⟩;have HW:=H9 hw;clear hw)
      | (go_at_call 192;refine(HV.o _).mono ?_;rintro e w3 ⟨rfl,hw⟩;subst hw))
     go_ret;exact⟨iB (by rw[HE.o];simp),HW.o⟩
   . go_enter func188,ntmps188;go_wp2_with (first
      | (go_at_call 49;refine HP.o.mono ?_;rintro e w1 ⟨rfl,hw⟩;subst hw)
      | (go_at_call 226;refine HC.o.mono ?_;rintro e w2 ⟨rfl,hw⟩;have HW:=H9 hw;clear hw))
     go_ret;exact⟨iB (by rw[HE.o];rfl),HW.o⟩
end Go.Proofs.YtjmndjmhjleabaaGreatDoor