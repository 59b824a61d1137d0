/- Small texts, one behind the other: FdVals, RfVals, RfOneOf, FsA. -/
import Derived.Test.YtjmndjmhjleabaaGreatDoorPk4
import Derived.Test.YtjmndjmhjleabaaGreatDoorPk1
import Derived.Test.YtjmndjmhjleabaaGreatDoorPk10
import Derived.Test.YtjmndjmhjleabaaGreatDoorPk5
import Derived.Test.YtjmndjmhjleabaaGreatDoorBase
import Derived.Test.YtjmndjmhjleabaaGreatDoorProg
set_option maxHeartbeats 800000
set_option maxRecDepth 100000
open Go.Proofs.Tryz
namespace Go.Proofs.YtjmndjmhjleabaaGreatDoor
open Go.RowKit
theorem Ow:(prog.info? 9).map (fun i=>(i.zero,i.size,i.bytes))=some (some (.string ⟨#[]⟩),1,16):=by kernel_rfl
def Fd.vals (name:ByteArray)(l:List (ByteArray×ByteArray)):List ByteArray:=(l.filter fun p=>decide (Ch.lower p.1.data.toList=Ch.lower name.data.toList)).map (·.2)
theorem Fd.KJ (name:ByteArray)(l:List (ByteArray×ByteArray))(p:ByteArray×ByteArray):
 Fd.vals name (l++[p])=if Ch.lower p.1.data.toList=Ch.lower name.data.toList then Fd.vals name l++[p.2] else Fd.vals name l:=by
 unfold Fd.vals;rw[List.filter_append,List.map_append];by_cases h:Ch.lower p.1.data.toList=Ch.lower name.data.toList
 . rw[if_pos h];simp[h]
 . rw[if_neg h];simp[h]
theorem Fd.lF (name:ByteArray)(l:List (ByteArray×ByteArray)):(Fd.vals name l).length<=l.length:=by
 unfold Fd.vals;rw[List.length_map];exact List.length_filter_le _ _
def Fd.one (vs:List ByteArray):List UInt8×Nat :=
 match vs with
 | []=>([],10)
 | [v]=>(v.data.toList,0)
 | _=>([],9)
def Fd.val (t:Fd.Told):Value:=.tuple #[.agg #[.string ⟨t.name.toArray⟩,.string ⟨t.value.toArray⟩],.int .i64 (t.code:Int)]
def uz (c:UInt8)(l:List UInt8)(r:Int):Prop:=(r=-1∧∀j (hj:j<l.length),l[j]≠c)∨∃i:Nat,∃hi:i<l.length,r=i∧l[i]=c∧∀j (hj:j<l.length),i<j->l[j]≠c
theorem byte_at (s:ByteArray)(i:Nat)(h:i<s.size):s.data.toList[i]'(by rw[Ch.bC];exact h)=s[i]:=by
 rw[Array.getElem_toList];rfl
theorem Lg (s:ByteArray)(c:UInt8)(w:World)(hs:s.size<=maxLen):
 Calls prog 314 #[.string s,.int .u8 c.toNat] w fun e w'=>∃r:Int,e=.returned (.int .i64 r)∧uz c s.data.toList r∧w'=w:=by
 have hl:=Ch.bC s;have hsM:(s.size:Int)<=9223372036854775807:=by unfold maxLen at hs;omega
 go_enter func314,ntmps314;go_wp2;go_loopw [5] (fun t wr=>wr=w∧∃k:Nat,k<=s.size∧t=.int .i64 ((k:Int)-1)∧∀j (hj:j<s.data.toList.length),k<=j->s.data.toList[j]≠c) (fun t _=>((intOf t)+1).toNat)
 case atStart=>exact⟨rfl,s.size,Nat.le_refl _,rfl,fun j hj h=>by omega⟩
 case round =>
  obtain⟨rfl,k,hk,rfl,hno⟩:=hrel;have lY:=H9 hno;clear hno;cases k with
  | zero =>
    have HR:Hid (uz c s.data.toList (-1)):=Or.inl ⟨rfl,fun j hj=>lY.o j hj (Nat.zero_le _)⟩;go_wp2;go_ret;exact⟨-1,rfl,HR.o,rfl⟩
  | succ i =>
    have hi:i<s.size:=by omega
    have e1:((i+1:Nat):Int)-1=(i:Int):=by omega
    rw[e1];have hge:(i:Int)≥0:=by omega
    have hilt:(i:Int)<s.size:=by omega
    by_cases hc:s[i]=c
    . have t0:((s[i].toNat:Int)==(c.toNat:Int))=true:=by rw[hc];exact beq_self_eq_true _
      have HR:Hid (uz c s.data.toList (i:Int)):=Or.inr ⟨i,by rw[hl];exact hi,rfl,by rw[byte_at s i hi];exact hc,fun j hj h=>lY.o j hj h⟩;clear hc lY;go_wp2;go_ret;exact⟨i,rfl,HR.o,rfl⟩
    . have t0:((s[i].toNat:Int)==(c.toNat:Int))=false:=by rw[beq_eq_false_iff_ne];intro e;exact hc (UInt8.toNat_inj.1 (by omega))
      have ZU:Hid (∀j (hj:j<s.data.toList.length),i<=j->s.data.toList[j]≠c):=fun j hj h=>by
       rcases Nat.lt_or_eq_of_le h with h | h
       . exact lY.o j hj h
       . subst h;rw[byte_at s i hi];exact hc
      clear hc lY;go_wp2;go_roundw
      case rel=>exact⟨trivial,i,by omega,by go_num,ZU.o⟩
      case measure=>simp[intOf]
theorem Bb (s:ByteArray)(c:UInt8)(w:World)(hs:s.size<=maxLen):
 Calls prog 312 #[.string s,.int .u8 c.toNat] w fun e w'=>∃r:Int,e=.returned (.int .i64 r)∧uz c s.data.toList r∧w'=w:=by
 have H:=H9 (Lg s c w hs);go_enter func312,ntmps312;go_wp2_with fail
 refine H.o.mono ?_;rintro e w' ⟨r,rfl,hr,hw⟩;subst hw;go_wp2;go_ret;exact⟨r,rfl,hr,rfl⟩
theorem Lh (w:World)(ao:Option Addr)(cap n:Nat)(l:List UInt8)(c:UInt8)(h:aU w ao cap l)(hn:l.length=n):
 Calls prog 315 #[.slice ao n cap,.int .u8 c.toNat] w fun e w'=>∃aD cap' n',e=.returned (.slice aD n' cap')∧n'=(l.dropWhile (·==c)).length∧aU w aD cap' (l.dropWhile (·==c))∧w'=w:=by
 have HB:=H9 h;have HN:=H9 hn;clear h hn;go_enter func315,ntmps315;go_wp2;go_loopw [0] (fun t wr=>wr=w∧∃(aD:Option Addr) (cap' n':Nat) (r:List UInt8),t=.slice aD n' cap'∧n'=r.length∧aU w aD cap' r∧r.dropWhile (·==c)=l.dropWhile (·==c)) (fun t _=>match t with | .slice _ k _=>k | _=>0)
 case atStart=>exact⟨rfl,ao,cap,n,l,rfl,HN.o.symm,HB.o,rfl⟩
 case round =>
  obtain⟨rfl,aD,cap',n',r,rfl,hn',hI,hd⟩:=hrel;have HI:=H9 hI;have HD:=H9 hd
  clear hI hd;cases r with
  | nil =>
    obtain rfl:n'=0:=hn';have HR:Hid (l.dropWhile (·==c)=[]):=by unfold Hid;rw[<-HD.o];rfl
    go_wp2;go_ret;exact⟨none,0,0,rfl,by rw[HR.o];rfl,by rw[HR.o];exact aU.nil _,rfl⟩
  | cons x t =>
    obtain⟨bb,oo,rfl,hcs⟩:=HI.o.lit (by simp);have cx:=hcs 0 (by simp);have cx:wr.cell? ⟨bb,oo,none⟩=some (.int .u8 (x.toNat:Int)):=by simpa using cx
    have hcap:n'<=cap':=by rw[hn'];exact HI.o.1
    have hpos:0<n':=by rw[hn'];simp
    have O4:=H9 hn';clear hcs;by_cases hx:x=c
    . have tx:((x.toNat:Int)==(c.toNat:Int))=true:=by rw[hx];exact beq_self_eq_true _
      have HD2:Hid (t.dropWhile (·==c)=l.dropWhile (·==c)):=by unfold Hid;rw[<-HD.o,List.dropWhile_cons,if_pos (by simpa using hx)]
      have hcut:∀dN,(cap'≠1->dN=some ⟨bb,oo+1,none⟩)->aU wr dN (cap'-1) t:=fun dN he=>by
       have:=HI.o.cut (aD:=dN) 1 (x::t).length (by simp) (Nat.le_refl _) (fun e=>by rw[he e];rfl);simpa using this
      have Xw:=H9 hcut;clear hcut hx hn';by_cases hc1:cap'=1
      . subst hc1;obtain rfl:n'=1:=by omega
        go_wp2;go_roundw
        case rel=>exact⟨trivial,_,_,_,t,rfl,by have:=O4.o;rw[List.length_cons] at this;omega,by simpa using Xw.o _ (fun e=>absurd rfl e),HD2.o⟩
        case measure=>simp
      . go_wp2;go_roundw
        case rel=>exact⟨trivial,_,_,_,t,rfl,by have:=O4.o;rw[List.length_cons] at this;omega,Xw.o _ (fun _=>rfl),HD2.o⟩
        case measure=>simp;omega
    . have tx:((x.toNat:Int)==(c.toNat:Int))=false:=by rw[beq_eq_false_iff_ne];intro e;exact hx (UInt8.toNat_inj.1 (by omega))
      have HR:Hid (l.dropWhile (·==c)=x::t):=by unfold Hid;rw[<-HD.o,List.dropWhile_cons,if_neg (by simpa using hx)]
      have t0:((n':Int)==0)=false:=by rw[beq_eq_false_iff_ne];omega
      clear hx hn';go_wp2;go_ret;exact⟨_,_,n',rfl,by rw[HR.o];exact O4.o,by rw[HR.o];exact HI.o,rfl⟩
theorem G5 (w:World)(ao:Option Addr)(cap n:Nat)(l:List UInt8)(h:aU w ao cap l)(hn:l.length=n):
 Calls prog 313 #[.slice ao n cap,.string ⟨#[46]⟩] w fun e w'=>∃aD cap' n',e=.returned (.slice aD n' cap')∧n'=(l.dropWhile (·==46)).length∧aU w aD cap' (l.dropWhile (·==46))∧w'=w:=by
 have HT:=H9 (Lh w ao cap n l 46 h hn);by_cases h0:n=0
 . subst h0;obtain rfl:l=[]:=List.eq_nil_of_length_eq_zero hn;clear HT h hn;go_enter func313,ntmps313;go_wp2;go_ret;exact⟨none,0,0,rfl,rfl,aU.nil _,rfl⟩
 . have t0:((n:Int)==0)=false:=by rw[beq_eq_false_iff_ne];omega
   clear h hn h0;go_enter func313,ntmps313;go_wp2_with fail
   refine HT.o.mono ?_;rintro e w' ⟨aD,cap',n',rfl,h1,h2,hw⟩;subst hw;have H1:=H9 h1;clear h1;go_wp2;go_ret;exact⟨aD,cap',n',rfl,H1.o,h2,rfl⟩
end Go.Proofs.YtjmndjmhjleabaaGreatDoor