/- Small texts, one behind the other: FdVals, RfVals, RfOneOf, FsA, RfLine, RfFind. -/
import Derived.Test.YtjmndjmhjleabaaGreatDoorPk4
import Derived.Test.YtjmndjmhjleabaaGreatDoorPk1
import Derived.Test.YtjmndjmhjleabaaGreatDoorPk10
import Derived.Test.YtjmndjmhjleabaaGreatDoorPk5
import Derived.Test.YtjmndjmhjleabaaGreatDoorBase
import Derived.Test.YtjmndjmhjleabaaGreatDoorProg
import Derived.Test.YtjmndjmhjleabaaGreatDoorPk9
set_option maxHeartbeats 1600000
set_option maxRecDepth 100000
open Go.Proofs.Tryz
namespace Go.Proofs.YtjmndjmhjleabaaGreatDoor
open Go.RowKit
theorem Ah:(prog.info? 9).map (fun i=>(i.zero,i.size,i.bytes))=some (some (.string ⟨#[]⟩),1,16):=by kernel_rfl
def Fd.vals (name:ByteArray) (l:List (ByteArray×ByteArray)):List ByteArray:=(l.filter fun p=>decide (Ch.lower p.1.data.toList=Ch.lower name.data.toList)).map (·.2)
theorem Fd.D6 (name:ByteArray) (l:List (ByteArray×ByteArray)) (p:ByteArray×ByteArray) :
 Fd.vals name (l++[p])=if Ch.lower p.1.data.toList=Ch.lower name.data.toList then Fd.vals name l++[p.2] else Fd.vals name l:=by
 unfold Fd.vals;rw [List.filter_append,List.map_append];by_cases h:Ch.lower p.1.data.toList=Ch.lower name.data.toList
 · rw [if_pos h];simp [h]
 · rw [if_neg h];simp [h]
theorem Fd.fq (name:ByteArray) (l:List (ByteArray×ByteArray)):(Fd.vals name l).length≤l.length:=by
 unfold Fd.vals;rw [List.length_map];exact List.length_filter_le _ _
def Fd.one (vs:List ByteArray):List UInt8×Nat :=
 match vs with
 | []=>([],10)
 | [v]=>(v.data.toList,0)
 | _=>([],9)
def Fd.val (t:Fd.Told):Value:=.tuple #[.agg #[.string ⟨t.name.toArray⟩,.string ⟨t.value.toArray⟩],.int .i64 (t.code:Int)]
theorem vB (l:List (ByteArray×ByteArray)) (name:ByteArray) (ao:Option Addr) (cap n:Nat) (w:World) (hl:bS w ao cap n (aC l)) (hn:l.length=n) (hN:n≤1000000) (hs:∀ p∈l,p.1.size≤2000) (hnm:name.size≤2000) :
 Calls prog 69 #[.slice ao n cap,.string name] w fun e w'=>∃ aF cap',e=.returned (.slice aF (Fd.vals name l).length cap')∧aD w' w.heap.size 9 1 aF cap' (Fd.vals name l).length (jL (Fd.vals name l))∧Below w.heap.size w w':=by
 subst hn;obtain ⟨i0,hi0,hz0,hz1,hz2⟩:=info_parts Ah;have Hi:=H9 hi0;have eU:=H9 hz0;have dZ:=H9 hz1;have eX:=H9 hz2
 have H:=H9 hl;have Hs:=H9 hs;have Zb:=H9 (fun W=>rP name W hnm);clear hl hs hi0 hz0 hz1 hz2;go_enter func69,ntmps69;go_wp2;go_loopw [5,6] (fun v t wr=>∃ (k:Nat) (aF:Option Addr) (cap':Nat),k≤l.length∧t=.int .i64 k∧v=.slice aF (Fd.vals name (l.take k)).length cap'∧aD wr w.heap.size 9 1 aF cap' (Fd.vals name (l.take k)).length (jL (Fd.vals name (l.take k)))∧Below w.heap.size w wr) (fun _ t _=>l.length - (intOf t).toNat)
 case atStart=>exact ⟨0,none,0,Nat.zero_le _,rfl,rfl,aD.nil _ _ _ _,Below.refl _ _⟩
 case round =>
  obtain ⟨k,aF,cap',hk,rfl,rfl,hO,hB⟩:=hrel;have HO:=H9 hO;have HB:=H9 hB
  clear hO hB;have hvl:=Fd.fq name (l.take k);have hvk:(l.take k).length≤k:=List.length_take_le _ _;by_cases hlt:k<l.length
  · have hpl:0<(aC l).length:=by rw [iG];omega
    obtain ⟨bb,oo,rfl,hcs⟩:=H.o.lit hpl;have HC:Hid (∀ W,Below w.heap.size w W→W.cell? ⟨bb,oo+k*2,none⟩=some (.string l[k].1)∧W.cell? ⟨bb,oo+k*2+1,none⟩=some (.string l[k].2)):=fun W hW=>by
     have h1:=hcs _ _ (jv l k hlt).1;have h2:=hcs _ _ (jv l k hlt).2;rw [←Nat.add_assoc] at h2;exact ⟨(hW.cell (World.block_lt_of_cell? w _ h1)).trans h1,(hW.cell (World.block_lt_of_cell? w _ h2)).trans h2⟩
    clear hcs;have HT:Hid (l.take (k+1)=l.take k++[l[k]]):=List.take_succ_eq_append_getElem hlt;have hp1:=Hs.o l[k] (List.getElem_mem hlt);have Zc:=H9 (fun W=>rP l[k].1 W hp1);have hc0:=(HC.o wr HB.o).1;have hlt':(k:Int)<l.length:=by omega
    have HV:=H9 (Fd.D6 name (l.take k) l[k]);rw [←HT.o] at HV;generalize l[k]=p at *;have oz:Hid (((⟨(Ch.lower p.1.data.toList).toArray⟩:ByteArray).toList==(⟨(Ch.lower name.data.toList).toArray⟩:ByteArray).toList)=decide (Ch.lower p.1.data.toList=Ch.lower name.data.toList)):=by
     unfold Hid;rw [Lib.toList_data,Lib.toList_data,Bool.eq_iff_iff];simp
    generalize (⟨(Ch.lower p.1.data.toList).toArray⟩:ByteArray)=sp at Zc oz;generalize (⟨(Ch.lower name.data.toList).toArray⟩:ByteArray)=sn at Zb oz;generalize Fd.vals name (l.take k)=vs at HO HV hvl;by_cases heq:Ch.lower p.1.data.toList=Ch.lower name.data.toList
    · have hx:=oz.o;rw [decide_eq_true heq] at hx;have Ii:Hid (Fd.vals name (l.take (k+1))=vs++[p.2]):=by have:=HV.o;rw [if_pos heq] at this;exact this
      clear HV oz heq;go_wp2_with fail
      refine (Zc.o _).mono ?_;rintro e w1 ⟨rfl,n1,hw⟩;subst hw;go_wp2_with fail
      refine (Zb.o _).mono ?_;rintro e w2 ⟨rfl,n2,hw⟩;have HB2:Hid (Below w.heap.size w w2):=by rw [hw];exact HB.o.trans ⟨rfl,rfl,rfl,Nat.le_refl _,fun _ _=>rfl⟩
      have xX:Hid (aD w2 w.heap.size 9 1 aF cap' vs.length (jL vs)):=by rw [hw];exact HO.o
      clear hw hc0;have hc1:=(HC.o w2 HB2.o).2;go_wp2_with (at_builtin;refine aB rfl (.tmp 22) (.tmp 28) 134 rfl w.heap.size 9 i0 (.string ⟨#[]⟩) 1 16 underlying134 Hi.o eU.o dZ.o eX.o rfl (by decide) rfl (xX.o.alloc _) rfl (bS.made _ _ 1 _ _) rfl (fun u hu=>by simp at hu;subst hu;rfl) (by omega) (by omega) (by have:=HB2.o.size;simp;omega) ?_;intro dG aG w3 hO3 hG3 _)
      go_roundw
      case rel =>
       have e1:Fd.vals name (l.take (k+1))=vs++[p.2]:=Ii.o;refine ⟨k+1,dG,aG,by omega,by go_num,by rw [e1,List.length_append];rfl,?_,?_⟩
       · rw [e1,List.length_append,qd];exact hO3
       · exact (HB2.o.alloc HB2.o.size _).grown hG3 (by have:=HB2.o.size;simp;omega) (fun q e=>by
          cases aF with
          | none=>simp [ak] at e
          | some y=>simp only [ak,Option.some.injEq] at e;have:=(xX.o.block y rfl).1;omega)
      case measure=>simp [intOf];omega
    · have hx:=oz.o;rw [decide_eq_false heq] at hx;have Ii:Hid (Fd.vals name (l.take (k+1))=vs):=by have:=HV.o;rw [if_neg heq] at this;exact this
      clear HV oz heq;go_wp2_with fail
      refine (Zc.o _).mono ?_;rintro e w1 ⟨rfl,n1,hw⟩;subst hw;go_wp2_with fail
      refine (Zb.o _).mono ?_;rintro e w2 ⟨rfl,n2,hw⟩;have HB2:Hid (Below w.heap.size w w2):=by rw [hw];exact HB.o.trans ⟨rfl,rfl,rfl,Nat.le_refl _,fun _ _=>rfl⟩
      have xX:Hid (aD w2 w.heap.size 9 1 aF cap' vs.length (jL vs)):=by rw [hw];exact HO.o
      clear hw hc0;go_wp2;go_roundw
      case rel=>exact ⟨k+1,aF,cap',by omega,by go_num,by rw [Ii.o],by rw [Ii.o];exact xX.o,HB2.o⟩
      case measure=>simp [intOf];omega
  · obtain rfl:k=l.length:=by omega
    go_wp2;go_ret;have e:l.take l.length=l:=List.take_length;have h1:=HO.o;rw [e] at h1;exact ⟨aF,cap',by rw [e];rfl,h1,HB.o⟩
theorem OU (l:List (ByteArray×ByteArray)) (name:ByteArray) (ao:Option Addr) (cap n:Nat) (w:World) (hl:bS w ao cap n (aC l)) (hn:l.length=n) (hN:n≤1000000) (hs:∀ p∈l,p.1.size≤2000) (hnm:name.size≤2000) :
 Calls prog 54 #[.slice ao n cap,.string name] w fun e w'=>e=.returned (mH (Fd.one (Fd.vals name l)))∧Below w.heap.size w w':=by
 have HV:=H9 (vB l name ao cap n w hl hn hN hs hnm);have hvl:=Fd.fq name l;rw [hn] at hvl;generalize Fd.vals name l=vs at HV hvl;clear hl hs;rcases vs with _ | ⟨v,_ | ⟨v2,t⟩⟩
 · go_enter func54,ntmps54;go_wp2_with fail
   refine HV.o.mono ?_;rintro e w1 ⟨vC,jE,rfl,hO,hB⟩;have HO:=H9 hO;have HB:=H9 hB
   clear hO hB HV;go_wp2;go_ret2;exact ⟨kQ (p:=([],10)) rfl rfl,HB.o⟩
 · go_enter func54,ntmps54;go_wp2_with fail
   refine HV.o.mono ?_;rintro e w1 ⟨vC,jE,rfl,hO,hB⟩;have HO:=H9 hO;have HB:=H9 hB
   clear hO hB HV;obtain ⟨bb,oo,rfl,hcs⟩:=HO.o.jg.lit (by simp [jL]);have hc:=hcs 0 (.string v) rfl;rw [Nat.add_zero] at hc;clear hcs;go_wp2;go_ret2;exact ⟨kQ (p:=(v.data.toList,0)) rfl rfl,HB.o⟩
 · have t0:(((v::v2::t).length:Int)==0)=false:=by rw [beq_eq_false_iff_ne,List.length_cons,List.length_cons];omega
   have t1:decide (((v::v2::t).length:Int) > 1)=true:=by rw [decide_eq_true_eq,List.length_cons,List.length_cons];omega
   have HR:Hid (Fd.one (v::v2::t)=([],9)):=rfl;generalize v::v2::t=vs at *;generalize vs.length=L at *;go_enter func54,ntmps54;go_wp2_with fail
   refine HV.o.mono ?_;rintro e w1 ⟨vC,jE,rfl,hO,hB⟩;have HO:=H9 hO;have HB:=H9 hB
   clear hO hB HV;go_wp2;go_ret2;exact ⟨kQ (p:=([],9)) HR.o rfl,HB.o⟩
def wV (c:UInt8) (l:List UInt8) (r:Int):Prop:=(r=-1∧∀ j (hj:j<l.length),l[j]≠c)∨∃ i:Nat,∃ hi:i<l.length,r=i∧l[i]=c∧∀ j (hj:j<l.length),i<j→l[j]≠c
theorem byte_at (s:ByteArray) (i:Nat) (h:i<s.size):s.data.toList[i]'(by rw [Ch.aQ];exact h)=s[i]:=by
 rw [Array.getElem_toList];rfl
theorem Ph (s:ByteArray) (c:UInt8) (w:World) (hs:s.size≤maxLen) :
 Calls prog 314 #[.string s,.int .u8 c.toNat] w fun e w'=>∃ r:Int,e=.returned (.int .i64 r)∧wV c s.data.toList r∧w'=w:=by
 have hl:=Ch.aQ s;have hsM:(s.size:Int)≤9223372036854775807:=by unfold maxLen at hs;omega
 go_enter func314,ntmps314;go_wp2;go_loopw [5] (fun t wr=>wr=w∧∃ k:Nat,k≤s.size∧t=.int .i64 ((k:Int) - 1)∧∀ j (hj:j<s.data.toList.length),k≤j→s.data.toList[j]≠c) (fun t _=>((intOf t)+1).toNat)
 case atStart=>exact ⟨rfl,s.size,Nat.le_refl _,rfl,fun j hj h=>by omega⟩
 case round =>
  obtain ⟨rfl,k,hk,rfl,hno⟩:=hrel;have ng:=H9 hno;clear hno;cases k with
  | zero =>
    have HR:Hid (wV c s.data.toList (-1)):=Or.inl ⟨rfl,fun j hj=>ng.o j hj (Nat.zero_le _)⟩;go_wp2;go_ret;exact ⟨-1,rfl,HR.o,rfl⟩
  | succ i =>
    have hi:i<s.size:=by omega
    have e1:((i+1:Nat):Int) - 1=(i:Int):=by omega
    rw [e1];have hge:(i:Int) ≥ 0:=by omega
    have hilt:(i:Int)<s.size:=by omega
    by_cases hc:s[i]=c
    · have t0:((s[i].toNat:Int)==(c.toNat:Int))=true:=by rw [hc];exact beq_self_eq_true _
      have HR:Hid (wV c s.data.toList (i:Int)):=Or.inr ⟨i,by rw [hl];exact hi,rfl,by rw [byte_at s i hi];exact hc,fun j hj h=>ng.o j hj h⟩;clear hc ng;go_wp2;go_ret;exact ⟨i,rfl,HR.o,rfl⟩
    · have t0:((s[i].toNat:Int)==(c.toNat:Int))=false:=by rw [beq_eq_false_iff_ne];intro e;exact hc (UInt8.toNat_inj.1 (by omega))
      have afw:Hid (∀ j (hj:j<s.data.toList.length),i≤j→s.data.toList[j]≠c):=fun j hj h=>by
       rcases Nat.lt_or_eq_of_le h with h | h
       · exact ng.o j hj h
       · subst h;rw [byte_at s i hi];exact hc
      clear hc ng;go_wp2;go_roundw
      case rel=>exact ⟨trivial,i,by omega,by go_num,afw.o⟩
      case measure=>simp [intOf]
theorem Ej (s:ByteArray) (c:UInt8) (w:World) (hs:s.size≤maxLen) :
 Calls prog 312 #[.string s,.int .u8 c.toNat] w fun e w'=>∃ r:Int,e=.returned (.int .i64 r)∧wV c s.data.toList r∧w'=w:=by
 have H:=H9 (Ph s c w hs);go_enter func312,ntmps312;go_wp2_with fail
 refine H.o.mono ?_;rintro e w' ⟨r,rfl,hr,hw⟩;subst hw;go_wp2;go_ret;exact ⟨r,rfl,hr,rfl⟩
theorem Pj (w:World) (ao:Option Addr) (cap n:Nat) (l:List UInt8) (c:UInt8) (h:aT w ao cap l) (hn:l.length=n) :
 Calls prog 315 #[.slice ao n cap,.int .u8 c.toNat] w fun e w'=>∃ aF cap' n',e=.returned (.slice aF n' cap')∧n'=(l.dropWhile (·==c)).length∧aT w aF cap' (l.dropWhile (·==c))∧w'=w:=by
 have HB:=H9 h;have HN:=H9 hn;clear h hn;go_enter func315,ntmps315;go_wp2;go_loopw [0] (fun t wr=>wr=w∧∃ (aF:Option Addr) (cap' n':Nat) (r:List UInt8),t=.slice aF n' cap'∧n'=r.length∧aT w aF cap' r∧r.dropWhile (·==c)=l.dropWhile (·==c)) (fun t _=>match t with | .slice _ k _=>k | _=>0)
 case atStart=>exact ⟨rfl,ao,cap,n,l,rfl,HN.o.symm,HB.o,rfl⟩
 case round =>
  obtain ⟨rfl,aF,cap',n',r,rfl,hn',hI,hd⟩:=hrel;have HI:=H9 hI;have HD:=H9 hd
  clear hI hd;cases r with
  | nil =>
    obtain rfl:n'=0:=hn';have HR:Hid (l.dropWhile (·==c)=[]):=by unfold Hid;rw [←HD.o];rfl
    go_wp2;go_ret;exact ⟨none,0,0,rfl,by rw [HR.o];rfl,by rw [HR.o];exact aT.nil _,rfl⟩
  | cons x t =>
    obtain ⟨bb,oo,rfl,hcs⟩:=HI.o.lit (by simp);have cx:=hcs 0 (by simp);have cx:wr.cell? ⟨bb,oo,none⟩=some (.int .u8 (x.toNat:Int)):=by simpa using cx
    have hcap:n'≤cap':=by rw [hn'];exact HI.o.1
    have hpos:0<n':=by rw [hn'];simp
    have TF:=H9 hn';clear hcs;by_cases hx:x=c
    · have tx:((x.toNat:Int)==(c.toNat:Int))=true:=by rw [hx];exact beq_self_eq_true _
      have HD2:Hid (t.dropWhile (·==c)=l.dropWhile (·==c)):=by unfold Hid;rw [←HD.o,List.dropWhile_cons,if_pos (by simpa using hx)]
      have hcut:∀ bX,(cap'≠1→bX=some ⟨bb,oo+1,none⟩)→aT wr bX (cap' - 1) t:=fun bX he=>by
       have:=HI.o.cut (aF:=bX) 1 (x::t).length (by simp) (Nat.le_refl _) (fun e=>by rw [he e];rfl);simpa using this
      have WV:=H9 hcut;clear hcut hx hn';by_cases hc1:cap'=1
      · subst hc1;obtain rfl:n'=1:=by omega
        go_wp2;go_roundw
        case rel=>exact ⟨trivial,_,_,_,t,rfl,by have:=TF.o;rw [List.length_cons] at this;omega,by simpa using WV.o _ (fun e=>absurd rfl e),HD2.o⟩
        case measure=>simp
      · go_wp2;go_roundw
        case rel=>exact ⟨trivial,_,_,_,t,rfl,by have:=TF.o;rw [List.length_cons] at this;omega,WV.o _ (fun _=>rfl),HD2.o⟩
        case measure=>simp;omega
    · have tx:((x.toNat:Int)==(c.toNat:Int))=false:=by rw [beq_eq_false_iff_ne];intro e;exact hx (UInt8.toNat_inj.1 (by omega))
      have HR:Hid (l.dropWhile (·==c)=x::t):=by unfold Hid;rw [←HD.o,List.dropWhile_cons,if_neg (by simpa using hx)]
      have t0:((n':Int)==0)=false:=by rw [beq_eq_false_iff_ne];omega
      clear hx hn';go_wp2;go_ret;exact ⟨_,_,n',rfl,by rw [HR.o];exact TF.o,by rw [HR.o];exact HI.o,rfl⟩
theorem K5 (w:World) (ao:Option Addr) (cap n:Nat) (l:List UInt8) (h:aT w ao cap l) (hn:l.length=n) :
 Calls prog 313 #[.slice ao n cap,.string ⟨#[46]⟩] w fun e w'=>∃ aF cap' n',e=.returned (.slice aF n' cap')∧n'=(l.dropWhile (·==46)).length∧aT w aF cap' (l.dropWhile (·==46))∧w'=w:=by
 have HT:=H9 (Pj w ao cap n l 46 h hn);by_cases h0:n=0
 · subst h0;obtain rfl:l=[]:=List.eq_nil_of_length_eq_zero hn;clear HT h hn;go_enter func313,ntmps313;go_wp2;go_ret;exact ⟨none,0,0,rfl,rfl,aT.nil _,rfl⟩
 · have t0:((n:Int)==0)=false:=by rw [beq_eq_false_iff_ne];omega
   clear h hn h0;go_enter func313,ntmps313;go_wp2_with fail
   refine HT.o.mono ?_;rintro e w' ⟨aF,cap',n',rfl,h1,h2,hw⟩;subst hw;have H1:=H9 h1;clear h1;go_wp2;go_ret;exact ⟨aF,cap',n',rfl,H1.o,h2,rfl⟩
def Ln.val (t:Ln.Told):Value:=.tuple #[.string ⟨t.text.toArray⟩,.int .i64 (t.size:Int),.bool t.ended,.int .i64 (t.code:Int)]
theorem mY {v:Value} {t u:Ln.Told} (hu:u=t) (h:v=Ln.val t):Ending.returned v=.returned (Ln.val u):=by rw [h,hu]
theorem BX (l:List UInt8) (ao:Option Addr) (cap n:Nat) (w:World) (hl:aT w ao cap l) (hn:l.length=n) (hN:n≤1000000) :
 Calls prog 42 #[.slice ao n cap] w fun e w'=>e=.returned (Ln.val (Ln.of l))∧w'=w:=by
 subst hn;have H:=H9 hl;have hcap:=hl.1;clear hl;go_enter func42,ntmps42;go_wp2;go_loop [6] (fun t=>∃ i:Nat,i≤l.length∧t=.int .i64 i∧Ln.of l=Ln.go l i (l.drop i)) (fun t=>l.length - (intOf t).toNat)
 case atStart=>exact ⟨0,Nat.zero_le _,rfl,rfl⟩
 case round =>
  obtain ⟨i,hi,rfl,hg⟩:=hrel;by_cases hlt:i<l.length
  · obtain ⟨bb,oo,rfl,hcs⟩:=H.o.lit (by omega);have ZG:=H9 hcs;clear hcs;have hcell:=ZG.o i hlt;have hlt':(i:Int)<l.length:=by omega
    rw [Ln.Gf l i hlt] at hg;have hb:=l[i].toNat_lt;by_cases gV:l[i]=13
    · rw [if_pos gV] at hg;have Wn:((l[i].toNat:Int)==13)=true:=by rw [gV];rfl
      by_cases h2:i+1<l.length
      · rw [dif_pos h2] at hg;have te:((i:Int)+1==l.length)=false:=by rw [beq_eq_false_iff_ne];omega
        have hcell2:=ZG.o (i+1) h2;have b1:(i:Int)+1<l.length:=by omega
        by_cases h10:l[i+1]=10
        · rw [if_pos h10] at hg;have t10:((l[i+1].toNat:Int) != 10)=false:=by rw [h10];rfl
          have hq:=(H.o.first i (by omega)).str (P:=prog) 31 9 5 underlying31 underlying5 underlying9;rw [List.length_take,Nat.min_eq_left (by omega)] at hq;have b2:(i:Int)≤cap:=by omega
          have HG:=H9 hg;clear hg gV h10;generalize l[i]=c at *;generalize l[i+1]=d at *;go_wp2;(try simp only [Exit.inBlock,Exit.then]);refine bodyPost_ret (aH rfl _ _ _) rfl ?_;exact ⟨mY HG.o rfl,rfl⟩
        · rw [if_neg h10] at hg;have t10:((l[i+1].toNat:Int) != 10)=true:=zh h10;have HG:=H9 hg;clear hg gV h10;generalize l[i]=c at *;generalize l[i+1]=d at *;go_wp2;(try simp only [Exit.inBlock,Exit.then]);refine bodyPost_ret (aH rfl _ _ _) rfl ?_;exact ⟨mY HG.o rfl,rfl⟩
      · rw [dif_neg h2] at hg;have te:((i:Int)+1==l.length)=true:=by rw [beq_iff_eq];omega
        have HG:=H9 hg;clear hg gV;generalize l[i]=c at *;go_wp2;(try simp only [Exit.inBlock,Exit.then]);refine bodyPost_ret (aH rfl _ _ _) rfl ?_;exact ⟨mY HG.o rfl,rfl⟩
    · rw [if_neg gV] at hg;have Wn:((l[i].toNat:Int)==13)=false:=fJ gV;by_cases h10:l[i]=10
      · rw [if_pos h10] at hg;have t10:((l[i].toNat:Int)==10)=true:=by rw [h10];rfl
        have HG:=H9 hg;clear hg gV h10;generalize l[i]=c at *;go_wp2;(try simp only [Exit.inBlock,Exit.then]);refine bodyPost_ret (aH rfl _ _ _) rfl ?_;exact ⟨mY HG.o rfl,rfl⟩
      · rw [if_neg h10] at hg;have t10:((l[i].toNat:Int)==10)=false:=fJ h10;have HS:=H9 (tV (l[i].toNat:Int) w);cases hv:Ch.visible l[i].toNat
        · rw [hv] at HS;rw [if_pos hv] at hg;have HG:=H9 hg;clear hg gV h10 hv;generalize l[i]=c at *;go_wp2_with fail
          refine HS.o.mono ?_;rintro e w' ⟨rfl,hw⟩;subst hw;go_wp2;(try simp only [Exit.inBlock,Exit.then]);refine bodyPost_ret (aH rfl _ _ _) rfl ?_;exact ⟨mY HG.o rfl,rfl⟩
        · rw [hv] at HS;rw [if_neg (by rw [hv];simp)] at hg;by_cases aay:i=200
          · rw [if_pos aay] at hg;subst aay;have HG:=H9 hg;clear hg gV h10 hv;generalize l[200]=c at *;go_wp2_with fail
            refine HS.o.mono ?_;rintro e w' ⟨rfl,hw⟩;subst hw;go_wp2;(try simp only [Exit.inBlock,Exit.then]);refine bodyPost_ret (aH rfl _ _ _) rfl ?_;exact ⟨mY HG.o rfl,rfl⟩
          · rw [if_neg aay] at hg;have alF:((i:Int)==200)=false:=by rw [beq_eq_false_iff_ne];omega
            have HG:=H9 hg;clear hg gV h10 hv;generalize l[i]=c at *;go_wp2_with fail
            refine HS.o.mono ?_;rintro e w' ⟨rfl,hw⟩;subst hw;go_wp2;go_round
            case rel=>exact ⟨i+1,by omega,by go_num,HG.o⟩
            case measure=>simp [intOf];omega
  · rw [Ln.zw l i (by omega)] at hg;have HG:=H9 hg;clear hg;obtain rfl:i=l.length:=by omega
    go_wp2;(try simp only [Exit.inBlock,Exit.then]);refine bodyPost_ret (aH rfl _ _ _) rfl ?_;exact ⟨mY HG.o rfl,rfl⟩
def kM (m x:List UInt8) (i:Nat):Prop:=i+m.length≤x.length∧(x.drop i).take m.length=m
def MB (m x:List UInt8) (r:Int):Prop:=(r=-1∧∀ j,¬ kM m x j)∨∃ k:Nat,r=k∧kM m x k∧∀ j,j<k→¬ kM m x j
theorem QT (w:World) (ao:Option Addr) (cap:Nat) (x:List UInt8) (s:ByteArray) (hx:aT w ao cap x) (hs:s.size=0) :
 Calls prog 75 #[.slice ao x.length cap,.string s] w fun e w'=>e=.returned (.int .i64 0)∧w'=w:=by
 have hs':(s.size:Int)=0:=by omega
 have hcap:=hx.1;have he:s.toList=[]:=by
  rw [Lib.toList_data];exact List.eq_nil_of_length_eq_zero (by rw [Array.length_toList];exact hs)
 have hq:=(hx.first 0 (Nat.zero_le _)).str (P:=prog) 31 9 5 underlying31 underlying5 underlying9;simp only [List.take_zero,List.length_nil] at hq;clear hx;go_enter func75,ntmps75;go_wp2;go_loop [5] (fun t=>t=.int .i64 0) (fun _=>0)
 case atStart=>rfl
 case round =>
  subst hrel;go_wp2;go_ret;exact ⟨rfl,rfl⟩
theorem QU (w:World) (ao:Option Addr) (cap:Nat) (x:List UInt8) (s:ByteArray) (hx:aT w ao cap x) (hL:s.size≤1000000) (hs:0<s.size) (hX:x.length≤1000000) :
 Calls prog 75 #[.slice ao x.length cap,.string s] w fun e w'=>∃ r,e=.returned (.int .i64 r)∧MB s.data.toList x r∧w'=w:=by
 have hcap:=hx.1;have H:=H9 hx;have HL:Hid (s.data.toList.length=s.size):=by unfold Hid;rw [Array.length_toList];rfl
 clear hx;go_enter func75,ntmps75;go_wp2;go_loop [5] (fun t=>∃ k:Nat,k≤x.length∧t=.int .i64 k∧∀ j,j<k→¬ kM s.data.toList x j) (fun t=>x.length+1 - (intOf t).toNat)
 case atStart=>exact ⟨0,Nat.zero_le _,rfl,fun j h=>by omega⟩
 case round =>
  obtain ⟨k,hk,rfl,hno⟩:=hrel;have HN:=H9 hno;clear hno;by_cases hlt:k+s.size≤x.length
  · obtain ⟨a,rfl⟩:=H.o.some (by omega);have e1:(k:Int)+s.size≤x.length:=by omega
    have e2:(k:Int)+s.size≤cap:=by omega
    have e3:((k:Int)+s.size).toNat=k+s.size:=by omega
    have e4:¬ cap=k:=by omega
    have e5:k+s.size - k=s.size:=by omega
    have hq:(convert 31 9 (.slice (some (a.add k)) s.size (cap - k))).run prog w=.ok (.string ⟨((x.drop k).take s.size).toArray⟩) w:=by
     have h:=H.o.cut (aF:=some (a.add k)) k (k+s.size) (by omega) hlt (fun _=>rfl);rw [e5] at h;have h':=h.str (P:=prog) 31 9 5 underlying31 underlying5 underlying9;rw [List.length_take,List.length_drop,Nat.min_eq_left (by omega)] at h';exact h'
    by_cases hy:(x.drop k).take s.size=s.data.toList
    · have HY:Hid (kM s.data.toList x k):=⟨by rw [HL.o];exact hlt,by rw [HL.o];exact hy⟩;have hy':((x.drop k).take s.size==s.toList)=true:=by rw [Lib.toList_data,hy];exact beq_self_eq_true _
      clear hy;go_wp2;go_ret;exact ⟨k,rfl,Or.inr ⟨k,rfl,HY.o,HN.o⟩,rfl⟩
    · have HY:Hid (¬ kM s.data.toList x k):=fun h=>hy (by have:=h.2;rwa [HL.o] at this);have hy':((x.drop k).take s.size==s.toList)=false:=by rw [Lib.toList_data,beq_eq_false_iff_ne];exact hy
      clear hy;go_wp2;go_round
      case rel =>
       refine ⟨k+1,by omega,by go_num,fun j hj=>?_⟩;by_cases e:j=k
       · subst e;exact HY.o
       · exact HN.o j (by omega)
      case measure=>simp [intOf];omega
  · have ht:decide ((k:Int)+s.size≤x.length)=false:=by rw [decide_eq_false_iff_not];omega
    go_wp2;go_ret;refine ⟨-1,rfl,Or.inl ⟨rfl,fun j hj=>?_⟩,rfl⟩;by_cases e:j<k
    · exact HN.o j e hj
    · have:=hj.1;rw [HL.o] at this;omega
theorem BZ (w:World) (ao:Option Addr) (cap n:Nat) (x:List UInt8) (s:ByteArray) (hx:aT w ao cap x) (hn:x.length=n) (hL:s.size≤1000000) (hX:n≤1000000) :
 Calls prog 75 #[.slice ao n cap,.string s] w fun e w'=>∃ r,e=.returned (.int .i64 r)∧MB s.data.toList x r∧w'=w:=by
 subst hn;by_cases h:s.size=0
 · refine (QT w ao cap x s hx h).mono ?_;rintro e w' ⟨rfl,hw⟩;have e:s.data.toList=[]:=by
    exact List.eq_nil_of_length_eq_zero (by rw [Array.length_toList];exact h)
   exact ⟨0,rfl,Or.inr ⟨0,rfl,⟨by rw [e];simp,by rw [e];rfl⟩,fun j hj=>by omega⟩,hw⟩
 · exact QU w ao cap x s hx hL (by omega) hX
theorem Ca {c:UInt8} {l:List UInt8} {r:Int} (h:MB [c] l r):(r=-1∧Fd.at_ c l=l.length)∨(r=(Fd.at_ c l:Int)∧Fd.at_ c l<l.length):=by
 have key:∀ j (hj:j<l.length),kM [c] l j↔l[j]=c:=fun j hj=>by
  unfold kM;rw [List.drop_eq_getElem_cons hj];constructor
  · rintro ⟨_,h⟩;exact (List.cons.inj (show l[j]::List.take 0 _=c::[] from h)).1
  · intro e;exact ⟨by simp;omega,by rw [e];rfl⟩
 rcases h with ⟨h1,h2⟩ | ⟨k,h1,h2,h3⟩
 · exact Or.inl ⟨h1,Fd.ML (fun j hj e=>h2 j ((key j hj).2 e))⟩
 · have hk:k<l.length:=by have:=h2.1;simp at this;omega
   have e:=Fd.X7 hk ((key k hk).1 h2) (fun j hj e=>h3 j hj ((key j (by omega)).2 e));exact Or.inr ⟨by rw [e];exact h1,by omega⟩
end Go.Proofs.YtjmndjmhjleabaaGreatDoor