/- Small texts, one behind the other: FdVals, RfVals, RfOneOf, FsA, RfLine, RfFind. -/
import Derived.Test.YtjmndjmhjleabaaGreatDoorAl
import Derived.Test.YtjmndjmhjleabaaGreatDoorAm
import Derived.Test.YtjmndjmhjleabaaGreatDoorPk4
import Derived.Test.YtjmndjmhjleabaaGreatDoorPk1
import Derived.Test.YtjmndjmhjleabaaGreatDoorPk10
import Derived.Test.YtjmndjmhjleabaaGreatDoorPk5
import Derived.Test.YtjmndjmhjleabaaGreatDoorBase
import Derived.Test.YtjmndjmhjleabaaGreatDoorProg
import Derived.Test.YtjmndjmhjleabaaGreatDoorPk9
set_option maxHeartbeats 1600000
set_option maxRecDepth 100000
open Go.Proofs.Tryz
namespace Go.Proofs.YtjmndjmhjleabaaGreatDoor
open Go.RowKit
theorem D9:(prog.info? 9).map (fun i=>(i.zero,i.size,i.bytes))=some (some (.string ⟨#[]⟩),1,16):=by kernel_rfl
def Fd.vals (name:ay)(l:au):List ay:=(l.filter fun p=>decide (Ch.lower p.1.data.toList=Ch.lower name.data.toList)).map (·.2)
theorem Fd.Ic (name:ay)(l:au)(p:ay×ay):
 Fd.vals name (l++[p])=if Ch.lower p.1.data.toList=Ch.lower name.data.toList then Fd.vals name l++[p.2] else Fd.vals name l:=by
 unfold Fd.vals;rw[List.filter_append,bG];by_cases h:Ch.lower p.1.data.toList=Ch.lower name.data.toList
 . rw[if_pos h];simp[h]
 . rw[if_neg h];simp[h]
theorem Fd.kP (name:ay)(l:au):(Fd.vals name l).length<=l.length:=by
 unfold Fd.vals;rw[aF];exact List.length_filter_le _ _
def Fd.one (vs:List ay):av×Nat :=
 match vs with
 | []=>([],10)
 | [v]=>(v.data.toList,0)
 | _=>([],9)
def Fd.val (t:Fd.Told):Value:=.tuple #[.agg #[.string ⟨t.name.toArray⟩,.string ⟨t.value.toArray⟩],.int .i64 (t.code:Int)]
theorem zT (l:au)(name:ay)(ao:ak)(cap n:Nat)(w:World)(hl:jo w ao cap n (gU l))(hn:l.length=n)(hN:n<=1000000)(hs:∀p∈l,p.1.size<=2000)(hnm:name.size<=2000):
 Calls prog 69 #[.slice ao n cap,.string name] w fun e w'=>∃gW cap',e=.returned (.slice gW (Fd.vals name l).length cap')∧gV w' w.heap.size 9 1 gW cap' (Fd.vals name l).length (oI (Fd.vals name l))∧aj w w':=by
 subst hn;obtain⟨i0,hi0,hz0,hz1,hz2⟩:=info_parts D9;have Hi:=H9 hi0;have kK:=H9 hz0;have kH:=H9 hz1;have kL:=H9 hz2
 have H:=H9 hl;have Hs:=H9 hs;have HSn:=H9 (fun W=>xK name W hnm);clear hl hs hi0 hz0 hz1 hz2;go_enter func69,ntmps69;go_wp2;go_loopw [5,6] (fun v t wr=>∃(k:Nat) (gW:ak) (cap':Nat),k<=l.length∧t=.int .i64 k∧v=.slice gW (Fd.vals name (l.take k)).length cap'∧gV wr w.heap.size 9 1 gW cap' (Fd.vals name (l.take k)).length (oI (Fd.vals name (l.take k)))∧aj w wr) (fun _ t _=>l.length-(intOf t).toNat)
 case atStart=>exact⟨0,none,0,aA _,rfl,rfl,gV.nil _ _ _ _,fJ _ _⟩
 case round =>
  obtain⟨k,gW,cap',hk,rfl,rfl,hO,hB⟩:=hrel;have HO:=H9 hO;have HB:=H9 hB
  clear hO hB;have hvl:=Fd.kP name (l.take k);have hvk:(l.take k).length<=k:=dM _ _;by_cases hlt:k<l.length
  . have hpl:0<(gU l).length:=by rw[mW];omega
    obtain⟨bb,oo,rfl,hcs⟩:=H.o.lit hpl;have HC:Hid (∀W,aj w W->W.cell? ⟨bb,oo+k*2,none⟩=some (.string l[k].1)∧W.cell? ⟨bb,oo+k*2+1,none⟩=some (.string l[k].2)):=fun W hW=>by
     have h1:=hcs _ _ (nY l k hlt).1;have h2:=hcs _ _ (nY l k hlt).2;rw[<-bL] at h2;exact⟨(hW.cell (gq w _ h1)).trans h1,(hW.cell (gq w _ h2)).trans h2⟩
    clear hcs;have HT:Hid (l.take (k+1)=l.take k++[l[k]]):=bO hlt;have hp1:=Hs.o l[k] (aC hlt);have HSp:=H9 (fun W=>xK l[k].1 W hp1);have hc0:=(HC.o wr HB.o).1;have hlt':(k:Int)<l.length:=by omega
    have HV:=H9 (Fd.Ic name (l.take k) l[k]);rw[<-HT.o] at HV;generalize l[k]=p at *;have uy:Hid (((⟨(Ch.lower p.1.data.toList).toArray⟩:ay).toList==(⟨(Ch.lower name.data.toList).toArray⟩:ay).toList)=decide (Ch.lower p.1.data.toList=Ch.lower name.data.toList)):=by
     unfold Hid;rw[Lib.toList_data,Lib.toList_data,aH];simp
    generalize (⟨(Ch.lower p.1.data.toList).toArray⟩:ay)=sp at HSp uy;generalize (⟨(Ch.lower name.data.toList).toArray⟩:ay)=sn at HSn uy;generalize Fd.vals name (l.take k)=vs at HO HV hvl;by_cases heq:Ch.lower p.1.data.toList=Ch.lower name.data.toList
    . have hx:=uy.o;rw[aI heq] at hx;have Lg:Hid (Fd.vals name (l.take (k+1))=vs++[p.2]):=by have:=HV.o;rw[if_pos heq] at this;exact this
      clear HV uy heq;go_wp2_with fail
      refine(HSp.o _).mono ?_;rintro e w1 ⟨rfl,n1,hw⟩;subst hw;go_wp2_with fail
      refine(HSn.o _).mono ?_;rintro e w2 ⟨rfl,n2,hw⟩;have HB2:Hid (aj w w2):=by rw[hw];exact HB.o.trans ⟨rfl,rfl,rfl,aM _,fun _ _=>rfl⟩
      have BP:Hid (gV w2 w.heap.size 9 1 gW cap' vs.length (oI vs)):=by rw[hw];exact HO.o
      clear hw hc0;have hc1:=(HC.o w2 HB2.o).2;go_wp2_with (at_builtin;refine gT rfl (.tmp 22) (.tmp 28) 134 rfl w.heap.size 9 i0 (.string ⟨#[]⟩) 1 16 underlying134 Hi.o kK.o kH.o kL.o rfl (by decide) rfl (BP.o.alloc _) rfl (jo.made _ _ 1 _ _) rfl (fun u hu=>by simp at hu;subst hu;rfl) (by omega) (by omega) (by have:=HB2.o.size;simp;omega) ?_;intro jQ gX w3 hO3 hG3 _)
      go_roundw
      case rel =>
       have e1:Fd.vals name (l.take (k+1))=vs++[p.2]:=Lg.o;refine⟨k+1,jQ,gX,by omega,by go_num,by rw[e1,aW];rfl,?_,?_⟩
       . rw[e1,aW,vQ];exact hO3
       . exact(HB2.o.alloc HB2.o.size _).grown hG3 (by have:=HB2.o.size;simp;omega) (fun q e=>by
          cases gW with
          | none=>simp[gL] at e
          | some y=>simp only[gL,bU] at e;have:=(BP.o.block y rfl).1;omega)
      case measure=>simp[intOf];omega
    . have hx:=uy.o;rw[aJ heq] at hx;have Lg:Hid (Fd.vals name (l.take (k+1))=vs):=by have:=HV.o;rw[if_neg heq] at this;exact this
      clear HV uy heq;go_wp2_with fail
      refine(HSp.o _).mono ?_;rintro e w1 ⟨rfl,n1,hw⟩;subst hw;go_wp2_with fail
      refine(HSn.o _).mono ?_;rintro e w2 ⟨rfl,n2,hw⟩;have HB2:Hid (aj w w2):=by rw[hw];exact HB.o.trans ⟨rfl,rfl,rfl,aM _,fun _ _=>rfl⟩
      have BP:Hid (gV w2 w.heap.size 9 1 gW cap' vs.length (oI vs)):=by rw[hw];exact HO.o
      clear hw hc0;go_wp2;go_roundw
      case rel=>exact⟨k+1,gW,cap',by omega,by go_num,by rw[Lg.o],by rw[Lg.o];exact BP.o,HB2.o⟩
      case measure=>simp[intOf];omega
  . obtain rfl:k=l.length:=by omega
    go_wp2;go_ret;have e:l.take l.length=l:=bP;have h1:=HO.o;rw[e] at h1;exact⟨gW,cap',by rw[e];rfl,h1,HB.o⟩
theorem Sb (l:au)(name:ay)(ao:ak)(cap n:Nat)(w:World)(hl:jo w ao cap n (gU l))(hn:l.length=n)(hN:n<=1000000)(hs:∀p∈l,p.1.size<=2000)(hnm:name.size<=2000):
 Calls prog 54 #[.slice ao n cap,.string name] w fun e w'=>e=.returned (rQ (Fd.one (Fd.vals name l)))∧aj w w':=by
 have HV:=H9 (zT l name ao cap n w hl hn hN hs hnm);have hvl:=Fd.kP name l;rw[hn] at hvl;generalize Fd.vals name l=vs at HV hvl;clear hl hs;rcases vs with _ | ⟨v,_ | ⟨v2,t⟩⟩
 . go_enter func54,ntmps54;go_wp2_with fail
   refine HV.o.mono ?_;rintro e w1 ⟨zU,ow,rfl,hO,hB⟩;have HO:=H9 hO;have HB:=H9 hB
   clear hO hB HV;go_wp2;go_ret2;exact⟨ql (p:=([],10)) rfl rfl,HB.o⟩
 . go_enter func54,ntmps54;go_wp2_with fail
   refine HV.o.mono ?_;rintro e w1 ⟨zU,ow,rfl,hO,hB⟩;have HO:=H9 hO;have HB:=H9 hB
   clear hO hB HV;obtain⟨bb,oo,rfl,hcs⟩:=HO.o.nQ.lit (by simp[oI]);have hc:=hcs 0 (.string v) rfl;rw[bK] at hc;clear hcs;go_wp2;go_ret2;exact⟨ql (p:=(v.data.toList,0)) rfl rfl,HB.o⟩
 . have t0:(((v::v2::t).length:Int)==0)=false:=by rw[aS,aX,aX];omega
   have t1:decide (((v::v2::t).length:Int) > 1)=true:=by rw[bR,aX,aX];omega
   have HR:Hid (Fd.one (v::v2::t)=([],9)):=rfl;generalize v::v2::t=vs at *;generalize vs.length=L at *;go_enter func54,ntmps54;go_wp2_with fail
   refine HV.o.mono ?_;rintro e w1 ⟨zU,ow,rfl,hO,hB⟩;have HO:=H9 hO;have HB:=H9 hB
   clear hO hB HV;go_wp2;go_ret2;exact⟨ql (p:=([],9)) HR.o rfl,HB.o⟩
def Bb (c:UInt8)(l:av)(r:Int):Prop:=(r=-1∧∀j (hj:j<l.length),l[j]≠c)∨∃i:Nat,∃hi:i<l.length,r=i∧l[i]=c∧∀j (hj:j<l.length),i<j->l[j]≠c
theorem byte_at (s:ay)(i:Nat)(h:i<s.size):s.data.toList[i]'(by rw[Ch.iD];exact h)=s[i]:=by
 rw[Array.getElem_toList];rfl
theorem SF (s:ay)(c:UInt8)(w:World)(hs:s.size<=maxLen):
 Calls prog 314 #[.string s,.int .u8 c.toNat] w fun e w'=>∃r:Int,e=.returned (.int .i64 r)∧Bb c s.data.toList r∧w'=w:=by
 have hl:=Ch.iD s;have hsM:(s.size:Int)<=9223372036854775807:=by unfold maxLen at hs;omega
 go_enter func314,ntmps314;go_wp2;go_loopw [5] (fun t wr=>wr=w∧∃k:Nat,k<=s.size∧t=.int .i64 ((k:Int)-1)∧∀j (hj:j<s.data.toList.length),k<=j->s.data.toList[j]≠c) (fun t _=>((intOf t)+1).toNat)
 case atStart=>exact⟨rfl,s.size,aM _,rfl,fun j hj h=>by omega⟩
 case round =>
  obtain⟨rfl,k,hk,rfl,hno⟩:=hrel;have sH:=H9 hno;clear hno;cases k with
  | zero =>
    have HR:Hid (Bb c s.data.toList (-1)):=Or.inl ⟨rfl,fun j hj=>sH.o j hj (aA _)⟩;go_wp2;go_ret;exact⟨-1,rfl,HR.o,rfl⟩
  | succ i =>
    have hi:i<s.size:=by omega
    have e1:((i+1:Nat):Int)-1=(i:Int):=by omega
    rw[e1];have hge:(i:Int)≥0:=by omega
    have hilt:(i:Int)<s.size:=by omega
    by_cases hc:s[i]=c
    . have t0:((s[i].toNat:Int)==(c.toNat:Int))=true:=by rw[hc];exact fD _
      have HR:Hid (Bb c s.data.toList (i:Int)):=Or.inr ⟨i,by rw[hl];exact hi,rfl,by rw[byte_at s i hi];exact hc,fun j hj h=>sH.o j hj h⟩;clear hc sH;go_wp2;go_ret;exact⟨i,rfl,HR.o,rfl⟩
    . have t0:((s[i].toNat:Int)==(c.toNat:Int))=false:=by rw[aS];intro e;exact hc (dR.1 (by omega))
      have ahV:Hid (∀j (hj:j<s.data.toList.length),i<=j->s.data.toList[j]≠c):=fun j hj h=>by
       rcases Nat.lt_or_eq_of_le h with h | h
       . exact sH.o j hj h
       . subst h;rw[byte_at s i hi];exact hc
      clear hc sH;go_wp2;go_roundw
      case rel=>exact⟨trivial,i,by omega,by go_num,ahV.o⟩
      case measure=>simp[intOf]
theorem Ir (s:ay)(c:UInt8)(w:World)(hs:s.size<=maxLen):
 Calls prog 312 #[.string s,.int .u8 c.toNat] w fun e w'=>∃r:Int,e=.returned (.int .i64 r)∧Bb c s.data.toList r∧w'=w:=by
 have H:=H9 (SF s c w hs);go_enter func312,ntmps312;go_wp2_with fail
 refine H.o.mono ?_;rintro e w' ⟨r,rfl,hr,hw⟩;subst hw;go_wp2;go_ret;exact⟨r,rfl,hr,rfl⟩
theorem SG (w:World)(ao:ak)(cap n:Nat)(l:av)(c:UInt8)(h:iH w ao cap l)(hn:l.length=n):
 Calls prog 315 #[.slice ao n cap,.int .u8 c.toNat] w fun e w'=>∃gW cap' n',e=.returned (.slice gW n' cap')∧n'=(l.dropWhile (·==c)).length∧iH w gW cap' (l.dropWhile (·==c))∧w'=w:=by
 have HB:=H9 h;have HN:=H9 hn;clear h hn;go_enter func315,ntmps315;go_wp2;go_loopw [0] (fun t wr=>wr=w∧∃(gW:ak) (cap' n':Nat) (r:av),t=.slice gW n' cap'∧n'=r.length∧iH w gW cap' r∧r.dropWhile (·==c)=l.dropWhile (·==c)) (fun t _=>match t with | .slice _ k _=>k | _=>0)
 case atStart=>exact⟨rfl,ao,cap,n,l,rfl,HN.o.symm,HB.o,rfl⟩
 case round =>
  obtain⟨rfl,gW,cap',n',r,rfl,hn',hI,hd⟩:=hrel;have HI:=H9 hI;have HD:=H9 hd
  clear hI hd;cases r with
  | nil =>
    obtain rfl:n'=0:=hn';have HR:Hid (l.dropWhile (·==c)=[]):=by unfold Hid;rw[<-HD.o];rfl
    go_wp2;go_ret;exact⟨none,0,0,rfl,by rw[HR.o];rfl,by rw[HR.o];exact iH.nil _,rfl⟩
  | cons x t =>
    obtain⟨bb,oo,rfl,hcs⟩:=HI.o.lit (by simp);have cx:=hcs 0 (by simp);have cx:wr.cell? ⟨bb,oo,none⟩=some (.int .u8 (x.toNat:Int)):=by simpa using cx
    have hcap:n'<=cap':=by rw[hn'];exact HI.o.1
    have hpos:0<n':=by rw[hn'];simp
    have WG:=H9 hn';clear hcs;by_cases hx:x=c
    . have tx:((x.toNat:Int)==(c.toNat:Int))=true:=by rw[hx];exact fD _
      have HD2:Hid (t.dropWhile (·==c)=l.dropWhile (·==c)):=by unfold Hid;rw[<-HD.o,dW,if_pos (by simpa using hx)]
      have hcut:∀jy,(cap'≠1->jy=some ⟨bb,oo+1,none⟩)->iH wr jy (cap'-1) t:=fun jy he=>by
       have:=HI.o.cut (gW:=jy) 1 (x::t).length (by simp) (aM _) (fun e=>by rw[he e];rfl);simpa using this
      have Zy:=H9 hcut;clear hcut hx hn';by_cases hc1:cap'=1
      . subst hc1;obtain rfl:n'=1:=by omega
        go_wp2;go_roundw
        case rel=>exact⟨trivial,_,_,_,t,rfl,by have:=WG.o;rw[aX] at this;omega,by simpa using Zy.o _ (fun e=>absurd rfl e),HD2.o⟩
        case measure=>simp
      . go_wp2;go_roundw
        case rel=>exact⟨trivial,_,_,_,t,rfl,by have:=WG.o;rw[aX] at this;omega,Zy.o _ (fun _=>rfl),HD2.o⟩
        case measure=>simp;omega
    . have tx:((x.toNat:Int)==(c.toNat:Int))=false:=by rw[aS];intro e;exact hx (dR.1 (by omega))
      have HR:Hid (l.dropWhile (·==c)=x::t):=by unfold Hid;rw[<-HD.o,dW,if_neg (by simpa using hx)]
      have t0:((n':Int)==0)=false:=by rw[aS];omega
      clear hx hn';go_wp2;go_ret;exact⟨_,_,n',rfl,by rw[HR.o];exact WG.o,by rw[HR.o];exact HI.o,rfl⟩
theorem Ow (w:World)(ao:ak)(cap n:Nat)(l:av)(h:iH w ao cap l)(hn:l.length=n):
 Calls prog 313 #[.slice ao n cap,.string ⟨#[46]⟩] w fun e w'=>∃gW cap' n',e=.returned (.slice gW n' cap')∧n'=(l.dropWhile (·==46)).length∧iH w gW cap' (l.dropWhile (·==46))∧w'=w:=by
 have HT:=H9 (SG w ao cap n l 46 h hn);by_cases h0:n=0
 . subst h0;obtain rfl:l=[]:=dw hn;clear HT h hn;go_enter func313,ntmps313;go_wp2;go_ret;exact⟨none,0,0,rfl,rfl,iH.nil _,rfl⟩
 . have t0:((n:Int)==0)=false:=by rw[aS];omega
   clear h hn h0;go_enter func313,ntmps313;go_wp2_with fail
   refine HT.o.mono ?_;rintro e w' ⟨gW,cap',n',rfl,h1,h2,hw⟩;subst hw;have H1:=H9 h1;clear h1;go_wp2;go_ret;exact⟨gW,cap',n',rfl,H1.o,h2,rfl⟩
def Ln.val (t:Ln.Told):Value:=.tuple #[.string ⟨t.text.toArray⟩,.int .i64 (t.size:Int),.bool t.ended,.int .i64 (t.code:Int)]
theorem sF {v:Value}{t u:Ln.Told}(hu:u=t)(h:v=Ln.val t):Ending.returned v=.returned (Ln.val u):=by rw[h,hu]
theorem FI (l:av)(ao:ak)(cap n:Nat)(w:World)(hl:iH w ao cap l)(hn:l.length=n)(hN:n<=1000000):
 Calls prog 42 #[.slice ao n cap] w fun e w'=>e=.returned (Ln.val (Ln.of l))∧w'=w:=by
 subst hn;have H:=H9 hl;have hcap:=hl.1;clear hl;go_enter func42,ntmps42;go_wp2;go_loop [6] (fun t=>∃i:Nat,i<=l.length∧t=.int .i64 i∧Ln.of l=Ln.go l i (l.drop i)) (fun t=>l.length-(intOf t).toNat)
 case atStart=>exact⟨0,aA _,rfl,rfl⟩
 case round =>
  obtain⟨i,hi,rfl,hg⟩:=hrel;by_cases hlt:i<l.length
  . obtain⟨bb,oo,rfl,hcs⟩:=H.o.lit (by omega);have HCs:=H9 hcs;clear hcs;have hcell:=HCs.o i hlt;have hlt':(i:Int)<l.length:=by omega
    rw[Ln.Ke l i hlt] at hg;have hb:=l[i].toNat_lt;by_cases mE:l[i]=13
    . rw[if_pos mE] at hg;have Y4:((l[i].toNat:Int)==13)=true:=by rw[mE];rfl
      by_cases h2:i+1<l.length
      . rw[dif_pos h2] at hg;have te:((i:Int)+1==l.length)=false:=by rw[aS];omega
        have hcell2:=HCs.o (i+1) h2;have b1:(i:Int)+1<l.length:=by omega
        by_cases h10:l[i+1]=10
        . rw[if_pos h10] at hg;have t10:((l[i+1].toNat:Int) != 10)=false:=by rw[h10];rfl
          have hq:=(H.o.first i (by omega)).str (P:=prog) 31 9 5 underlying31 underlying5 underlying9;rw[bY,dV (by omega)] at hq;have b2:(i:Int)<=cap:=by omega
          have HG:=H9 hg;clear hg mE h10;generalize l[i]=c at *;generalize l[i+1]=d at *;go_wp2;(try simp only[Exit.inBlock,Exit.then]);refine gy (gY rfl _ _ _) rfl ?_;exact⟨sF HG.o rfl,rfl⟩
        . rw[if_neg h10] at hg;have t10:((l[i+1].toNat:Int) != 10)=true:=C8 h10;have HG:=H9 hg;clear hg mE h10;generalize l[i]=c at *;generalize l[i+1]=d at *;go_wp2;(try simp only[Exit.inBlock,Exit.then]);refine gy (gY rfl _ _ _) rfl ?_;exact⟨sF HG.o rfl,rfl⟩
      . rw[dif_neg h2] at hg;have te:((i:Int)+1==l.length)=true:=by rw[aT];omega
        have HG:=H9 hg;clear hg mE;generalize l[i]=c at *;go_wp2;(try simp only[Exit.inBlock,Exit.then]);refine gy (gY rfl _ _ _) rfl ?_;exact⟨sF HG.o rfl,rfl⟩
    . rw[if_neg mE] at hg;have Y4:((l[i].toNat:Int)==13)=false:=kZ mE;by_cases h10:l[i]=10
      . rw[if_pos h10] at hg;have t10:((l[i].toNat:Int)==10)=true:=by rw[h10];rfl
        have HG:=H9 hg;clear hg mE h10;generalize l[i]=c at *;go_wp2;(try simp only[Exit.inBlock,Exit.then]);refine gy (gY rfl _ _ _) rfl ?_;exact⟨sF HG.o rfl,rfl⟩
      . rw[if_neg h10] at hg;have t10:((l[i].toNat:Int)==10)=false:=kZ h10;have HS:=H9 (yS (l[i].toNat:Int) w);cases hv:Ch.visible l[i].toNat
        . rw[hv] at HS;rw[if_pos hv] at hg;have HG:=H9 hg;clear hg mE h10 hv;generalize l[i]=c at *;go_wp2_with fail
          refine HS.o.mono ?_;rintro e w' ⟨rfl,hw⟩;subst hw;go_wp2;(try simp only[Exit.inBlock,Exit.then]);refine gy (gY rfl _ _ _) rfl ?_;exact⟨sF HG.o rfl,rfl⟩
        . rw[hv] at HS;rw[if_neg (by rw[hv];simp)] at hg;by_cases ac6:i=200
          . rw[if_pos ac6] at hg;subst ac6;have HG:=H9 hg;clear hg mE h10 hv;generalize l[200]=c at *;go_wp2_with fail
            refine HS.o.mono ?_;rintro e w' ⟨rfl,hw⟩;subst hw;go_wp2;(try simp only[Exit.inBlock,Exit.then]);refine gy (gY rfl _ _ _) rfl ?_;exact⟨sF HG.o rfl,rfl⟩
          . rw[if_neg ac6] at hg;have an6:((i:Int)==200)=false:=by rw[aS];omega
            have HG:=H9 hg;clear hg mE h10 hv;generalize l[i]=c at *;go_wp2_with fail
            refine HS.o.mono ?_;rintro e w' ⟨rfl,hw⟩;subst hw;go_wp2;go_round
            case rel=>exact⟨i+1,by omega,by go_num,HG.o⟩
            case measure=>simp[intOf];omega
  . rw[Ln.Dh l i (by omega)] at hg;have HG:=H9 hg;clear hg;obtain rfl:i=l.length:=by omega
    go_wp2;(try simp only[Exit.inBlock,Exit.then]);refine gy (gY rfl _ _ _) rfl ?_;exact⟨sF HG.o rfl,rfl⟩
def qg (m x:av)(i:Nat):Prop:=i+m.length<=x.length∧(x.drop i).take m.length=m
def PV (m x:av)(r:Int):Prop:=(r=-1∧∀j,¬qg m x j)∨∃k:Nat,r=k∧qg m x k∧∀j,j<k->¬qg m x j
theorem Uy (w:World)(ao:ak)(cap:Nat)(x:av)(s:ay)(hx:iH w ao cap x)(hs:s.size=0):
 Calls prog 75 #[.slice ao x.length cap,.string s] w fun e w'=>e=.returned (.int .i64 0)∧w'=w:=by
 have hs':(s.size:Int)=0:=by omega
 have hcap:=hx.1;have he:s.toList=[]:=by
  rw[Lib.toList_data];exact dw (by rw[aO];exact hs)
 have hq:=(hx.first 0 (aA _)).str (P:=prog) 31 9 5 underlying31 underlying5 underlying9;simp only[List.take_zero,cu] at hq;clear hx;go_enter func75,ntmps75;go_wp2;go_loop [5] (fun t=>t=.int .i64 0) (fun _=>0)
 case atStart=>rfl
 case round =>
  subst hrel;go_wp2;go_ret;exact⟨rfl,rfl⟩
theorem Uz (w:World)(ao:ak)(cap:Nat)(x:av)(s:ay)(hx:iH w ao cap x)(hL:s.size<=1000000)(hs:0<s.size)(hX:x.length<=1000000):
 Calls prog 75 #[.slice ao x.length cap,.string s] w fun e w'=>∃r,e=.returned (.int .i64 r)∧PV s.data.toList x r∧w'=w:=by
 have hcap:=hx.1;have H:=H9 hx;have HL:Hid (s.data.toList.length=s.size):=by unfold Hid;rw[aO];rfl
 clear hx;go_enter func75,ntmps75;go_wp2;go_loop [5] (fun t=>∃k:Nat,k<=x.length∧t=.int .i64 k∧∀j,j<k->¬qg s.data.toList x j) (fun t=>x.length+1-(intOf t).toNat)
 case atStart=>exact⟨0,aA _,rfl,fun j h=>by omega⟩
 case round =>
  obtain⟨k,hk,rfl,hno⟩:=hrel;have HN:=H9 hno;clear hno;by_cases hlt:k+s.size<=x.length
  . obtain⟨a,rfl⟩:=H.o.some (by omega);have e1:(k:Int)+s.size<=x.length:=by omega
    have e2:(k:Int)+s.size<=cap:=by omega
    have e3:((k:Int)+s.size).toNat=k+s.size:=by omega
    have e4:¬cap=k:=by omega
    have e5:k+s.size-k=s.size:=by omega
    have hq:(convert 31 9 (.slice (some (a.add k)) s.size (cap-k))).run prog w=.ok (.string ⟨((x.drop k).take s.size).toArray⟩) w:=by
     have h:=H.o.cut (gW:=some (a.add k)) k (k+s.size) (by omega) hlt (fun _=>rfl);rw[e5] at h;have h':=h.str (P:=prog) 31 9 5 underlying31 underlying5 underlying9;rw[bY,bV,dV (by omega)] at h';exact h'
    by_cases hy:(x.drop k).take s.size=s.data.toList
    . have HY:Hid (qg s.data.toList x k):=⟨by rw[HL.o];exact hlt,by rw[HL.o];exact hy⟩;have hy':((x.drop k).take s.size==s.toList)=true:=by rw[Lib.toList_data,hy];exact fD _
      clear hy;go_wp2;go_ret;exact⟨k,rfl,Or.inr ⟨k,rfl,HY.o,HN.o⟩,rfl⟩
    . have HY:Hid (¬qg s.data.toList x k):=fun h=>hy (by have:=h.2;rwa[HL.o] at this);have hy':((x.drop k).take s.size==s.toList)=false:=by rw[Lib.toList_data,aS];exact hy
      clear hy;go_wp2;go_round
      case rel =>
       refine⟨k+1,by omega,by go_num,fun j hj=>?_⟩;by_cases e:j=k
       . subst e;exact HY.o
       . exact HN.o j (by omega)
      case measure=>simp[intOf];omega
  . have ht:decide ((k:Int)+s.size<=x.length)=false:=by rw[bQ];omega
    go_wp2;go_ret;refine⟨-1,rfl,Or.inl ⟨rfl,fun j hj=>?_⟩,rfl⟩;by_cases e:j<k
    . exact HN.o j e hj
    . have:=hj.1;rw[HL.o] at this;omega
theorem FJ (w:World)(ao:ak)(cap n:Nat)(x:av)(s:ay)(hx:iH w ao cap x)(hn:x.length=n)(hL:s.size<=1000000)(hX:n<=1000000):
 Calls prog 75 #[.slice ao n cap,.string s] w fun e w'=>∃r,e=.returned (.int .i64 r)∧PV s.data.toList x r∧w'=w:=by
 subst hn;by_cases h:s.size=0
 . refine(Uy w ao cap x s hx h).mono ?_;rintro e w' ⟨rfl,hw⟩;have e:s.data.toList=[]:=by
    exact dw (by rw[aO];exact h)
   exact⟨0,rfl,Or.inr ⟨0,rfl,⟨by rw[e];simp,by rw[e];rfl⟩,fun j hj=>by omega⟩,hw⟩
 . exact Uz w ao cap x s hx hL (by omega) hX
theorem FK {c:UInt8}{l:av}{r:Int}(h:PV [c] l r):(r=-1∧Fd.at_ c l=l.length)∨(r=(Fd.at_ c l:Int)∧Fd.at_ c l<l.length):=by
 have key:∀j (hj:j<l.length),qg [c] l j<->l[j]=c:=fun j hj=>by
  unfold qg;rw[aD hj];constructor
  . rintro ⟨_,h⟩;exact(List.cons.inj (show l[j]::List.take 0 _=c::[] from h)).1
  . intro e;exact⟨by simp;omega,by rw[e];rfl⟩
 rcases h with ⟨h1,h2⟩ | ⟨k,h1,h2,h3⟩
 . exact Or.inl ⟨h1,Fd.Qb (fun j hj e=>h2 j ((key j hj).2 e))⟩
 . have hk:k<l.length:=by have:=h2.1;simp at this;omega
   have e:=Fd.aaD hk ((key k hk).1 h2) (fun j hj e=>h3 j hj ((key j (by omega)).2 e));exact Or.inr ⟨by rw[e];exact h1,by omega⟩
end Go.Proofs.YtjmndjmhjleabaaGreatDoor