/- Small texts, one behind the other: FdVals, RfVals, RfOneOf, FsA, RfLine, RfFind. -/
import Derived.Test.YthhklgjjnaeaoaaGreatDoorPk10
import Derived.Test.YthhklgjjnaeaoaaGreatDoorPk5
open Go.Value renaming string->V,slice->Z
set_option maxHeartbeats 800000
set_option maxRecDepth 100000
open Go.Proofs.Tryz
namespace Go.Proofs.YthhklgjjnaeaoaaGreatDoor
open Go.RowKit
theorem V4:(prog.info? 9).map (fun i=>(i.zero,i.size,i.bytes))=some (some (V ⟨#[]⟩),1,16):=by kernel_rfl
def Fd.vals (name:ay)(l:au):List ay:=(l.filter fun p=>decide (Ch.lower p.1.data.toList=Ch.lower name.data.toList)).map (·.2)
theorem Fd.RL (a:ay)(l:au)(p:ay×ay):
 Fd.vals a (l++[p])=if Ch.lower p.1.data.toList=Ch.lower a.data.toList then Fd.vals a l++[p.2] else Fd.vals a l:=by grind [Fd.vals,Ch.lower]
theorem Fd.rz (a:ay)(l:au):(Fd.vals a l).length<=l.length:=by grind [Fd.vals]
def Fd.one (vs:List ay):av×Nat :=
 match vs with
 | []=>([],10)
 | [v]=>(v.data.toList,0)
 | _=>([],9)
def Fd.val (t:Fd.Told):Value:=.tuple #[.agg #[V ⟨t.name.toArray⟩,V ⟨t.value.toArray⟩],.int .i64 (t.code:Int)]
def Aj (c:UInt8)(l:av)(r:Int):Prop:=(r=-1∧∀j (hj:j<l.length),l[j]≠c)∨∃i:Nat,∃hi:i<l.length,r=i∧l[i]=c∧∀j (hj:j<l.length),i<j->l[j]≠c
theorem byte_at (s:ay)(i:Nat)(h:i<s.size):s.data.toList[i]'(by rw[Ch.iK];exact h)=s[i]:=by
 rw[Array.getElem_toList];rfl
theorem Sy (s:ay)(c:UInt8)(w:World)(hs:s.size<=maxLen):
 Calls prog 361 #[.string s,.int .u8 c.toNat] w fun e w'=>∃r:Int,e=.returned (.int .i64 r)∧Aj c s.data.toList r∧w'=w:=by
 have hl:=Ch.iK s;have hsM:(s.size:Int)<=9223372036854775807:=by unfold maxLen at hs;omega
 go_enter func361,ntmps361;go_wp2;go_loopw [5] (fun t wr=>wr=w∧∃k:Nat,k<=s.size∧t=.int .i64 ((k:Int)-1)∧∀j (hj:j<s.data.toList.length),k<=j->s.data.toList[j]≠c) (fun t _=>((intOf t)+1).toNat)
 case atStart=>exact⟨rfl,s.size,aM _,rfl,fun j hj h=>by omega⟩
 case round =>
  obtain⟨rfl,k,hk,rfl,hno⟩:=hrel;cases k with
  | zero =>
    have HR:Aj c s.data.toList (-1):=Or.inl ⟨rfl,fun j hj=>hno j hj (aA _)⟩;go_wp2;go_ret;exact⟨-1,rfl,HR,rfl⟩
  | succ i =>
    have hi:i<s.size:=by omega
    have e1:((i+1:Nat):Int)-1=(i:Int):=by omega
    rw[e1];have hge:(i:Int)≥0:=by omega
    have hilt:(i:Int)<s.size:=by omega
    by_cases hc:s[i]=c
    . have t0:((s[i].toNat:Int)==(c.toNat:Int))=true:=by rw[hc];exact beq_self_eq_true _
      have HR:Aj c s.data.toList (i:Int):=Or.inr ⟨i,by rw[hl];exact hi,rfl,by rw[byte_at s i hi];exact hc,fun j hj h=>hno j hj h⟩;go_wp2;go_ret;exact⟨i,rfl,HR,rfl⟩
    . have t0:((s[i].toNat:Int)==(c.toNat:Int))=false:=by rw[aR];intro e;exact hc (dM.1 (by omega))
      have agp:∀j (hj:j<s.data.toList.length),i<=j->s.data.toList[j]≠c:=fun j hj h=>by
       rcases Nat.lt_or_eq_of_le h with h | h
       . exact hno j hj h
       . subst h;rw[byte_at s i hi];exact hc
      go_wp2;go_roundw
      case rel=>exact⟨trivial,i,by omega,by go_num,agp⟩
      case measure=>simp[intOf]
theorem GA (s:ay)(c:UInt8)(w:World)(hs:s.size<=maxLen):
 Calls prog 359 #[.string s,.int .u8 c.toNat] w fun e w'=>∃r:Int,e=.returned (.int .i64 r)∧Aj c s.data.toList r∧w'=w:=by
 have H:=H9 (Sy s c w hs);go_enter func359,ntmps359;go_wp2_with fail
 refine H.o.mono ?_;rintro e w' ⟨r,rfl,hr,hw⟩;subst hw;go_wp2;go_ret;exact⟨r,rfl,hr,rfl⟩
theorem Sz (w:World)(ao:ak)(cap n:Nat)(l:av)(c:UInt8)(h:gN w ao cap l)(D:l.length=n):
 Calls prog 362 #[Z ao n cap,.int .u8 c.toNat] w fun e w'=>∃gJ a d,e=.returned (Z gJ d a)∧d=(l.dropWhile (·==c)).length∧gN w gJ a (l.dropWhile (·==c))∧w'=w:=by
 go_enter func362,ntmps362;go_wp2;go_loopw [0] (fun t wr=>wr=w∧∃(gJ:ak) (a d:Nat) (r:av),t=Z gJ d a∧d=r.length∧gN w gJ a r∧r.dropWhile (·==c)=l.dropWhile (·==c)) (fun t _=>match t with | Z _ k _=>k | _=>0)
 case atStart=>exact⟨rfl,ao,cap,n,l,rfl,D.symm,h,rfl⟩
 case round =>
  obtain⟨rfl,gJ,a,d,r,rfl,b,G,H⟩:=hrel;have j:=H9 G;have p:=H9 H
  cases r with
  | nil =>
    obtain rfl:d=0:=b;have g:Hid (l.dropWhile (·==c)=[]):=by unfold Hid;rw[<-p.o];rfl
    go_wp2;go_ret;exact⟨none,0,0,rfl,by rw[g.o];rfl,by rw[g.o];exact gN.nil _,rfl⟩
  | cons x t =>
    obtain⟨v,y,rfl,q⟩:=j.o.lit (by simp);have z:=q 0 (by simp);have z:wr.cell? ⟨v,y,none⟩=some (.int .u8 (x.toNat:Int)):=by simpa using z
    have B:d<=a:=by rw[b];exact j.o.1
    have C:0<d:=by rw[b];simp
    have s:=H9 b;by_cases f:x=c
    . have L:((x.toNat:Int)==(c.toNat:Int))=true:=by rw[f];exact beq_self_eq_true _
      have i:t.dropWhile (·==c)=l.dropWhile (·==c):=by rw[<-p.o,dQ,if_pos (by simpa using f)]
      have hcut:∀m,(a≠1->m=some ⟨v,y+1,none⟩)->gN wr m (a-1) t:=fun m N=>by
       have:=j.o.cut (gJ:=m) 1 (x::t).length (by simp) (aM _) (fun e=>by rw[N e];rfl);simpa using this
      clear  f b;by_cases u:a=1
      . subst u;obtain rfl:d=1:=by omega
        go_wp2;go_roundw
        case rel=>exact⟨trivial,_,_,_,t,rfl,by have:=s.o;rw[aW] at this;omega,by simpa using hcut _ (fun e=>absurd rfl e),i⟩
        case measure=>simp
      . go_wp2;go_roundw
        case rel=>exact⟨trivial,_,_,_,t,rfl,by have:=s.o;rw[aW] at this;omega,hcut _ (fun _=>rfl),i⟩
        case measure=>simp;omega
    . have L:((x.toNat:Int)==(c.toNat:Int))=false:=by rw[aR];intro e;exact f (dM.1 (by omega))
      have g:Hid (l.dropWhile (·==c)=x::t):=by unfold Hid;rw[<-p.o,dQ,if_neg (by simpa using f)]
      have S:((d:Int)==0)=false:=by rw[aR];omega
      clear f b;go_wp2;go_ret;exact⟨_,_,d,rfl,by rw[g.o];exact s.o,by rw[g.o];exact j.o,rfl⟩
theorem NY (w:World)(ao:ak)(cap n:Nat)(l:av)(h:gN w ao cap l)(c:l.length=n):
 Calls prog 360 #[Z ao n cap,V ⟨#[46]⟩] w fun e w'=>∃gJ a b,e=.returned (Z gJ b a)∧b=(l.dropWhile (·==46)).length∧gN w gJ a (l.dropWhile (·==46))∧w'=w:=by
 by_cases f:n=0
 . subst f;obtain rfl:l=[]:=dh c;go_enter func360,ntmps360;go_wp2;go_ret;exact⟨none,0,0,rfl,rfl,gN.nil _,rfl⟩
 . have k:((n:Int)==0)=false:=by rw[aR];omega
   go_enter func360,ntmps360;go_wp2_with fail
   refine(Sz w ao cap n l 46 h c).mono ?_;rintro e w' ⟨gJ,a,b,rfl,d,g,i⟩;subst i;have j:=H9 d;clear d;go_wp2;go_ret;exact⟨gJ,a,b,rfl,j.o,g,rfl⟩
end Go.Proofs.YthhklgjjnaeaoaaGreatDoor