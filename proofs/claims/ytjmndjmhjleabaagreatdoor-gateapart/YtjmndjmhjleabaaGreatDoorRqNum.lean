/- Package request, walked: sameNumber. -/
import Derived.Test.YtjmndjmhjleabaaGreatDoorAl
import Derived.Test.YtjmndjmhjleabaaGreatDoorAm
import Derived.Test.YtjmndjmhjleabaaGreatDoorFlB
import Derived.Test.YtjmndjmhjleabaaGreatDoorPk5
set_option maxHeartbeats 2000000
set_option maxRecDepth 100000
open Go.Proofs.Tryz
namespace Go.Proofs.YtjmndjmhjleabaaGreatDoor
open Go.RowKit
theorem Fq (vs:List ay)(ao:ak)(cap:Nat)(w:World)(hl:jo w ao cap vs.length (oI vs))(hN:vs.length<=1000000)(hs:∀v∈vs,v.size<=2000):
 Calls prog 227 #[.slice ao vs.length cap] w fun e w'=>e=.returned (Rq.lenVal (Rq.sN (Rq.lists vs)))∧w'=w:=by
 have HL:=H9 hl;have HZs:=H9 hs
 have HE:Hid (Rq.sN (Rq.lists vs)=match Rq.sizes ((Rq.lists vs).headD []) 0 (Rq.lists vs) with | .inl c=>.inl c | .inr n=>if 4000<n then .inl 4 else .inr n):=rfl;generalize Rq.sN (Rq.lists vs)=RES at HE ⊢;clear hl hs;go_enter func227,ntmps227;go_wp2;go_loopw [4,11] (fun vn vi wr=>∃(i:Nat) (n:Int),i<=vs.length∧vi=.int .i64 i∧vn=.int .i64 n∧0<=n∧n<68719476736∧Rq.sizes ((Rq.lists vs).headD []) 0 (Rq.lists vs)=Rq.sizes ((Rq.lists vs).headD []) n ((Rq.lists vs).drop i)∧wr=w) (fun _ vi _=>vs.length-(intOf vi).toNat)
 case atStart=>exact⟨0,0,aA _,rfl,rfl,aB _,by decide,rfl,rfl⟩
 case round =>
  obtain⟨i,n,hi,rfl,rfl,hn0,hn1,hsz,rfl⟩:=hrel;have HZ:=H9 hsz;clear hsz;by_cases hlt:i<vs.length
  . obtain⟨bb,oo,rfl,hc⟩:=HL.o.lit (by rw[sI];omega);have hlt':(i:Int)<vs.length:=by omega
    have hcv:=HL.o.1;have c0:wr.cell? ⟨bb,oo,none⟩=some (.string vs[0]):=by have:=hc 0 _ (zo vs 0 (by omega));simpa using this
    have ci:wr.cell? ⟨bb,oo+i,none⟩=some (.string vs[i]):=hc i _ (zo vs i hlt);have sH:=H9 (oz vs[i] wr (by have:=HZs.o vs[i] (aC hlt);unfold maxLen;omega));have hdr:(Rq.lists vs).drop i=vs[i].data.toList::(Rq.lists vs).drop (i+1):=by
     unfold Rq.lists;rw[aD (by rw[aF];exact hlt),aG]
    have hhd:(Rq.lists vs).headD []=vs[0].data.toList:=by
     unfold Rq.lists;cases vs with
     | nil=>simp at hlt
     | cons v r=>rfl
    have hz:=HZ.o;rw[hdr,Rq.sizes] at hz;have hnb:=Rq.Jo vs[i].data.toList;have hsame:(vs[i].toList==vs[0].toList)=decide (vs[i].data.toList=(Rq.lists vs).headD []):=by
     rw[hhd,Lib.toList_data,Lib.toList_data,aH];simp
    have HZ2:=H9 hz;clear hdr hz hhd HZ hc;generalize vs[i]=x at *;generalize vs[0]=y at *;generalize (Ch.number 10 9 x.data.toList).1=n2 at *;generalize (Ch.number 10 9 x.data.toList).2=ok at *;have acT:=hnb.1;have acU:=hnb.2;clear hnb;cases ok
    . go_wp2_with (go_at_call 124;refine sH.o.mono ?_;rintro e w2 ⟨rfl,hw⟩;subst hw)
      (try simp only[Exit.inBlock,Exit.then]);go_ret2;have:=HE.o;rw[HZ2.o] at this;first | rw[if_pos rfl] at this | rw[if_pos trivial] at this
      exact⟨by rw[this];rfl,rfl⟩
    . by_cases he:x.data.toList=(Rq.lists vs).headD []
      . rw[aI he] at hsame;have HD:=H9 he;clear he;go_wp2_with (go_at_call 124;refine sH.o.mono ?_;rintro e w2 ⟨rfl,hw⟩;subst hw)
        go_roundw
        case rel =>
         refine⟨i+1,n2,by omega,by go_num,rfl,acT,acU,?_,by first | rfl | trivial⟩;have:=HZ2.o;rw[if_neg (by simp),if_neg (fun e=>e HD.o)] at this;exact this
        case measure=>simp[intOf];omega
      . rw[aJ he] at hsame;have HD:=H9 he;clear he;go_wp2_with (go_at_call 124;refine sH.o.mono ?_;rintro e w2 ⟨rfl,hw⟩;subst hw)
        (try simp only[Exit.inBlock,Exit.then]);go_ret2;have:=HE.o;rw[HZ2.o,if_neg (by simp),if_pos HD.o] at this;exact⟨by rw[this];rfl,rfl⟩
  . obtain rfl:i=vs.length:=by omega
    have hE:=HE.o;rw[HZ.o,aK (by unfold Rq.lists;simp),Rq.sizes] at hE;simp only at hE;by_cases h4:4000<n
    . rw[if_pos h4] at hE;have t4:decide (n > 4000)=true:=aI h4;have HE2:=H9 hE;clear hE h4;go_wp2;go_ret2;exact⟨by rw[HE2.o];rfl,rfl⟩
    . rw[if_neg h4] at hE;have t4:decide (n > 4000)=false:=aJ h4;have HE2:=H9 hE;clear hE h4;go_wp2;go_ret2;exact⟨by rw[HE2.o];rfl,rfl⟩
end Go.Proofs.YtjmndjmhjleabaaGreatDoor