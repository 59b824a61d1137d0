/- Package request, walked: sameNumber. -/
import Derived.Test.YthhklgjjnaeaoaaGreatDoorFlB
set_option maxHeartbeats 2000000
set_option maxRecDepth 100000
open Go.Proofs.Tryz
namespace Go.Proofs.YthhklgjjnaeaoaaGreatDoor
open Go.RowKit
theorem EC (a:List ay)(ao:ak)(cap:Nat)(w:World)(W:ji w ao cap a.length (BO a))(hN:a.length<=1000000)(hs:∀v∈a,v.size<=2000):
 Calls prog 272 #[.slice ao a.length cap] w fun e w'=>e=.returned (Rq.lenVal (Rq.rC (Rq.lists a)))∧w'=w:=by
 have G:=W;have s:=H9 hs
 have m:Rq.rC (Rq.lists a)=match Rq.sizes ((Rq.lists a).headD []) 0 (Rq.lists a) with | .inl c=>.inl c | .inr n=>if 4000<n then .inl 4 else .inr n:=rfl
 generalize Rq.rC (Rq.lists a)=RES at m ⊢;go_enter func272,ntmps272;go_wp2;go_loopw [4,11] (fun vn t wr=>∃(i:Nat) (n:Int),i<=a.length∧t=.int .i64 i∧vn=.int .i64 n∧0<=n∧n<68719476736∧Rq.sizes ((Rq.lists a).headD []) 0 (Rq.lists a)=Rq.sizes ((Rq.lists a).headD []) n ((Rq.lists a).drop i)∧wr=w) (fun _ t _=>a.length-(intOf t).toNat)
 case atStart=>exact⟨0,0,aA _,rfl,rfl,aB _,by decide,rfl,rfl⟩
 case round =>
  obtain⟨i,n,hi,rfl,rfl,hn0,hn1,g,rfl⟩:=hrel;by_cases d:i<a.length
  . obtain⟨H,L,rfl,N⟩:=G.lit (by rw[vC];omega);have S:(i:Int)<a.length:=by omega
    have hcv:=G.1;have c0:wr.cell? ⟨H,L,none⟩=some (.string a[0]):=by have:=N 0 _ (Ic a 0 (by omega));simpa using this
    have ci:wr.cell? ⟨H,L+i,none⟩=some (.string a[i]):=N i _ (Ic a i d);have u:=nV a[i] wr (by have:=s.o a[i] (aC d);unfold maxLen;omega);have z:(Rq.lists a).drop i=a[i].data.toList::(Rq.lists a).drop (i+1):=by
     unfold Rq.lists;rw[aD (by rw[aF];exact d),aG]
    have B:(Rq.lists a).headD []=a[0].data.toList:=by
     unfold Rq.lists;cases a with
     | nil=>simp at d
     | cons v r=>rfl
    have p:=g;rw[z,Rq.sizes] at p;have j:=Rq.Iu a[i].data.toList;have b:(a[i].toList==a[0].toList)=decide (a[i].data.toList=(Rq.lists a).headD []):=by
     rw[B,Lib.toList_data,Lib.toList_data,aH];simp
    generalize a[i]=x at *;generalize a[0]=y at *;generalize (Ch.number 10 9 x.data.toList).1=n2 at *;generalize (Ch.number 10 9 x.data.toList).2=ok at *;have C:=j.1;have D:=j.2;cases ok
    . go_wp2_with (go_at_call 173;refine u.mono ?_;rintro e T ⟨rfl,k⟩;subst k)
      (try simp only[Exit.inBlock,Exit.then]);go_ret2;have:=m;rw[p] at this;first | rw[if_pos rfl] at this | rw[if_pos trivial] at this
      exact⟨by rw[this];rfl,rfl⟩
    . by_cases q:x.data.toList=(Rq.lists a).headD []
      . rw[aI q] at b;go_wp2_with (go_at_call 173;refine u.mono ?_;rintro e T ⟨rfl,k⟩;subst k)
        go_roundw
        case rel =>
         refine⟨i+1,n2,by omega,by go_num,rfl,C,D,?_,by first | rfl | trivial⟩;have:=p;rw[if_neg (by simp),if_neg (fun e=>e q)] at this;exact this
        case measure=>simp[intOf];omega
      . rw[aJ q] at b;go_wp2_with (go_at_call 173;refine u.mono ?_;rintro e T ⟨rfl,k⟩;subst k)
        (try simp only[Exit.inBlock,Exit.then]);go_ret2;have:=m;rw[p,if_neg (by simp),if_pos q] at this;exact⟨by rw[this];rfl,rfl⟩
  . obtain rfl:i=a.length:=by omega
    have f:=m;rw[g,aK (by unfold Rq.lists;simp),Rq.sizes] at f;simp only at f;by_cases l:4000<n
    . rw[if_pos l] at f;have t4:=aI l;go_wp2;go_ret2;exact⟨by rw[f];rfl,rfl⟩
    . rw[if_neg l] at f;have t4:=aJ l;clear  l;go_wp2;go_ret2;exact⟨by rw[f];rfl,rfl⟩
end Go.Proofs.YthhklgjjnaeaoaaGreatDoor