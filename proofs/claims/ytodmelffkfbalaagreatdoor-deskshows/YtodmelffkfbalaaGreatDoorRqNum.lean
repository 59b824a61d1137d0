import Derived.Test.YtodmelffkfbalaaGreatDoorFlB
set_option maxHeartbeats 2000000
set_option maxRecDepth 100000
open Go.Proofs.Tryz
namespace Go.Proofs.YtodmelffkfbalaaGreatDoor
open Go.RowKit
theorem Jt (a:List ae)(ao:ag)(cap:Nat)(w:World)(W:bx w ao cap a.length (jb a))(hN:a.length<=1000000)(hs:∀v∈a,v.size<=2000):
 Calls prog 314 #[.slice ao a.length cap] w fun e w'=>e=.returned (sg (pI (bU a)))∧w'=w:=by
 have G:=W;have s:=aa hs
 have m:pI (bU a)=match lB ((bU a).headD []) 0 (bU a) with | .inl c=>.inl c | .inr n=>if 4000<n then .inl 4 else .inr n:=rfl
 generalize pI (bU a)=RES at m ⊢;go_enter func314,ntmps314;go_wp2;go_loopw [4,11] (fun vn t wr=>∃(i:Nat) (n:Int),i<=a.length∧t=.int .i64 i∧vn=.int .i64 n∧0<=n∧n<68719476736∧lB ((bU a).headD []) 0 (bU a)=lB ((bU a).headD []) n ((bU a).drop i)∧wr=w) (fun _ t _=>a.length-(intOf t).toNat)
 case atStart=>exact⟨0,0,ax _,rfl,rfl,pO _,by decide,rfl,rfl⟩
 case round =>
  obtain⟨i,n,hi,rfl,rfl,hn0,hn1,g,rfl⟩:=hrel;by_cases d:i<a.length
  . obtain⟨H,L,rfl,N⟩:=G.f (by rw[vG];omega);have S:(i:Int)<a.length:=by omega
    have hcv:=G.1;have c0:wr.cell? ⟨H,L,none⟩=some (.string a[0]):=by have:=N 0 _ (vW a 0 (by omega));simpa using this
    have ci:wr.cell? ⟨H,L+i,none⟩=some (.string a[i]):=N i _ (vW a i d);have u:=sV a[i] wr (by have:=s.o a[i] (eX d);unfold maxLen;omega);have z:(bU a).drop i=a[i].data.toList::(bU a).drop (i+1):=by
     unfold bU;rw[hJ (by rw[iv];exact d),ej]
    have B:(bU a).headD []=a[0].data.toList:=by
     unfold bU;cases a with
     | nil=>simp at d
     | cons v r=>rfl
    have p:=g;rw[z,lB] at p;have j:=OK a[i].data.toList;have b:(a[i].toList==a[0].toList)=decide (a[i].data.toList=(bU a).headD []):=by
     rw[B,Lib.toList_data,Lib.toList_data,ix];simp
    generalize a[i]=x at *;generalize a[0]=y at *;generalize (bB 10 9 x.data.toList).1=n2 at *;generalize (bB 10 9 x.data.toList).2=ok at *;have C:=j.1;have D:=j.2;cases ok
    . go_wp2_with (go_at_call 211;refine u.mono ?_;rintro e T ⟨rfl,k⟩;subst k)
      (try simp only[Exit.inBlock,Exit.then]);go_ret2;have:=m;rw[p] at this;first | rw[if_pos rfl] at this | rw[if_pos trivial] at this
      exact⟨by rw[this];rfl,rfl⟩
    . by_cases q:x.data.toList=(bU a).headD []
      . rw[bq q] at b;go_wp2_with (go_at_call 211;refine u.mono ?_;rintro e T ⟨rfl,k⟩;subst k)
        go_roundw
        case rel =>
         refine⟨i+1,n2,by omega,by go_num,rfl,C,D,?_,by first | rfl | trivial⟩;have:=p;rw[if_neg (by simp),if_neg (fun e=>e q)] at this;exact this
        case measure=>simp[intOf];omega
      . rw[aX q] at b;go_wp2_with (go_at_call 211;refine u.mono ?_;rintro e T ⟨rfl,k⟩;subst k)
        (try simp only[Exit.inBlock,Exit.then]);go_ret2;have:=m;rw[p,if_neg (by simp),if_pos q] at this;exact⟨by rw[this];rfl,rfl⟩
  . obtain rfl:i=a.length:=by omega
    have f:=m;rw[g,oV (by unfold bU;simp),lB] at f;simp only at f;by_cases l:4000<n
    . rw[if_pos l] at f;have t4:=bq l;go_wp2;go_ret2;exact⟨by rw[f];rfl,rfl⟩
    . rw[if_neg l] at f;have t4:=aX l;clear  l;go_wp2;go_ret2;exact⟨by rw[f];rfl,rfl⟩
