import Derived.Test.YtodmelffkfbalaaGreatDoorFlB
set_option maxHeartbeats 2000000
set_option maxRecDepth 100000
open Go.Proofs.Tryz
namespace Go.Proofs.YtodmelffkfbalaaGreatDoor
open Go.RowKit
theorem Jd (a:List ae)(ao:ag)(cap:Nat)(w:World)(W:bq w ao cap a.length (fi a))(hN:a.length<=1000000)(hs:∀v∈a,v.size<=2000):
 Calls prog 314 #[.slice ao a.length cap] w fun e w'=>e=.returned (rZ (pB (bX a)))∧w'=w:=by
 have G:=W;have s:=aa hs
 have m:pB (bX a)=match lB ((bX a).headD []) 0 (bX a) with | .inl c=>.inl c | .inr n=>if 4000<n then .inl 4 else .inr n:=rfl
 generalize pB (bX a)=RES at m ⊢;go_enter func314,ntmps314;go_wp2;go_loopw [4,11] (fun vn t wr=>∃(i:Nat) (n:Int),i<=a.length∧t=.int .i64 i∧vn=.int .i64 n∧0<=n∧n<68719476736∧lB ((bX a).headD []) 0 (bX a)=lB ((bX a).headD []) n ((bX a).drop i)∧wr=w) (fun _ t _=>a.length-(intOf t).toNat)
 case atStart=>exact⟨0,0,ax _,rfl,rfl,pH _,by decide,rfl,rfl⟩
 case round =>
  obtain⟨i,n,hi,rfl,rfl,hn0,hn1,g,rfl⟩:=hrel;by_cases d:i<a.length
  . obtain⟨H,L,rfl,N⟩:=G.f (by rw[oR];omega);have S:(i:Int)<a.length:=by omega
    have hcv:=G.1;have c0:wr.cell? ⟨H,L,none⟩=some (.string a[0]):=by have:=N 0 _ (pV a 0 (by omega));simpa using this
    have ci:wr.cell? ⟨H,L+i,none⟩=some (.string a[i]):=N i _ (pV a i d);have u:=sV a[i] wr (by have:=s.o a[i] (fb d);unfold maxLen;omega);have z:(bX a).drop i=a[i].data.toList::(bX a).drop (i+1):=by
     unfold bX;rw[kt (by rw[gD];exact d),eu]
    have B:(bX a).headD []=a[0].data.toList:=by
     unfold bX;cases a with
     | nil=>simp at d
     | cons v r=>rfl
    have p:=g;rw[z,lB] at p;have j:=Oz a[i].data.toList;have b:(a[i].toList==a[0].toList)=decide (a[i].data.toList=(bX a).headD []):=by
     rw[B,Lib.toList_data,Lib.toList_data,iM];simp
    generalize a[i]=x at *;generalize a[0]=y at *;generalize (bB 10 9 x.data.toList).1=n2 at *;generalize (bB 10 9 x.data.toList).2=ok at *;have C:=j.1;have D:=j.2;cases ok
    . go_wp2_with (go_at_call 211;refine u.mono ?_;rintro e T ⟨rfl,k⟩;subst k)
      (try simp only[Exit.inBlock,Exit.then]);go_ret2;have:=m;rw[p] at this;first | rw[if_pos rfl] at this | rw[if_pos trivial] at this
      exact⟨by rw[this];rfl,rfl⟩
    . by_cases q:x.data.toList=(bX a).headD []
      . rw[br q] at b;go_wp2_with (go_at_call 211;refine u.mono ?_;rintro e T ⟨rfl,k⟩;subst k)
        go_roundw
        case rel =>
         refine⟨i+1,n2,by omega,by go_num,rfl,C,D,?_,by first | rfl | trivial⟩;have:=p;rw[if_neg (by simp),if_neg (fun e=>e q)] at this;exact this
        case measure=>simp[intOf];omega
      . rw[ba q] at b;go_wp2_with (go_at_call 211;refine u.mono ?_;rintro e T ⟨rfl,k⟩;subst k)
        (try simp only[Exit.inBlock,Exit.then]);go_ret2;have:=m;rw[p,if_neg (by simp),if_pos q] at this;exact⟨by rw[this];rfl,rfl⟩
  . obtain rfl:i=a.length:=by omega
    have f:=m;rw[g,oO (by unfold bX;simp),lB] at f;simp only at f;by_cases l:4000<n
    . rw[if_pos l] at f;have t4:=br l;go_wp2;go_ret2;exact⟨by rw[f];rfl,rfl⟩
    . rw[if_neg l] at f;have t4:=ba l;clear  l;go_wp2;go_ret2;exact⟨by rw[f];rfl,rfl⟩
