import Derived.Test.YtmbghcpcbdjfoaaGreatDoorFlB
set_option maxHeartbeats 2000000
set_option maxRecDepth 100000
open Go.Proofs.Tryz
namespace Go.Proofs.YtmbghcpcbdjfoaaGreatDoor
open Go.RowKit
theorem KU (a:List ag)(ao:ai)(cap:Nat)(w:World)(W:bx w ao cap a.length (fH a))(hN:a.length<=1000000)(hs:∀v∈a,v.size<=2000):
 Calls prog 270 #[.slice ao a.length cap] w fun e w'=>e=.returned (op (qa (aZ a)))∧w'=w:=by
 have G:=W;have s:=aa hs
 have m:qa (aZ a)=match gm ((aZ a).headD []) 0 (aZ a) with | .inl c=>.inl c | .inr n=>if 4000<n then .inl 4 else .inr n:=rfl
 generalize qa (aZ a)=RES at m ⊢;go_enter func270,ntmps270;go_wp2;go_loopw [4,11] (fun vn t wr=>∃(i:Nat) (n:Int),i<=a.length∧t=.int .i64 i∧vn=.int .i64 n∧0<=n∧n<68719476736∧gm ((aZ a).headD []) 0 (aZ a)=gm ((aZ a).headD []) n ((aZ a).drop i)∧wr=w) (fun _ t _=>a.length-(intOf t).toNat)
 case atStart=>exact⟨0,0,ax _,rfl,rfl,ly _,by decide,rfl,rfl⟩
 case round =>
  obtain⟨i,n,hi,rfl,rfl,hn0,hn1,g,rfl⟩:=hrel;by_cases d:i<a.length
  . obtain⟨H,L,rfl,N⟩:=G.e (by rw[yU];omega);have S:(i:Int)<a.length:=by omega
    have hcv:=G.1;have c0:wr.cell? ⟨H,L,none⟩=some (.string a[0]):=by have:=N 0 _ (uz a 0 (by omega));simpa using this
    have ci:wr.cell? ⟨H,L+i,none⟩=some (.string a[i]):=N i _ (uz a i d);have u:=wJ a[i] wr (by have:=s.o a[i] (dG d);unfold maxLen;omega);have z:(aZ a).drop i=a[i].data.toList::(aZ a).drop (i+1):=by
     unfold aZ;rw[gS (by rw[ij];exact d),dH]
    have B:(aZ a).headD []=a[0].data.toList:=by
     unfold aZ;cases a with
     | nil=>simp at d
     | cons v r=>rfl
    have p:=g;rw[z,gm] at p;have j:=Pq a[i].data.toList;have b:(a[i].toList==a[0].toList)=decide (a[i].data.toList=(aZ a).headD []):=by
     rw[B,Lib.toList_data,Lib.toList_data,ik];simp
    generalize a[i]=x at *;generalize a[0]=y at *;generalize (bB 10 9 x.data.toList).1=n2 at *;generalize (bB 10 9 x.data.toList).2=ok at *;have C:=j.1;have D:=j.2;cases ok
    . go_wp2_with (go_at_call 171;refine u.mono ?_;rintro e T ⟨rfl,k⟩;subst k)
      (try simp only[Exit.inBlock,Exit.then]);go_ret2;have:=m;rw[p] at this;first | rw[if_pos rfl] at this | rw[if_pos trivial] at this
      exact⟨by rw[this];rfl,rfl⟩
    . by_cases q:x.data.toList=(aZ a).headD []
      . rw[aV q] at b;go_wp2_with (go_at_call 171;refine u.mono ?_;rintro e T ⟨rfl,k⟩;subst k)
        go_roundw
        case rel =>
         refine⟨i+1,n2,by omega,by go_num,rfl,C,D,?_,by first | rfl | trivial⟩;have:=p;rw[if_neg (by simp),if_neg (fun e=>e q)] at this;exact this
        case measure=>simp[intOf];omega
      . rw[aW q] at b;go_wp2_with (go_at_call 171;refine u.mono ?_;rintro e T ⟨rfl,k⟩;subst k)
        (try simp only[Exit.inBlock,Exit.then]);go_ret2;have:=m;rw[p,if_neg (by simp),if_pos q] at this;exact⟨by rw[this];rfl,rfl⟩
  . obtain rfl:i=a.length:=by omega
    have f:=m;rw[g,lz (by unfold aZ;simp),gm] at f;simp only at f;by_cases l:4000<n
    . rw[if_pos l] at f;have t4:=aV l;go_wp2;go_ret2;exact⟨by rw[f];rfl,rfl⟩
    . rw[if_neg l] at f;have t4:=aW l;clear  l;go_wp2;go_ret2;exact⟨by rw[f];rfl,rfl⟩
