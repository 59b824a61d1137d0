/- Package request, walked: sameNumber. -/
import Derived.Test.YtjmndjmhjleabaaGreatDoorFlB
set_option maxHeartbeats 2000000
set_option maxRecDepth 100000
open Go.Proofs.Tryz
namespace Go.Proofs.YtjmndjmhjleabaaGreatDoor
open Go.RowKit
theorem Fj (a:List av)(ao:aj)(cap:Nat)(w:World)(P:jm w ao cap a.length (oH a))(hN:a.length<=1000000)(S:∀v∈a,v.size<=2000):
 Calls prog 227 #[.slice ao a.length cap] w fun e w'=>e=.returned (Rq.lenVal (Rq.sM (Rq.lists a)))∧w'=w:=by
 have T:=H9 P;have z:=H9 S
 have u:Hid (Rq.sM (Rq.lists a)=match Rq.sizes ((Rq.lists a).headD []) 0 (Rq.lists a) with | .inl c=>.inl c | .inr n=>if 4000<n then .inl 4 else .inr n):=rfl;generalize Rq.sM (Rq.lists a)=RES at u ⊢;clear P S;go_enter func227,ntmps227;go_wp2;go_loopw [4,11] (fun vn B wr=>∃(i:Nat) (n:Int),i<=a.length∧B=.int .i64 i∧vn=.int .i64 n∧0<=n∧n<68719476736∧Rq.sizes ((Rq.lists a).headD []) 0 (Rq.lists a)=Rq.sizes ((Rq.lists a).headD []) n ((Rq.lists a).drop i)∧wr=w) (fun _ B _=>a.length-(intOf B).toNat)
 case atStart=>exact⟨0,0,ay _,rfl,rfl,aA _,by decide,rfl,rfl⟩
 case round =>
  obtain⟨i,n,hi,rfl,rfl,hn0,hn1,p,rfl⟩:=hrel;have C:=H9 p;clear p;by_cases d:i<a.length
  . obtain⟨W,oo,rfl,D⟩:=T.o.lit (by rw[sH];omega);have hlt':(i:Int)<a.length:=by omega
    have hcv:=T.o.1;have c0:wr.cell? ⟨W,oo,none⟩=some (.string a[0]):=by have:=D 0 _ (zm a 0 (by omega));simpa using this
    have ci:wr.cell? ⟨W,oo+i,none⟩=some (.string a[i]):=D i _ (zm a i d);have G:=H9 (ow a[i] wr (by have:=z.o a[i] (aB d);unfold maxLen;omega));have q:(Rq.lists a).drop i=a[i].data.toList::(Rq.lists a).drop (i+1):=by
     unfold Rq.lists;rw[aC (by rw[aD];exact d),aF]
    have s:(Rq.lists a).headD []=a[0].data.toList:=by
     unfold Rq.lists;cases a with
     | nil=>simp at d
     | cons v r=>rfl
    have H:=C.o;rw[q,Rq.sizes] at H;have g:=Rq.Jm a[i].data.toList;have b:(a[i].toList==a[0].toList)=decide (a[i].data.toList=(Rq.lists a).headD []):=by
     rw[s,Lib.toList_data,Lib.toList_data,aG];simp
    have j:=H9 H;clear q H s C D;generalize a[i]=x at *;generalize a[0]=y at *;generalize (Ch.number 10 9 x.data.toList).1=n2 at *;generalize (Ch.number 10 9 x.data.toList).2=ok at *;have L:=g.1;have N:=g.2;clear g;cases ok
    . go_wp2_with (go_at_call 124;refine G.o.mono ?_;rintro e w2 ⟨rfl,t⟩;subst t)
      (try simp only[Exit.inBlock,Exit.then]);go_ret2;have:=u.o;rw[j.o] at this;first | rw[if_pos rfl] at this | rw[if_pos trivial] at this
      exact⟨by rw[this];rfl,rfl⟩
    . by_cases l:x.data.toList=(Rq.lists a).headD []
      . rw[aH l] at b;have O:=H9 l;clear l;go_wp2_with (go_at_call 124;refine G.o.mono ?_;rintro e w2 ⟨rfl,t⟩;subst t)
        go_roundw
        case rel =>
         refine⟨i+1,n2,by omega,by go_num,rfl,L,N,?_,by first | rfl | trivial⟩;have:=j.o;rw[if_neg (by simp),if_neg (fun e=>e O.o)] at this;exact this
        case measure=>simp[intOf];omega
      . rw[aI l] at b;have O:=H9 l;clear l;go_wp2_with (go_at_call 124;refine G.o.mono ?_;rintro e w2 ⟨rfl,t⟩;subst t)
        (try simp only[Exit.inBlock,Exit.then]);go_ret2;have:=u.o;rw[j.o,if_neg (by simp),if_pos O.o] at this;exact⟨by rw[this];rfl,rfl⟩
  . obtain rfl:i=a.length:=by omega
    have f:=u.o;rw[C.o,aJ (by unfold Rq.lists;simp),Rq.sizes] at f;simp only at f;by_cases m:4000<n
    . rw[if_pos m] at f;have t4:decide (n > 4000)=true:=aH m;have k:=H9 f;clear f m;go_wp2;go_ret2;exact⟨by rw[k.o];rfl,rfl⟩
    . rw[if_neg m] at f;have t4:decide (n > 4000)=false:=aI m;have k:=H9 f;clear f m;go_wp2;go_ret2;exact⟨by rw[k.o];rfl,rfl⟩
end Go.Proofs.YtjmndjmhjleabaaGreatDoor