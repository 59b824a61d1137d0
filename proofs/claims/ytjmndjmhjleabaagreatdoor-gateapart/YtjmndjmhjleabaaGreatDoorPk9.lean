/- Small texts, one behind the other: PlainJA, PlainJB, PlainSt, PlainS. -/
import Derived.Test.YtjmndjmhjleabaaGreatDoorAl
import Derived.WalkKit
import Derived.Below
namespace Go.Proofs.YtjmndjmhjleabaaGreatDoor.Jn
def num (m:Nat):av:=if h:m<128 then [UInt8.ofNat m] else UInt8.ofNat (m % 128+128)::num (m / 128)
termination_by m
decreasing_by omega
theorem Ay {m:Nat}(h:m<128):num m=[UInt8.ofNat m]:=by rw[num,dif_pos h]
theorem GQ {m:Nat}(h:¬m<128):num m=UInt8.ofNat (m % 128+128)::num (m / 128):=by rw[num,dif_neg h]
theorem I7 (m:Nat):0<(num m).length:=by
 rw[num];split <;> simp
theorem Vf {k:Nat}(h:k<256):(UInt8.ofNat k).toNat=k:=by simp;omega
theorem CW:∀(k m:Nat),m<128 ^ (k+1)->(num m).length<=k+1:=by
 intro k;induction k with
 | zero=>intro m h;rw[Ay (by simpa using h)];simp
 | succ k ih =>
   intro m h;by_cases hm:m<128
   . rw[Ay hm];simp
   . rw[GQ hm];have:m / 128<128 ^ (k+1):=by rw[Nat.div_lt_iff_lt_mul (by decide)];rw[Nat.pow_succ] at h;exact h
     have:=ih _ this;simp only[aX];omega
structure E where
 kind:Int
 id:Int
 n:Int
 text:av
def fits (e:E):Bool:=decide (1<=e.kind)&&decide (e.kind<=6)&&decide (-1<=e.id)&&decide (e.id<=1073741823)&&decide (-1<=e.n)&&decide (e.n<=1073741823)&&decide (e.text.length<=1048575)
theorem Dt (e:E):fits e=true<->(1<=e.kind∧e.kind<=6)∧(-1<=e.id∧e.id<=1073741823)∧(-1<=e.n∧e.n<=1073741823)∧e.text.length<=1048575:=by
 simp only[fits,dh,bR,and_assoc]
def nb (x:Int):av:=num (x+1).toNat
def head (e:E):av:=nb e.kind++nb e.id++nb e.n
def inn (e:E):av:=head e++e.text
def enc (e:E):av:=num ((inn e).length+1)++inn e
theorem Nj {x:Int}(h:x<=1073741823):(nb x).length<=5∧0<(nb x).length:=⟨CW 4 _ (by omega),I7 _⟩
theorem Kl {e:E}(h:fits e=true):(head e).length<=15:=by
 obtain⟨h1,h2,h3,h4⟩:=(Dt e).1 h;have a:=Nj (x:=e.kind) (by omega);have b:=Nj h2.2;have c:=Nj h3.2;simp only[head,aW];omega
theorem xq {e:E}(h:fits e=true):(inn e).length<=1048590:=by
 have:=Kl h;obtain⟨h1,h2,h3,h4⟩:=(Dt e).1 h;simp only[inn,aW];omega
theorem CX {e:E}(h:fits e=true):(enc e).length<=(inn e).length+5:=by
 have:=xq h;have:=CW 4 ((inn e).length+1) (by omega);simp only[enc,aW];omega
theorem YL (e:E):0<(enc e).length:=by
 have:=I7 ((inn e).length+1);simp only[enc,aW];omega
end Go.Proofs.YtjmndjmhjleabaaGreatDoor.Jn
namespace Go.Proofs.YtjmndjmhjleabaaGreatDoor
end Go.Proofs.YtjmndjmhjleabaaGreatDoor
namespace Go.Proofs.YtjmndjmhjleabaaGreatDoor.Sk
def best (m x:av):Nat->Nat
 | 0=>0
 | k+1=>if m.take (k+1) <:+ x then k+1 else best m x k
def oL (m x:av)(b r:Nat):Prop:=r<=b∧m.take r <:+ x∧∀k,r<k->k<=b->¬m.take k <:+ x
theorem zC (m x:av):∀b,oL m x b (best m x b):=by
 intro b;induction b with
 | zero=>exact⟨aM _,by simp[best],fun k h1 h2=>by simp[best] at h1;omega⟩
 | succ b ih =>
   unfold best;by_cases h:m.take (b+1) <:+ x
   . rw[if_pos h];exact⟨aM _,h,fun k h1 h2=>by omega⟩
   . rw[if_neg h];refine⟨by have:=ih.1;omega,ih.2.1,fun k h1 h2=>?_⟩;by_cases e:k=b+1
     . subst e;exact h
     . exact ih.2.2 k h1 (by omega)
theorem oL.eq {m x:av}{b r r':Nat}(h:oL m x b r)(h':oL m x b r'):r=r':=by
 rcases Nat.lt_trichotomy r r' with l | l | l
 . exact absurd h'.2.1 (h.2.2 r' l h'.1)
 . exact l
 . exact absurd h.2.1 (h'.2.2 r l h.1)
theorem oL.best {m x:av}{b r:Nat}(h:oL m x b r):best m x b=r:=(zC m x b).eq h
theorem Qg (m x:av)(b:Nat):best m x b<=b:=(zC m x b).1
theorem jr (m:av)(j:Nat)(h:j<m.length):m.take (j+1)=m.take j++[m[j]]:=bO h
theorem BA (t x:av)(a c:UInt8):t++[a] <:+ x++[c]<->t <:+ x∧a=c:=by
 constructor
 . rintro ⟨y,hy⟩;rw[<-dU] at hy;obtain⟨h1,h2⟩:=bH hy rfl;exact⟨⟨y,h1⟩,by simpa using h2⟩
 . rintro ⟨⟨y,hy⟩,rfl⟩;exact⟨y,by rw[<-dU,hy]⟩
theorem vW (m x:av)(c:UInt8)(j:Nat)(h:j<m.length):m.take (j+1) <:+ x++[c]<->m.take j <:+ x∧m[j]=c:=by
 rw[jr m j h,BA]
theorem within {m x:av}{j k:Nat}(hj:m.take j <:+ x)(hk:m.take k <:+ x)(h:j<=k):m.take j <:+ m.take k :=
 List.suffix_of_suffix_length_le hj hk (by rw[bY,bY];omega)
def Ro (m:av)(n:Nat)(c:UInt8)(k:Nat):Prop :=
 k<=n∧m.take k <:+ m.take n∧∀j,k<j->j<=n->(hj:j<m.length)->m.take j <:+ m.take n->m[j]≠c
theorem Nq (m:av)(n:Nat)(c:UInt8):Ro m n c n:=⟨aM _,List.suffix_refl _,fun j h1 h2=>by omega⟩
theorem Rs {m:av}{n k:Nat}{c:UInt8}(h:Ro m n c k)(hk:k<m.length)(h0:0<k)(hc:m[k]≠c):Ro m n c (best m (m.take k) (k-1)):=by
 have hb:=zC m (m.take k) (k-1);generalize best m (m.take k) (k-1)=r at hb;refine⟨by have:=hb.1;have:=h.1;omega,hb.2.1.trans h.2.1,fun j h1 h2 hj hs=>?_⟩;by_cases e:j=k
 . subst e;exact hc
 . by_cases g:k<j
   . exact h.2.2 j g h2 hj hs
   . exact absurd (within hs h.2.1 (by omega)) (hb.2.2 j h1 (by omega))
theorem Vv {m:av}{n k:Nat}{c:UInt8}(h:Ro m n c k)(hn:n<m.length)(hk:k<m.length)(hc:m[k]=c):oL m (m.take n++[c]) m.length (k+1):=by
 refine⟨by omega,(vW m _ c k hk).2 ⟨h.2.1,hc⟩,fun j h1 h2 hs=>?_⟩;obtain⟨i,rfl⟩:∃i,j=i+1:=⟨j-1,by omega⟩;obtain⟨hs1,hs2⟩:=(vW m _ c i (by omega)).1 hs;have hin:i<=n:=by
  have:=hs1.length_le;rw[bY,bY] at this;omega
 exact h.2.2 i (by omega) hin (by omega) hs1 hs2
theorem YS {m:av}{n:Nat}{c:UInt8}(h:Ro m n c 0)(hn:n<m.length)(hm:0<m.length)(hc:m[0]≠c):oL m (m.take n++[c]) m.length 0:=by
 refine⟨by omega,by simp,fun j h1 h2 hs=>?_⟩;obtain⟨i,rfl⟩:∃i,j=i+1:=⟨j-1,by omega⟩;obtain⟨hs1,hs2⟩:=(vW m _ c i (by omega)).1 hs;have hin:i<=n:=by
  have:=hs1.length_le;rw[bY,bY] at this;omega
 by_cases e:i=0
 . subst e;exact hc hs2
 . exact h.2.2 i (by omega) hin (by omega) hs1 hs2
def fit (m:av)(n:Nat)(c:UInt8):Nat:=best m (m.take n++[c]) m.length
theorem Vw (m:av)(n:Nat)(c:UInt8):oL m (m.take n++[c]) m.length (fit m n c):=zC _ _ _
theorem Nr (m:av)(n:Nat)(c:UInt8):fit m n c<=m.length:=Qg _ _ _
theorem CZ (m:av)(n:Nat)(c:UInt8):fit m n c<=n+1:=by
 have h:=(Vw m n c).2.1.length_le;have h2:=Nr m n c;simp at h;omega
def bk (m:av)(n:Nat):Nat:=best m (m.take n) (n-1)
theorem Vx (m:av)(n:Nat)(h:0<n):bk m n<n:=by have:=Qg m (m.take n) (n-1);unfold bk;omega
theorem YT (m:av)(n:Nat)(h0:0<n)(h:n<m.length):bk m (n+1)=fit m (bk m n) m[n]:=by
 have hb:oL m (m.take n) (n-1) (bk m n):=zC _ _ _;have hf:=Vw m (bk m n) m[n];have hle:=CZ m (bk m n) m[n];have hlt:=Vx m n h0;generalize bk m n=b at *;generalize fit m b m[n]=r at *;show best m (m.take (n+1)) n=r;refine oL.best ⟨by omega,?_,fun j h1 h2 hs=>?_⟩
 . rw[jr m n h];refine hf.2.1.trans ((BA _ _ _ _).2 ⟨hb.2.1,rfl⟩)
 . obtain⟨i,rfl⟩:∃i,j=i+1:=⟨j-1,by omega⟩;rw[jr m n h] at hs;obtain⟨hs1,hs2⟩:=(vW m _ _ i (by omega)).1 hs;have hib:i<=b:=by
    refine Nat.le_of_not_lt fun hlt=>hb.2.2 i hlt (by omega) hs1
   exact hf.2.2 (i+1) h1 (by omega) ((vW m _ _ i (by omega)).2 ⟨within hs1 hb.2.1 hib,hs2⟩)
def found (m:av)(h:Nat)(c:UInt8):Bool:=decide (0<m.length)&&decide (fit m h c=m.length)
def out (m:av)(h:Nat)(c:UInt8):av:=(m.take h++[c]).take (h+1-fit m h c)
def after (m:av)(h:Nat)(c:UInt8):Nat:=if found m h c then 0 else fit m h c
theorem Rt {m:av}{h:Nat}{c:UInt8}(hf:found m h c=true):fit m h c=m.length∧0<m.length:=by
 unfold found at hf;rw[dh,bR,bR] at hf;exact⟨hf.2,hf.1⟩
theorem He {m:av}{h:Nat}{c:UInt8}(hf:found m h c=true)(hh:h<=m.length-1):out m h c=[]:=by
 obtain⟨h1,h2⟩:=Rt hf;have:=CZ m h c;unfold out;rw[show h+1-fit m h c=0 by omega,List.take_zero]
theorem DI {m:av}{h:Nat}{c:UInt8}(hf:fit m h c=0):out m h c=m.take h++[c]:=by
 unfold out;rw[hf];exact dO (by simp;omega)
theorem Vy {m:av}{h:Nat}{c:UInt8}(hf:0<fit m h c)(hh:h<=m.length):out m h c=m.take (h+1-fit m h c):=by
 unfold out;rw[List.take_append_of_le_length (by rw[bY];omega),List.take_take,dV (by omega)]
end Go.Proofs.YtjmndjmhjleabaaGreatDoor.Sk