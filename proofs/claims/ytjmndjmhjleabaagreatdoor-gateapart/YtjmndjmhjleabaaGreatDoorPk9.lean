/- Small texts, one behind the other: PlainJA, PlainJB, PlainSt, PlainS. -/
import Derived.Test.YtjmndjmhjleabaaGreatDoorAl
import Derived.WalkKit
namespace Go.Proofs.YtjmndjmhjleabaaGreatDoor.Jn
def num (m:Nat):au:=if h:m<128 then [UInt8.ofNat m] else UInt8.ofNat (m % 128+128)::num (m / 128)
termination_by m
decreasing_by omega
theorem Aw {m:Nat}(h:m<128):num m=[UInt8.ofNat m]:=by rw[num,dif_pos h]
theorem GN {m:Nat}(h:¬m<128):num m=UInt8.ofNat (m % 128+128)::num (m / 128):=by rw[num,dif_neg h]
theorem I6 (m:Nat):0<(num m).length:=by
 rw[num];split <;> simp
theorem Ve {k:Nat}(h:k<256):(UInt8.ofNat k).toNat=k:=by simp;omega
theorem CV:∀(k m:Nat),m<128 ^ (k+1)->(num m).length<=k+1:=by
 intro k;induction k with
 | zero=>intro m h;rw[Aw (by simpa using h)];simp
 | succ k b =>
   intro m h;by_cases a:m<128
   . rw[Aw a];simp
   . rw[GN a];have:m / 128<128 ^ (k+1):=by rw[Nat.div_lt_iff_lt_mul (by decide)];rw[Nat.pow_succ] at h;exact h
     have:=b _ this;simp only[aW];omega
structure E where
 kind:Int
 id:Int
 n:Int
 text:au
def fits (e:E):Bool:=decide (1<=e.kind)&&decide (e.kind<=6)&&decide (-1<=e.id)&&decide (e.id<=1073741823)&&decide (-1<=e.n)&&decide (e.n<=1073741823)&&decide (e.text.length<=1048575)
theorem Dr (e:E):fits e=true<->(1<=e.kind∧e.kind<=6)∧(-1<=e.id∧e.id<=1073741823)∧(-1<=e.n∧e.n<=1073741823)∧e.text.length<=1048575:=by
 simp only[fits,cZ,bQ,and_assoc]
def nb (x:Int):au:=num (x+1).toNat
def head (e:E):au:=nb e.kind++nb e.id++nb e.n
def inn (e:E):au:=head e++e.text
def enc (e:E):au:=num ((inn e).length+1)++inn e
theorem Ni {x:Int}(h:x<=1073741823):(nb x).length<=5∧0<(nb x).length:=⟨CV 4 _ (by omega),I6 _⟩
theorem Kk {e:E}(h:fits e=true):(head e).length<=15:=by
 obtain⟨g,d,f,i⟩:=(Dr e).1 h;have a:=Ni (x:=e.kind) (by omega);have b:=Ni d.2;have c:=Ni f.2;simp only[head,aV];omega
theorem xk {e:E}(h:fits e=true):(inn e).length<=1048590:=by
 have:=Kk h;obtain⟨a,b,c,d⟩:=(Dr e).1 h;simp only[inn,aV];omega
theorem CW {e:E}(h:fits e=true):(enc e).length<=(inn e).length+5:=by
 have:=xk h;have:=CV 4 ((inn e).length+1) (by omega);simp only[enc,aV];omega
theorem YK (e:E):0<(enc e).length:=by
 have:=I6 ((inn e).length+1);simp only[enc,aV];omega
end Go.Proofs.YtjmndjmhjleabaaGreatDoor.Jn
namespace Go.Proofs.YtjmndjmhjleabaaGreatDoor
end Go.Proofs.YtjmndjmhjleabaaGreatDoor
namespace Go.Proofs.YtjmndjmhjleabaaGreatDoor.Sk
def best (m x:au):Nat->Nat
 | 0=>0
 | k+1=>if m.take (k+1) <:+ x then k+1 else best m x k
def oK (m x:au)(b r:Nat):Prop:=r<=b∧m.take r <:+ x∧∀k,r<k->k<=b->¬m.take k <:+ x
theorem zB (m x:au):∀b,oK m x b (best m x b):=by
 intro b;induction b with
 | zero=>exact⟨aL _,by simp[best],fun k a d=>by simp[best] at a;omega⟩
 | succ b c =>
   unfold best;by_cases h:m.take (b+1) <:+ x
   . rw[if_pos h];exact⟨aL _,h,fun k a d=>by omega⟩
   . rw[if_neg h];refine⟨by have:=c.1;omega,c.2.1,fun k a d=>?_⟩;by_cases e:k=b+1
     . subst e;exact h
     . exact c.2.2 k a (by omega)
theorem oK.eq {m x:au}{b r r':Nat}(h:oK m x b r)(a:oK m x b r'):r=r':=by
 rcases Nat.lt_trichotomy r r' with l | l | l
 . exact absurd a.2.1 (h.2.2 r' l a.1)
 . exact l
 . exact absurd h.2.1 (a.2.2 r l h.1)
theorem oK.best {m x:au}{b r:Nat}(h:oK m x b r):best m x b=r:=(zB m x b).eq h
theorem Qf (m x:au)(b:Nat):best m x b<=b:=(zB m x b).1
theorem jq (m:au)(j:Nat)(h:j<m.length):m.take (j+1)=m.take j++[m[j]]:=bN h
theorem Bz (t x:au)(a c:UInt8):t++[a] <:+ x++[c]<->t <:+ x∧a=c:=by
 constructor
 . rintro ⟨y,b⟩;rw[<-dS] at b;obtain⟨d,e⟩:=bG b rfl;exact⟨⟨y,d⟩,by simpa using e⟩
 . rintro ⟨⟨y,b⟩,rfl⟩;exact⟨y,by rw[<-dS,b]⟩
theorem vV (m x:au)(c:UInt8)(j:Nat)(h:j<m.length):m.take (j+1) <:+ x++[c]<->m.take j <:+ x∧m[j]=c:=by
 rw[jq m j h,Bz]
theorem within {m x:au}{j k:Nat}(a:m.take j <:+ x)(b:m.take k <:+ x)(h:j<=k):m.take j <:+ m.take k :=
 List.suffix_of_suffix_length_le a b (by rw[bX,bX];omega)
def Rn (m:au)(n:Nat)(c:UInt8)(k:Nat):Prop :=
 k<=n∧m.take k <:+ m.take n∧∀j,k<j->j<=n->(hj:j<m.length)->m.take j <:+ m.take n->m[j]≠c
theorem Np (m:au)(n:Nat)(c:UInt8):Rn m n c n:=⟨aL _,List.suffix_refl _,fun j a b=>by omega⟩
theorem Ro {m:au}{n k:Nat}{c:UInt8}(h:Rn m n c k)(o:k<m.length)(p:0<k)(d:m[k]≠c):Rn m n c (best m (m.take k) (k-1)):=by
 have a:=zB m (m.take k) (k-1);generalize best m (m.take k) (k-1)=r at a;refine⟨by have:=a.1;have:=h.1;omega,a.2.1.trans h.2.1,fun j f i l b=>?_⟩;by_cases e:j=k
 . subst e;exact d
 . by_cases g:k<j
   . exact h.2.2 j g i l b
   . exact absurd (within b h.2.1 (by omega)) (a.2.2 j f (by omega))
theorem Vu {m:au}{n k:Nat}{c:UInt8}(h:Rn m n c k)(l:n<m.length)(e:k<m.length)(f:m[k]=c):oK m (m.take n++[c]) m.length (k+1):=by
 refine⟨by omega,(vV m _ c k e).2 ⟨h.2.1,f⟩,fun j o p g=>?_⟩;obtain⟨i,rfl⟩:∃i,j=i+1:=⟨j-1,by omega⟩;obtain⟨a,b⟩:=(vV m _ c i (by omega)).1 g;have d:i<=n:=by
  have:=a.length_le;rw[bX,bX] at this;omega
 exact h.2.2 i (by omega) d (by omega) a b
theorem YR {m:au}{n:Nat}{c:UInt8}(h:Rn m n c 0)(k:n<m.length)(l:0<m.length)(f:m[0]≠c):oK m (m.take n++[c]) m.length 0:=by
 refine⟨by omega,by simp,fun j o p g=>?_⟩;obtain⟨i,rfl⟩:∃i,j=i+1:=⟨j-1,by omega⟩;obtain⟨a,b⟩:=(vV m _ c i (by omega)).1 g;have d:i<=n:=by
  have:=a.length_le;rw[bX,bX] at this;omega
 by_cases e:i=0
 . subst e;exact f b
 . exact h.2.2 i (by omega) d (by omega) a b
def fit (m:au)(n:Nat)(c:UInt8):Nat:=best m (m.take n++[c]) m.length
theorem Vv (m:au)(n:Nat)(c:UInt8):oK m (m.take n++[c]) m.length (fit m n c):=zB _ _ _
theorem Nq (m:au)(n:Nat)(c:UInt8):fit m n c<=m.length:=Qf _ _ _
theorem CY (m:au)(n:Nat)(c:UInt8):fit m n c<=n+1:=by
 have h:=(Vv m n c).2.1.length_le;have a:=Nq m n c;simp at h;omega
def bk (m:au)(n:Nat):Nat:=best m (m.take n) (n-1)
theorem Vw (m:au)(n:Nat)(h:0<n):bk m n<n:=by have:=Qf m (m.take n) (n-1);unfold bk;omega
theorem YS (m:au)(n:Nat)(l:0<n)(h:n<m.length):bk m (n+1)=fit m (bk m n) m[n]:=by
 have d:oK m (m.take n) (n-1) (bk m n):=zB _ _ _;have g:=Vv m (bk m n) m[n];have o:=CY m (bk m n) m[n];have a:=Vw m n l;generalize bk m n=b at *;generalize fit m b m[n]=r at *;show best m (m.take (n+1)) n=r;refine oK.best ⟨by omega,?_,fun j p q k=>?_⟩
 . rw[jq m n h];refine g.2.1.trans ((Bz _ _ _ _).2 ⟨d.2.1,rfl⟩)
 . obtain⟨i,rfl⟩:∃i,j=i+1:=⟨j-1,by omega⟩;rw[jq m n h] at k;obtain⟨c,e⟩:=(vV m _ _ i (by omega)).1 k;have f:i<=b:=by
    refine Nat.le_of_not_lt fun a=>d.2.2 i a (by omega) c
   exact g.2.2 (i+1) p (by omega) ((vV m _ _ i (by omega)).2 ⟨within c d.2.1 f,e⟩)
def found (m:au)(h:Nat)(c:UInt8):Bool:=decide (0<m.length)&&decide (fit m h c=m.length)
def out (m:au)(h:Nat)(c:UInt8):au:=(m.take h++[c]).take (h+1-fit m h c)
def after (m:au)(h:Nat)(c:UInt8):Nat:=if found m h c then 0 else fit m h c
theorem Rs {m:au}{h:Nat}{c:UInt8}(a:found m h c=true):fit m h c=m.length∧0<m.length:=by
 unfold found at a;rw[cZ,bQ,bQ] at a;exact⟨a.2,a.1⟩
theorem G9 {m:au}{h:Nat}{c:UInt8}(a:found m h c=true)(b:h<=m.length-1):out m h c=[]:=by
 obtain⟨d,e⟩:=Rs a;have:=CY m h c;unfold out;rw[show h+1-fit m h c=0 by omega,List.take_zero]
theorem DF {m:au}{h:Nat}{c:UInt8}(a:fit m h c=0):out m h c=m.take h++[c]:=by
 unfold out;rw[a];exact dN (by simp;omega)
theorem Vx {m:au}{h:Nat}{c:UInt8}(a:0<fit m h c)(b:h<=m.length):out m h c=m.take (h+1-fit m h c):=by
 unfold out;rw[List.take_append_of_le_length (by rw[bX];omega),List.take_take,dU (by omega)]
end Go.Proofs.YtjmndjmhjleabaaGreatDoor.Sk