/- Small texts, one behind the other: PlainJA, PlainJB, PlainSt, PlainS. -/
import Derived.WalkKit
import Derived.Below
namespace Go.Proofs.YtjmndjmhjleabaaGreatDoor.Jn
def num (m:Nat):List UInt8:=if h:m<128 then [UInt8.ofNat m] else UInt8.ofNat (m % 128+128)::num (m / 128)
termination_by m
decreasing_by omega
theorem wz {m:Nat} (h:m<128):num m=[UInt8.ofNat m]:=by rw [num,dif_pos h]
theorem Dq {m:Nat} (h:¬ m<128):num m=UInt8.ofNat (m % 128+128)::num (m / 128):=by rw [num,dif_neg h]
theorem EL (m:Nat):0<(num m).length:=by
 rw [num];split <;> simp
theorem RF {k:Nat} (h:k<256):(UInt8.ofNat k).toNat=k:=by simp;omega
theorem y9:∀ (k m:Nat),m<128 ^ (k+1)→(num m).length≤k+1:=by
 intro k;induction k with
 | zero=>intro m h;rw [wz (by simpa using h)];simp
 | succ k ih =>
   intro m h;by_cases hm:m<128
   · rw [wz hm];simp
   · rw [Dq hm];have:m / 128<128 ^ (k+1):=by rw [Nat.div_lt_iff_lt_mul (by decide)];rw [Nat.pow_succ] at h;exact h
     have:=ih _ this;simp only [List.length_cons];omega
structure E where
 kind:Int
 id:Int
 n:Int
 text:List UInt8
def fits (e:E):Bool:=decide (1≤e.kind)&&decide (e.kind≤6)&&decide (-1≤e.id)&&decide (e.id≤1073741823)&&decide (-1≤e.n)&&decide (e.n≤1073741823)&&decide (e.text.length≤1048575)
theorem zI (e:E):fits e=true↔(1≤e.kind∧e.kind≤6)∧(-1≤e.id∧e.id≤1073741823)∧(-1≤e.n∧e.n≤1073741823)∧e.text.length≤1048575:=by
 simp only [fits,Bool.and_eq_true,decide_eq_true_eq,and_assoc]
def nb (x:Int):List UInt8:=num (x+1).toNat
def head (e:E):List UInt8:=nb e.kind++nb e.id++nb e.n
def inn (e:E):List UInt8:=head e++e.text
def enc (e:E):List UInt8:=num ((inn e).length+1)++inn e
theorem J4 {x:Int} (h:x≤1073741823):(nb x).length≤5∧0<(nb x).length:=⟨y9 4 _ (by omega),EL _⟩
theorem Gm {e:E} (h:fits e=true):(head e).length≤15:=by
 obtain ⟨h1,h2,h3,h4⟩:=(zI e).1 h;have a:=J4 (x:=e.kind) (by omega);have b:=J4 h2.2;have c:=J4 h3.2;simp only [head,List.length_append];omega
theorem ru {e:E} (h:fits e=true):(inn e).length≤1048590:=by
 have:=Gm h;obtain ⟨h1,h2,h3,h4⟩:=(zI e).1 h;simp only [inn,List.length_append];omega
theorem za {e:E} (h:fits e=true):(enc e).length≤(inn e).length+5:=by
 have:=ru h;have:=y9 4 ((inn e).length+1) (by omega);simp only [enc,List.length_append];omega
theorem VT (e:E):0<(enc e).length:=by
 have:=EL ((inn e).length+1);simp only [enc,List.length_append];omega
end Go.Proofs.YtjmndjmhjleabaaGreatDoor.Jn
namespace Go.Proofs.YtjmndjmhjleabaaGreatDoor
end Go.Proofs.YtjmndjmhjleabaaGreatDoor
namespace Go.Proofs.YtjmndjmhjleabaaGreatDoor.Sk
def best (m x:List UInt8):Nat→Nat
 | 0=>0
 | k+1=>if m.take (k+1) <:+ x then k+1 else best m x k
def jO (m x:List UInt8) (b r:Nat):Prop:=r≤b∧m.take r <:+ x∧∀ k,r<k→k≤b→¬ m.take k <:+ x
theorem uN (m x:List UInt8):∀ b,jO m x b (best m x b):=by
 intro b;induction b with
 | zero=>exact ⟨Nat.le_refl _,by simp [best],fun k h1 h2=>by simp [best] at h1;omega⟩
 | succ b ih =>
   unfold best;by_cases h:m.take (b+1) <:+ x
   · rw [if_pos h];exact ⟨Nat.le_refl _,h,fun k h1 h2=>by omega⟩
   · rw [if_neg h];refine ⟨by have:=ih.1;omega,ih.2.1,fun k h1 h2=>?_⟩;by_cases e:k=b+1
     · subst e;exact h
     · exact ih.2.2 k h1 (by omega)
theorem jO.eq {m x:List UInt8} {b r r':Nat} (h:jO m x b r) (h':jO m x b r'):r=r':=by
 rcases Nat.lt_trichotomy r r' with l | l | l
 · exact absurd h'.2.1 (h.2.2 r' l h'.1)
 · exact l
 · exact absurd h.2.1 (h'.2.2 r l h.1)
theorem jO.best {m x:List UInt8} {b r:Nat} (h:jO m x b r):best m x b=r:=(uN m x b).eq h
theorem MR (m x:List UInt8) (b:Nat):best m x b≤b:=(uN m x b).1
theorem bU (m:List UInt8) (j:Nat) (h:j<m.length):m.take (j+1)=m.take j++[m[j]]:=List.take_succ_eq_append_getElem h
theorem xJ (t x:List UInt8) (a c:UInt8):t++[a] <:+ x++[c]↔t <:+ x∧a=c:=by
 constructor
 · rintro ⟨y,hy⟩;rw [←List.append_assoc] at hy;obtain ⟨h1,h2⟩:=List.append_inj' hy rfl;exact ⟨⟨y,h1⟩,by simpa using h2⟩
 · rintro ⟨⟨y,hy⟩,rfl⟩;exact ⟨y,by rw [←List.append_assoc,hy]⟩
theorem qp (m x:List UInt8) (c:UInt8) (j:Nat) (h:j<m.length):m.take (j+1) <:+ x++[c]↔m.take j <:+ x∧m[j]=c:=by
 rw [bU m j h,xJ]
theorem within {m x:List UInt8} {j k:Nat} (hj:m.take j <:+ x) (hk:m.take k <:+ x) (h:j≤k):m.take j <:+ m.take k :=
 List.suffix_of_suffix_length_le hj hk (by rw [List.length_take,List.length_take];omega)
def Oc (m:List UInt8) (n:Nat) (c:UInt8) (k:Nat):Prop :=
 k≤n∧m.take k <:+ m.take n∧∀ j,k<j→j≤n→(hj:j<m.length)→m.take j <:+ m.take n→m[j]≠c
theorem J9 (m:List UInt8) (n:Nat) (c:UInt8):Oc m n c n:=⟨Nat.le_refl _,List.suffix_refl _,fun j h1 h2=>by omega⟩
theorem Od {m:List UInt8} {n k:Nat} {c:UInt8} (h:Oc m n c k) (hk:k<m.length) (h0:0<k) (hc:m[k]≠c):Oc m n c (best m (m.take k) (k - 1)):=by
 have hb:=uN m (m.take k) (k - 1);generalize best m (m.take k) (k - 1)=r at hb;refine ⟨by have:=hb.1;have:=h.1;omega,hb.2.1.trans h.2.1,fun j h1 h2 hj hs=>?_⟩;by_cases e:j=k
 · subst e;exact hc
 · by_cases g:k<j
   · exact h.2.2 j g h2 hj hs
   · exact absurd (within hs h.2.1 (by omega)) (hb.2.2 j h1 (by omega))
theorem R5 {m:List UInt8} {n k:Nat} {c:UInt8} (h:Oc m n c k) (hn:n<m.length) (hk:k<m.length) (hc:m[k]=c):jO m (m.take n++[c]) m.length (k+1):=by
 refine ⟨by omega,(qp m _ c k hk).2 ⟨h.2.1,hc⟩,fun j h1 h2 hs=>?_⟩;obtain ⟨i,rfl⟩:∃ i,j=i+1:=⟨j - 1,by omega⟩;obtain ⟨hs1,hs2⟩:=(qp m _ c i (by omega)).1 hs;have hin:i≤n:=by
  have:=hs1.length_le;rw [List.length_take,List.length_take] at this;omega
 exact h.2.2 i (by omega) hin (by omega) hs1 hs2
theorem V4 {m:List UInt8} {n:Nat} {c:UInt8} (h:Oc m n c 0) (hn:n<m.length) (hm:0<m.length) (hc:m[0]≠c):jO m (m.take n++[c]) m.length 0:=by
 refine ⟨by omega,by simp,fun j h1 h2 hs=>?_⟩;obtain ⟨i,rfl⟩:∃ i,j=i+1:=⟨j - 1,by omega⟩;obtain ⟨hs1,hs2⟩:=(qp m _ c i (by omega)).1 hs;have hin:i≤n:=by
  have:=hs1.length_le;rw [List.length_take,List.length_take] at this;omega
 by_cases e:i=0
 · subst e;exact hc hs2
 · exact h.2.2 i (by omega) hin (by omega) hs1 hs2
def fit (m:List UInt8) (n:Nat) (c:UInt8):Nat:=best m (m.take n++[c]) m.length
theorem R6 (m:List UInt8) (n:Nat) (c:UInt8):jO m (m.take n++[c]) m.length (fit m n c):=uN _ _ _
theorem Ka (m:List UInt8) (n:Nat) (c:UInt8):fit m n c≤m.length:=MR _ _ _
theorem zf (m:List UInt8) (n:Nat) (c:UInt8):fit m n c≤n+1:=by
 have h:=(R6 m n c).2.1.length_le;have h2:=Ka m n c;simp at h;omega
def bk (m:List UInt8) (n:Nat):Nat:=best m (m.take n) (n - 1)
theorem R7 (m:List UInt8) (n:Nat) (h:0<n):bk m n<n:=by have:=MR m (m.take n) (n - 1);unfold bk;omega
theorem V5 (m:List UInt8) (n:Nat) (h0:0<n) (h:n<m.length):bk m (n+1)=fit m (bk m n) m[n]:=by
 have hb:jO m (m.take n) (n - 1) (bk m n):=uN _ _ _;have hf:=R6 m (bk m n) m[n];have hle:=zf m (bk m n) m[n];have hlt:=R7 m n h0;generalize bk m n=b at *;generalize fit m b m[n]=r at *;show best m (m.take (n+1)) n=r;refine jO.best ⟨by omega,?_,fun j h1 h2 hs=>?_⟩
 · rw [bU m n h];refine hf.2.1.trans ((xJ _ _ _ _).2 ⟨hb.2.1,rfl⟩)
 · obtain ⟨i,rfl⟩:∃ i,j=i+1:=⟨j - 1,by omega⟩;rw [bU m n h] at hs;obtain ⟨hs1,hs2⟩:=(qp m _ _ i (by omega)).1 hs;have hib:i≤b:=by
    refine Nat.le_of_not_lt fun hlt=>hb.2.2 i hlt (by omega) hs1
   exact hf.2.2 (i+1) h1 (by omega) ((qp m _ _ i (by omega)).2 ⟨within hs1 hb.2.1 hib,hs2⟩)
def found (m:List UInt8) (h:Nat) (c:UInt8):Bool:=decide (0<m.length)&&decide (fit m h c=m.length)
def out (m:List UInt8) (h:Nat) (c:UInt8):List UInt8:=(m.take h++[c]).take (h+1 - fit m h c)
def after (m:List UInt8) (h:Nat) (c:UInt8):Nat:=if found m h c then 0 else fit m h c
theorem Oe {m:List UInt8} {h:Nat} {c:UInt8} (hf:found m h c=true):fit m h c=m.length∧0<m.length:=by
 unfold found at hf;rw [Bool.and_eq_true,decide_eq_true_eq,decide_eq_true_eq] at hf;exact ⟨hf.2,hf.1⟩
theorem DJ {m:List UInt8} {h:Nat} {c:UInt8} (hf:found m h c=true) (hh:h≤m.length - 1):out m h c=[]:=by
 obtain ⟨h1,h2⟩:=Oe hf;have:=zf m h c;unfold out;rw [show h+1 - fit m h c=0 by omega,List.take_zero]
theorem zR {m:List UInt8} {h:Nat} {c:UInt8} (hf:fit m h c=0):out m h c=m.take h++[c]:=by
 unfold out;rw [hf];exact List.take_of_length_le (by simp;omega)
theorem R8 {m:List UInt8} {h:Nat} {c:UInt8} (hf:0<fit m h c) (hh:h≤m.length):out m h c=m.take (h+1 - fit m h c):=by
 unfold out;rw [List.take_append_of_le_length (by rw [List.length_take];omega),List.take_take,Nat.min_eq_left (by omega)]
end Go.Proofs.YtjmndjmhjleabaaGreatDoor.Sk