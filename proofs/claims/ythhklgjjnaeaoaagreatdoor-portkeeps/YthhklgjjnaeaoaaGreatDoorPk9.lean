/- Small texts, one behind the other: PlainJA, PlainJB, PlainSt, PlainS. -/
import Derived.Test.YthhklgjjnaeaoaaGreatDoorAl
import Derived.WalkKit
open Option renaming none->U,some->M
open Bool renaming false->F
namespace Go.Proofs.YthhklgjjnaeaoaaGreatDoor.Jn
def num (m:Nat):av:=if h:m<128 then [UInt8.ofNat m] else UInt8.ofNat (m % 128+128)::num (m / 128)
termination_by m
decreasing_by omega
theorem sw {m:Nat}(h:m<128):num m=[UInt8.ofNat m]:=by rw[num,dif_pos h]
theorem wI {m:Nat}(h:¬m<128):num m=UInt8.ofNat (m % 128+128)::num (m / 128):=by rw[num,dif_neg h]
theorem Hu (m:Nat):0<(num m).length:=by
 rw[num];split <;> simp
theorem sD {k:Nat}(h:k<256):(UInt8.ofNat k).toNat=k:=by simp;omega
theorem Ce:∀(k m:Nat),m<128 ^ (k+1)->(num m).length<=k+1:=by intro l;induction l <;> grind [num]
def AB:Nat->Bool->av->Option (Nat×Nat)
 | 0,_,_=>U
 | _+1,_,[]=>U
 | k+1,f,c::r=>if c.toNat<128 then (if c.toNat=0∧f=F then U else M (c.toNat,1)) else (AB k F r).map fun p=>(c.toNat % 128+128*p.1,p.2+1)
def rd (b:av):Option (Nat×Nat):=AB 5 true b
theorem YF (k:Nat)(f:Bool):AB k f []=U:=by cases k <;> rfl
theorem aa4:∀(k:Nat) (f:Bool) (b:av) (m s:Nat),AB k f b=M (m,s)->0<s∧s<=b.length∧s<=k∧m<128 ^ k:=by
 intro k;induction k with
 | zero=>intro f b m s h;simp[AB] at h
 | succ k d =>
   intro f b m s h;cases b with
   | nil=>simp[AB] at h
   | cons c r =>
     rw[AB] at h;split at h
     . rename_i e;split at h
       . simp at h
       . simp only[bS,Prod.mk.injEq] at h;obtain⟨rfl,rfl⟩:=h;refine⟨by omega,by simp,by omega,?_⟩;have:1<=128 ^ k:=Nat.one_le_pow _ _ (by decide);rw[Nat.pow_succ];omega
     . cases a:AB k F r with
       | none=>rw[a] at h;simp at h
       | some p =>
         rw[a] at h;obtain⟨g,i⟩:=p;simp only[Option.map_some,bS,Prod.mk.injEq] at h;obtain⟨rfl,rfl⟩:=h;have j:=d _ _ _ _ a;refine⟨by omega,by simp;omega,by omega,?_⟩;rw[Nat.pow_succ];omega
theorem adj {b:av}{m s:Nat}(h:rd b=M (m,s)):0<s∧s<=b.length∧s<=5∧m<34359738368:=aa4 5 true b m s h
theorem YG:∀(k m:Nat) (f:Bool) (r:av),m<128 ^ (k+1)->(m=0->f=true)->AB (k+1) f (num m++r)=M (m,(num m).length):=by
 intro k;induction k with
 | zero =>
   intro m f r h d;have a:m<128:=by simpa using h
   rw[sw a];simp only[dR,dx,AB,aW,bY];rw[sD (by omega),if_pos a,if_neg];intro ⟨b,c⟩;have:=d b;rw[this] at c;cases c
 | succ k g =>
   intro m f r h d;by_cases a:m<128
   . rw[sw a];simp only[dR,dx,AB,aW,bY];rw[sD (by omega),if_pos a,if_neg];intro ⟨b,c⟩;have:=d b;rw[this] at c;cases c
   . rw[wI a];have b:m / 128<128 ^ (k+1):=by rw[Nat.div_lt_iff_lt_mul (by decide)];rw[Nat.pow_succ] at h;exact h
     rw[dR,AB,sD (by omega),if_neg (by omega),g _ F r b (fun e=>by omega)];simp only[Option.map_some,aW];congr 2;omega
theorem MJ {m:Nat}(h:m<34359738368)(r:av):rd (num m++r)=M (m,(num m).length):=YG 4 m true r h (fun _=>rfl)
theorem YH:∀(k m:Nat) (f:Bool) (j:Nat),j<(num m).length->AB k f ((num m).take j)=U:=by
 intro k;induction k with
 | zero=>intros;rfl
 | succ k c =>
   intro m f j a;cases j with
   | zero=>rfl
   | succ j =>
     by_cases b:m<128
     . rw[sw b] at a;simp at a
     . rw[wI b] at a ⊢;rw[List.take_succ_cons,AB,sD (by omega),if_neg (by omega),c _ _ _ (by simpa using a)];rfl
theorem aa5 {m j:Nat}(h:j<(num m).length):rd ((num m).take j)=U:=YH 5 m true j h
theorem U2:∀(k:Nat) (f:Bool) (b:av) (m s:Nat),AB k f b=M (m,s)->b.take s=num m∧(m=0->f=true):=by
 intro k;induction k with
 | zero=>intro f b m s h;simp[AB] at h
 | succ k g =>
   intro f b m s h;cases b with
   | nil=>simp[AB] at h
   | cons c r =>
     rw[AB] at h;split at h
     . rename_i d;split at h
       . simp at h
       . rename_i i;simp only[bS,Prod.mk.injEq] at h;obtain⟨rfl,rfl⟩:=h;refine⟨?_,fun e=>?_⟩
         . rw[sw d];simp
         . cases f
           . exact absurd ⟨e,rfl⟩ i
           . rfl
     . cases a:AB k F r with
       | none=>rw[a] at h;simp at h
       | some p =>
         rw[a] at h;obtain⟨j,o⟩:=p;simp only[Option.map_some,bS,Prod.mk.injEq] at h;obtain⟨rfl,rfl⟩:=h;obtain⟨l,n⟩:=g _ _ _ _ a;have q:j≠0:=fun e=>by have:=n e;cases this
         have d:=c.toNat_lt;refine⟨?_,fun e=>by omega⟩;rw[wI (by omega),List.take_succ_cons,l];congr 1
         . apply dM.1;rw[sD (by omega)];omega
         . congr 1;omega
theorem YI {b:av}{m s:Nat}(h:rd b=M (m,s)):b.take s=num m:=(U2 5 true b m s h).1
theorem MK (b:av)(i:Nat)(d:i<5)(c:i<b.length)(k:Nat)(e:k=5-i)(f:Bool):AB k f (b.drop i)=if b[i].toNat<128 then (if b[i].toNat=0∧f=F then U else M (b[i].toNat,1)) else (AB (5-(i+1)) F (b.drop (i+1))).map fun p=>(b[i].toNat % 128+128*p.1,p.2+1):=by
 obtain⟨a,rfl⟩:∃a,k=a+1:=⟨5-(i+1),by omega⟩;rw[aD c,AB];have:a=5-(i+1):=by omega
 rw[this]
structure E where
 kind:Int
 id:Int
 n:Int
 text:av
def fits (e:E):Bool:=decide (1<=e.kind)&&decide (e.kind<=6)&&decide (-1<=e.id)&&decide (e.id<=1073741823)&&decide (-1<=e.n)&&decide (e.n<=1073741823)&&decide (e.text.length<=1048575)
theorem uX (e:E):fits e=true<->(1<=e.kind∧e.kind<=6)∧(-1<=e.id∧e.id<=1073741823)∧(-1<=e.n∧e.n<=1073741823)∧e.text.length<=1048575:=by grind [fits]
def nb (x:Int):av:=num (x+1).toNat
def head (e:E):av:=nb e.kind++nb e.id++nb e.n
def inn (e:E):av:=head e++e.text
def enc (e:E):av:=num ((inn e).length+1)++inn e
theorem aa6 {x:Int}(h:x<=1073741823):(nb x).length<=5∧0<(nb x).length:=⟨Ce 4 _ (by omega),Hu _⟩
theorem JI {e:E}(h:fits e=true):(head e).length<=15:=by grind [fits,head,uX,aa6]
theorem oL {e:E}(h:fits e=true):(inn e).length<=1048590:=by grind [fits,inn,JI,uX]
theorem wJ {e:E}(h:fits e=true):(enc e).length<=(inn e).length+5:=by
 have:=oL h;have:=Ce 4 ((inn e).length+1) (by omega);simp only[enc,aV];omega
theorem PN (e:E):0<(enc e).length:=by
 have:=Hu ((inn e).length+1);simp only[enc,aV];omega
def rn (b:av):Option (Int×Nat):=(rd b).map fun p=>((p.1:Int)-1,p.2)
theorem U3 {x:Int}(a:-1<=x)(b:x<=1073741823)(r:av):rn (nb x++r)=M (x,(nb x).length):=by grind [rn,nb,MJ]
theorem PO {b:av}{x:Int}{s:Nat}(h:rn b=M (x,s)):0<s∧s<=b.length∧s<=5∧-1<=x∧x<34359738368:=by
 unfold rn at h;cases a:rd b with
 | none=>rw[a] at h;simp at h
 | some p =>
   rw[a] at h;obtain⟨m,c⟩:=p;simp only[Option.map_some,bS,Prod.mk.injEq] at h;obtain⟨rfl,rfl⟩:=h;have:=adj a;omega
theorem Cg {b:av}{x:Int}{s:Nat}(h:rn b=M (x,s)):b.take s=nb x:=by
 unfold rn at h;cases a:rd b with
 | none=>rw[a] at h;simp at h
 | some p =>
   rw[a] at h;obtain⟨m,c⟩:=p;simp only[Option.map_some,bS,Prod.mk.injEq] at h;obtain⟨rfl,rfl⟩:=h;rw[YI a];unfold nb;congr 1;omega
def inner (b:av):Option E :=
 match rn b with
 | none=>U
 | some (x, s) =>
   match rn (b.drop s) with
   | none=>U
   | some (y, t) =>
     match rn ((b.drop s).drop t) with
     | none=>U
     | some (z,u)=>if fits ⟨x,y,z,((b.drop s).drop t).drop u⟩=true then M ⟨x,y,z,((b.drop s).drop t).drop u⟩ else U
def one (b:av):Option (E×Nat) :=
 match rn b with
 | none=>U
 | some (x,s)=>if 0<=x∧x<=(b.length:Int)-s then (inner ((b.drop s).take x.toNat)).map fun e=>(e,s+x.toNat) else U
theorem one_le {b:av}{e:E}{s:Nat}(h:one b=M (e,s)):0<s∧s<=b.length:=by
 unfold one at h;cases a:rn b with
 | none=>rw[a] at h;simp at h
 | some p =>
   rw[a] at h;obtain⟨x,d⟩:=p;simp only at h;split at h
   . cases c:inner ((b.drop d).take x.toNat) with
     | none=>rw[c] at h;simp at h
     | some f =>
       rw[c] at h;simp only[Option.map_some,bS,Prod.mk.injEq] at h;have:=PO a;omega
   . simp at h
def dec (b:av):List E×Nat :=
 match _h:one b with
 | none=>([],0)
 | some (e,s)=>(e::(dec (b.drop s)).1,s+(dec (b.drop s)).2)
termination_by b.length
decreasing_by
 all_goals
  have:=one_le _h
  rw[bT];omega
theorem uY {b:av}(h:one b=U):dec b=([],0):=by
 rw[dec];split
 . rfl
 . rename_i a;rw[h] at a;cases a
theorem CQ {b:av}{e:E}{s:Nat}(h:one b=M (e,s)):dec b=(e::(dec (b.drop s)).1,s+(dec (b.drop s)).2):=by grind [one,dec]
theorem QZ {b:av}(h:b.length=0):rn b=U:=by
 have:b=[]:=dh h;subst this;rfl
theorem Q0 {e:E}(h:fits e=true):inner (inn e)=M e:=by
 obtain⟨d,a,b,f⟩:=(uX e).1 h;have c:inn e=nb e.kind++(nb e.id++(nb e.n++e.text)):=by simp[inn,head,List.append_assoc]
 unfold inner;rw[c,U3 (by omega) (by omega)];simp only[List.drop_left];rw[U3 a.1 a.2];simp only[List.drop_left];rw[U3 b.1 b.2];simp only[List.drop_left];rw[if_pos h]
theorem ML {b:av}{e:E}(h:inner b=M e):inn e=b∧fits e=true:=by
 unfold inner at h;cases a:rn b with
 | none=>rw[a] at h;simp at h
 | some p =>
   obtain⟨x,s⟩:=p;rw[a] at h;simp only at h;cases c:rn (b.drop s) with
   | none=>rw[c] at h;simp at h
   | some p =>
     obtain⟨y,t⟩:=p;rw[c] at h;simp only at h;cases d:rn ((b.drop s).drop t) with
     | none=>rw[d] at h;simp at h
     | some p =>
       obtain⟨z,u⟩:=p;rw[d] at h;simp only at h;split at h
       . rename_i f;injection h with h;subst h;refine⟨?_,f⟩;simp only[inn,head];rw[<-Cg a,<-Cg c,<-Cg d,dO,dO,bV,bV,bV]
       . simp at h
theorem YJ {e:E}(h:fits e=true)(r:av):one (enc e++r)=M (e,(enc e).length):=by
 have c:=oL h;have a:enc e++r=num ((inn e).length+1)++(inn e++r):=by simp[enc,List.append_assoc]
 have b:rn (num ((inn e).length+1)++(inn e++r))=M (((inn e).length:Int),(num ((inn e).length+1)).length):=by
  unfold rn;rw[MJ (by omega)];simp only[Option.map_some];congr 2;omega
 unfold one;rw[a,b];simp only[List.drop_left];rw[if_pos ⟨by omega,by simp only[aV];omega⟩];rw[Int.toNat_natCast,List.take_left,Q0 h];simp[enc]
theorem U4 {b:av}{e:E}{s:Nat}(h:one b=M (e,s)):b.take s=enc e∧fits e=true:=by
 unfold one at h;cases a:rn b with
 | none=>rw[a] at h;simp at h
 | some p =>
   obtain⟨x,k⟩:=p;rw[a] at h;simp only at h;split at h
   . rename_i l;cases c:inner ((b.drop k).take x.toNat) with
     | none=>rw[c] at h;simp at h
     | some g =>
       rw[c] at h;simp only[Option.map_some,bS,Prod.mk.injEq] at h;obtain⟨rfl,rfl⟩:=h;obtain⟨d,i⟩:=ML c;refine⟨?_,i⟩;have j:=PO a;have f:(inn g).length=x.toNat:=by rw[d,bW,bT];omega
       rw[List.take_add,Cg a,<-d];unfold enc nb;congr 2;omega
   . simp at h
theorem YK {e:E}(h:fits e=true){j:Nat}(g:j<(enc e).length):one ((enc e).take j)=U:=by
 have i:=oL h;by_cases b:j<(num ((inn e).length+1)).length
 . have a:(enc e).take j=(num ((inn e).length+1)).take j:=by
    unfold enc;rw[List.take_append_of_le_length (by omega)]
   unfold one rn;rw[a,aa5 b];rfl
 . have a:(enc e).take j=num ((inn e).length+1)++(inn e).take (j-(num ((inn e).length+1)).length):=by
    unfold enc;rw[List.take_append,dJ (by omega)]
   have c:∀r,rn (num ((inn e).length+1)++r)=M (((inn e).length:Int),(num ((inn e).length+1)).length):=fun r=>by
    unfold rn;rw[MJ (by omega)];simp only[Option.map_some];congr 2;omega
   unfold one;rw[a,c];simp only;rw[if_neg];intro ⟨_,d⟩;have f:(num ((inn e).length+1)).length+(inn e).length=(enc e).length:=by simp[enc]
   rw[aV,bW] at d;omega
theorem PS:one []=U:=by
 unfold one;rw[QZ rfl]
theorem CR:∀(N:Nat) (b:av),b.length<=N->(∀e∈(dec b).1,fits e=true)∧(dec b).2<=b.length∧((dec b).1.map enc).flatten=b.take (dec b).2∧(dec b).1.length<=(dec b).2:=by
 intro N;induction N with
 | zero =>
   intro b h;have:b=[]:=dh (by omega);subst this;rw[uY PS];simp
 | succ N d =>
   intro b h;cases a:one b with
   | none=>rw[uY a];simp
   | some p =>
     obtain⟨e,s⟩:=p;rw[CQ a];have f:=one_le a;obtain⟨g,i⟩:=U4 a;obtain⟨j,k,l,m⟩:=d (b.drop s) (by rw[bT];omega);rw[bT] at k;refine⟨fun x c=>?_,by simp only;omega,?_,by simp only[aW];omega⟩
     . rcases dZ.1 c with rfl | c
       . exact i
       . exact j x c
     . simp only[List.map_cons,List.flatten_cons];rw[l,List.take_add,g]
def whole:List E->Nat->Nat
 | [],_=>0
 | e::t,k=>if (enc e).length<=k then whole t (k-(enc e).length)+1 else 0
def all (l:List E):av:=(l.map enc).flatten
theorem all_cons (e:E)(t:List E):all (e::t)=enc e++all t:=rfl
theorem all_append (a b:List E):all (a++b)=all a++all b:=by simp[all]
theorem JJ:∀(l:List E) (k:Nat),whole l k<=l.length:=by intro l;induction l <;> grind [whole]
theorem Hw:∀(l:List E) (k:Nat),(∀e∈l,fits e=true)->dec ((all l).take k)=(l.take (whole l k),(all (l.take (whole l k))).length)
 | [],k,_=>by simp[all,whole,uY PS]
 | e :: t, k, hf => by
   have a:=hf e (cu ..);rw[all_cons];unfold whole;split
   . rename_i b;have c:(enc e++all t).take k=enc e++(all t).take (k-(enc e).length):=by
      rw[List.take_append,dJ b]
     rw[c,CQ (YJ a _),List.drop_left,Hw t _ (fun x d=>hf x (cB _ d))];simp only[List.take_succ_cons,all_cons,aV]
   . rename_i b;rw[List.take_append_of_le_length (by omega),uY (YK a (by omega))];simp[all]
def U5 (l:List E)(i:Nat):Nat:=(all (l.take (i+1))).length
theorem AJ:∀(l:List E) (k i:Nat),i<l.length->(U5 l i<=k<->i<whole l k)
 | [],k,i,a=>by simp at a
 | e :: t, k, i, a => by
   have c:=PN e;unfold whole U5;rw[List.take_succ_cons,all_cons,aV];split
   . rename_i b;cases i with
     | zero=>simp[all];omega
     | succ i =>
       have:=AJ t (k-(enc e).length) i (by simpa using a);unfold U5 at this;constructor
       . intro h;have:=this.1 (by omega);omega
       . intro h;have:=this.2 (by omega);omega
   . rename_i b;constructor
     . intro h;omega
     . intro h;omega
end Go.Proofs.YthhklgjjnaeaoaaGreatDoor.Jn
namespace Go.Proofs.YthhklgjjnaeaoaaGreatDoor
structure Stp where
 op:Int
 id:Int
 n:Int
 text:ay
end Go.Proofs.YthhklgjjnaeaoaaGreatDoor
namespace Go.Proofs.YthhklgjjnaeaoaaGreatDoor.Sk
def best (m x:av):Nat->Nat
 | 0=>0
 | k+1=>if m.take (k+1) <:+ x then k+1 else best m x k
def ng (m x:av)(b r:Nat):Prop:=r<=b∧m.take r <:+ x∧∀k,r<k->k<=b->¬m.take k <:+ x
theorem yL (m x:av):∀b,ng m x b (best m x b):=by intro l;induction l <;> grind [ng,best]
theorem ng.eq {m x:av}{b r r':Nat}(h:ng m x b r)(a:ng m x b r'):r=r':=by grind [ng]
theorem ng.best {m x:av}{b r:Nat}(h:ng m x b r):best m x b=r:=(yL m x b).eq h
theorem PW (m x:av)(b:Nat):best m x b<=b:=(yL m x b).1
theorem nD (m:av)(j:Nat)(h:j<m.length):m.take (j+1)=m.take j++[m[j]]:=bM h
theorem AP (t x:av)(a c:UInt8):t++[a] <:+ x++[c]<->t <:+ x∧a=c:=by
 constructor
 . rintro ⟨y,b⟩;rw[<-dO] at b;obtain⟨d,e⟩:=bF b rfl;exact⟨⟨y,d⟩,by simpa using e⟩
 . rintro ⟨⟨y,b⟩,rfl⟩;exact⟨y,by rw[<-dO,b]⟩
theorem vB (m x:av)(c:UInt8)(j:Nat)(h:j<m.length):m.take (j+1) <:+ x++[c]<->m.take j <:+ x∧m[j]=c:=by
 rw[nD m j h,AP]
theorem within {m x:av}{j k:Nat}(a:m.take j <:+ x)(b:m.take k <:+ x)(h:j<=k):m.take j <:+ m.take k :=
 List.suffix_of_suffix_length_le a b (by rw[bW,bW];omega)
def Rb (m:av)(n:Nat)(c:UInt8)(k:Nat):Prop :=
 k<=n∧m.take k <:+ m.take n∧∀j,k<j->j<=n->(hj:j<m.length)->m.take j <:+ m.take n->m[j]≠c
theorem MQ (m:av)(n:Nat)(c:UInt8):Rb m n c n:=⟨aM _,List.suffix_refl _,fun j a b=>by omega⟩
theorem Rc {m:av}{n k:Nat}{c:UInt8}(h:Rb m n c k)(o:k<m.length)(p:0<k)(d:m[k]≠c):Rb m n c (best m (m.take k) (k-1)):=by
 have a:=yL m (m.take k) (k-1);generalize best m (m.take k) (k-1)=r at a;refine⟨by have:=a.1;have:=h.1;omega,a.2.1.trans h.2.1,fun j f i l b=>?_⟩;by_cases e:j=k
 . subst e;exact d
 . by_cases g:k<j
   . exact h.2.2 j g i l b
   . exact absurd (within b h.2.1 (by omega)) (a.2.2 j f (by omega))
theorem Vl {m:av}{n k:Nat}{c:UInt8}(h:Rb m n c k)(l:n<m.length)(e:k<m.length)(f:m[k]=c):ng m (m.take n++[c]) m.length (k+1):=by
 refine⟨by omega,(vB m _ c k e).2 ⟨h.2.1,f⟩,fun j o p g=>?_⟩;obtain⟨i,rfl⟩:∃i,j=i+1:=⟨j-1,by omega⟩;obtain⟨a,b⟩:=(vB m _ c i (by omega)).1 g;have d:i<=n:=by
  have:=a.length_le;rw[bW,bW] at this;omega
 exact h.2.2 i (by omega) d (by omega) a b
theorem YP {m:av}{n:Nat}{c:UInt8}(h:Rb m n c 0)(k:n<m.length)(l:0<m.length)(f:m[0]≠c):ng m (m.take n++[c]) m.length 0:=by
 refine⟨by omega,by simp,fun j o p g=>?_⟩;obtain⟨i,rfl⟩:∃i,j=i+1:=⟨j-1,by omega⟩;obtain⟨a,b⟩:=(vB m _ c i (by omega)).1 g;have d:i<=n:=by
  have:=a.length_le;rw[bW,bW] at this;omega
 by_cases e:i=0
 . subst e;exact f b
 . exact h.2.2 i (by omega) d (by omega) a b
def fit (m:av)(n:Nat)(c:UInt8):Nat:=best m (m.take n++[c]) m.length
theorem Vm (m:av)(n:Nat)(c:UInt8):ng m (m.take n++[c]) m.length (fit m n c):=yL _ _ _
theorem MR (m:av)(n:Nat)(c:UInt8):fit m n c<=m.length:=PW _ _ _
theorem Ci (m:av)(n:Nat)(c:UInt8):fit m n c<=n+1:=by
 have h:=(Vm m n c).2.1.length_le;have a:=MR m n c;simp at h;omega
def bk (m:av)(n:Nat):Nat:=best m (m.take n) (n-1)
theorem Vn (m:av)(n:Nat)(h:0<n):bk m n<n:=by have:=PW m (m.take n) (n-1);unfold bk;omega
theorem YQ (m:av)(n:Nat)(l:0<n)(h:n<m.length):bk m (n+1)=fit m (bk m n) m[n]:=by
 have d:ng m (m.take n) (n-1) (bk m n):=yL _ _ _;have g:=Vm m (bk m n) m[n];have o:=Ci m (bk m n) m[n];have a:=Vn m n l;generalize bk m n=b at *;generalize fit m b m[n]=r at *;show best m (m.take (n+1)) n=r;refine ng.best ⟨by omega,?_,fun j p q k=>?_⟩
 . rw[nD m n h];refine g.2.1.trans ((AP _ _ _ _).2 ⟨d.2.1,rfl⟩)
 . obtain⟨i,rfl⟩:∃i,j=i+1:=⟨j-1,by omega⟩;rw[nD m n h] at k;obtain⟨c,e⟩:=(vB m _ _ i (by omega)).1 k;have f:i<=b:=by
    refine Nat.le_of_not_lt fun a=>d.2.2 i a (by omega) c
   exact g.2.2 (i+1) p (by omega) ((vB m _ _ i (by omega)).2 ⟨within c d.2.1 f,e⟩)
def found (m:av)(h:Nat)(c:UInt8):Bool:=decide (0<m.length)&&decide (fit m h c=m.length)
def out (m:av)(h:Nat)(c:UInt8):av:=(m.take h++[c]).take (h+1-fit m h c)
def after (m:av)(h:Nat)(c:UInt8):Nat:=if found m h c then 0 else fit m h c
theorem Rf {m:av}{h:Nat}{c:UInt8}(a:found m h c=true):fit m h c=m.length∧0<m.length:=by grind [found,fit]
theorem FZ {m:av}{h:Nat}{c:UInt8}(a:found m h c=true)(b:h<=m.length-1):out m h c=[]:=by
 obtain⟨d,e⟩:=Rf a;have:=Ci m h c;unfold out;rw[show h+1-fit m h c=0 by omega,List.take_zero]
theorem C8 {m:av}{h:Nat}{c:UInt8}(a:fit m h c=0):out m h c=m.take h++[c]:=by
 unfold out;rw[a];exact dJ (by simp;omega)
theorem Vo {m:av}{h:Nat}{c:UInt8}(a:0<fit m h c)(b:h<=m.length):out m h c=m.take (h+1-fit m h c):=by grind [fit,out]
end Go.Proofs.YthhklgjjnaeaoaaGreatDoor.Sk