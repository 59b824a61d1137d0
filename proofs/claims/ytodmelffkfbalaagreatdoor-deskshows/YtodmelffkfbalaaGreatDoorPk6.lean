import Derived.Test.YtodmelffkfbalaaGreatDoorAl
import Derived.WalkKit
open Option renaming none->U,some->M
open Bool renaming false->F
namespace Go.Proofs.YtodmelffkfbalaaGreatDoor
def bQ (m:Nat):ab:=if h:m<128 then [UInt8.ofNat m] else UInt8.ofNat (m % 128+128)::bQ (m / 128)
termination_by m
decreasing_by omega
theorem ur {m:Nat}(h:m<128):bQ m=[UInt8.ofNat m]:=by rw[bQ,dif_pos h]
theorem xa {m:Nat}(h:¬m<128):bQ m=UInt8.ofNat (m % 128+128)::bQ (m / 128):=by rw[bQ,dif_neg h]
theorem Ao (m:Nat):0<(bQ m).length:=by
 rw[bQ];split <;> simp
theorem rV {k:Nat}(h:k<256):(UInt8.ofNat k).toNat=k:=by simp;omega
theorem wY:∀(k m:Nat),m<128 ^ (k+1)->(bQ m).length<=k+1:=by intro l;induction l <;> grind [bQ]
def fp:Nat->Bool->ab->Option (Nat×Nat)
 | 0,_,_=>U
 | _+1,_,[]=>U
 | k+1,f,c::r=>if c.toNat<128 then (if c.toNat=0∧f=F then U else M (c.toNat,1)) else (fp k F r).map fun p=>(c.toNat % 128+128*p.1,p.2+1)
def kd (b:ab):Option (Nat×Nat):=fp 5 true b
theorem L3 (k:Nat)(f:Bool):fp k f []=U:=by cases k <;> rfl
theorem L9:∀(k:Nat) (f:Bool) (b:ab) (m s:Nat),fp k f b=M (m,s)->0<s∧s<=b.length∧s<=k∧m<128 ^ k:=by
 intro k;induction k with
 | zero=>intro f b m s h;simp[fp] at h
 | succ k d =>
   intro f b m s h;cases b with
   | nil=>simp[fp] at h
   | cons c r =>
     rw[fp] at h;split at h
     . rename_i e;split at h
       . simp at h
       . simp only[jr,Prod.mk.injEq] at h;obtain⟨rfl,rfl⟩:=h;refine⟨by omega,by simp,by omega,?_⟩;have:1<=128 ^ k:=Nat.one_le_pow _ _ (by decide);rw[Nat.pow_succ];omega
     . cases a:fp k F r with
       | none=>rw[a] at h;simp at h
       | some p =>
         rw[a] at h;obtain⟨g,i⟩:=p;simp only[Option.map_some,jr,Prod.mk.injEq] at h;obtain⟨rfl,rfl⟩:=h;have j:=d _ _ _ _ a;refine⟨by omega,by simp;omega,by omega,?_⟩;rw[Nat.pow_succ];omega
theorem Mc {b:ab}{m s:Nat}(h:kd b=M (m,s)):0<s∧s<=b.length∧s<=5∧m<34359738368:=L9 5 true b m s h
theorem L4:∀(k m:Nat) (f:Bool) (r:ab),m<128 ^ (k+1)->(m=0->f=true)->fp (k+1) f (bQ m++r)=M (m,(bQ m).length):=by
 intro k;induction k with
 | zero =>
   intro m f r h d;have a:m<128:=by simpa using h
   rw[ur a];simp only[ge,lc,fp,bF,iy];rw[rV (by omega),if_pos a,if_neg];intro ⟨b,c⟩;have:=d b;rw[this] at c;cases c
 | succ k g =>
   intro m f r h d;by_cases a:m<128
   . rw[ur a];simp only[ge,lc,fp,bF,iy];rw[rV (by omega),if_pos a,if_neg];intro ⟨b,c⟩;have:=d b;rw[this] at c;cases c
   . rw[xa a];have b:m / 128<128 ^ (k+1):=by rw[Nat.div_lt_iff_lt_mul (by decide)];rw[Nat.pow_succ] at h;exact h
     rw[ge,fp,rV (by omega),if_neg (by omega),g _ F r b (fun e=>by omega)];simp only[Option.map_some,bF];congr 2;omega
theorem Ar {m:Nat}(h:m<34359738368)(r:ab):kd (bQ m++r)=M (m,(bQ m).length):=L4 4 m true r h (fun _=>rfl)
theorem L5:∀(k m:Nat) (f:Bool) (j:Nat),j<(bQ m).length->fp k f ((bQ m).take j)=U:=by
 intro k;induction k with
 | zero=>intros;rfl
 | succ k c =>
   intro m f j a;cases j with
   | zero=>rfl
   | succ j =>
     by_cases b:m<128
     . rw[ur b] at a;simp at a
     . rw[xa b] at a ⊢;rw[List.take_succ_cons,fp,rV (by omega),if_neg (by omega),c _ _ _ (by simpa using a)];rfl
theorem Ma {m j:Nat}(h:j<(bQ m).length):kd ((bQ m).take j)=U:=L5 5 m true j h
theorem LZ:∀(k:Nat) (f:Bool) (b:ab) (m s:Nat),fp k f b=M (m,s)->b.take s=bQ m∧(m=0->f=true):=by
 intro k;induction k with
 | zero=>intro f b m s h;simp[fp] at h
 | succ k g =>
   intro f b m s h;cases b with
   | nil=>simp[fp] at h
   | cons c r =>
     rw[fp] at h;split at h
     . rename_i d;split at h
       . simp at h
       . rename_i i;simp only[jr,Prod.mk.injEq] at h;obtain⟨rfl,rfl⟩:=h;refine⟨?_,fun e=>?_⟩
         . rw[ur d];simp
         . cases f
           . exact absurd ⟨e,rfl⟩ i
           . rfl
     . cases a:fp k F r with
       | none=>rw[a] at h;simp at h
       | some p =>
         rw[a] at h;obtain⟨j,o⟩:=p;simp only[Option.map_some,jr,Prod.mk.injEq] at h;obtain⟨rfl,rfl⟩:=h;obtain⟨l,n⟩:=g _ _ _ _ a;have q:j≠0:=fun e=>by have:=n e;cases this
         have d:=c.toNat_lt;refine⟨?_,fun e=>by omega⟩;rw[xa (by omega),List.take_succ_cons,l];congr 1
         . apply iO.1;rw[rV (by omega)];omega
         . congr 1;omega
theorem L6 {b:ab}{m s:Nat}(h:kd b=M (m,s)):b.take s=bQ m:=(LZ 5 true b m s h).1
theorem As (b:ab)(i:Nat)(d:i<5)(c:i<b.length)(k:Nat)(e:k=5-i)(f:Bool):fp k f (b.drop i)=if b[i].toNat<128 then (if b[i].toNat=0∧f=F then U else M (b[i].toNat,1)) else (fp (5-(i+1)) F (b.drop (i+1))).map fun p=>(b[i].toNat % 128+128*p.1,p.2+1):=by
 obtain⟨a,rfl⟩:∃a,k=a+1:=⟨5-(i+1),by omega⟩;rw[hJ c,fp];have:a=5-(i+1):=by omega
 rw[this]
structure aI where
 b:Int
 a:Int
 n:Int
 c:ab
def de (e:aI):Bool:=decide (1<=e.b)&&decide (e.b<=6)&&decide (-1<=e.a)&&decide (e.a<=1073741823)&&decide (-1<=e.n)&&decide (e.n<=1073741823)&&decide (e.c.length<=1048575)
theorem ut (e:aI):de e=true<->(1<=e.b∧e.b<=6)∧(-1<=e.a∧e.a<=1073741823)∧(-1<=e.n∧e.n<=1073741823)∧e.c.length<=1048575:=by grind [de]
def im (x:Int):ab:=bQ (x+1).toNat
def kc (e:aI):ab:=im e.b++im e.a++im e.n
def dS (e:aI):ab:=kc e++e.c
def aW (e:aI):ab:=bQ ((dS e).length+1)++dS e
theorem Mb {x:Int}(h:x<=1073741823):(im x).length<=5∧0<(im x).length:=⟨wY 4 _ (by omega),Ao _⟩
theorem EJ {e:aI}(h:de e=true):(kc e).length<=15:=by grind [de,kc,ut,Mb]
theorem nT {e:aI}(h:de e=true):(dS e).length<=1048590:=by grind [de,dS,EJ,ut]
theorem rW {e:aI}(h:de e=true):(aW e).length<=(dS e).length+5:=by
 have:=nT h;have:=wY 4 ((dS e).length+1) (by omega);simp only[aW,aD];omega
theorem EM (e:aI):0<(aW e).length:=by
 have:=Ao ((dS e).length+1);simp only[aW,aD];omega
def dl (b:ab):Option (Int×Nat):=(kd b).map fun p=>((p.1:Int)-1,p.2)
theorem At {x:Int}(a:-1<=x)(b:x<=1073741823)(r:ab):dl (im x++r)=M (x,(im x).length):=by grind [dl,im,Ar]
theorem wX {b:ab}{x:Int}{s:Nat}(h:dl b=M (x,s)):0<s∧s<=b.length∧s<=5∧-1<=x∧x<34359738368:=by
 unfold dl at h;cases a:kd b with
 | none=>rw[a] at h;simp at h
 | some p =>
   rw[a] at h;obtain⟨m,c⟩:=p;simp only[Option.map_some,jr,Prod.mk.injEq] at h;obtain⟨rfl,rfl⟩:=h;have:=Mc a;omega
theorem wW {b:ab}{x:Int}{s:Nat}(h:dl b=M (x,s)):b.take s=im x:=by
 unfold dl at h;cases a:kd b with
 | none=>rw[a] at h;simp at h
 | some p =>
   rw[a] at h;obtain⟨m,c⟩:=p;simp only[Option.map_some,jr,Prod.mk.injEq] at h;obtain⟨rfl,rfl⟩:=h;rw[L6 a];unfold im;congr 1;omega
def iL (b:ab):Option aI :=
 match dl b with
 | none=>U
 | some (x, s) =>
   match dl (b.drop s) with
   | none=>U
   | some (y, t) =>
     match dl ((b.drop s).drop t) with
     | none=>U
     | some (z,u)=>if de ⟨x,y,z,((b.drop s).drop t).drop u⟩=true then M ⟨x,y,z,((b.drop s).drop t).drop u⟩ else U
def eA (b:ab):Option (aI×Nat) :=
 match dl b with
 | none=>U
 | some (x,s)=>if 0<=x∧x<=(b.length:Int)-s then (iL ((b.drop s).take x.toNat)).map fun e=>(e,s+x.toNat) else U
theorem wZ {b:ab}{e:aI}{s:Nat}(h:eA b=M (e,s)):0<s∧s<=b.length:=by
 unfold eA at h;cases a:dl b with
 | none=>rw[a] at h;simp at h
 | some p =>
   rw[a] at h;obtain⟨x,d⟩:=p;simp only at h;split at h
   . cases c:iL ((b.drop d).take x.toNat) with
     | none=>rw[c] at h;simp at h
     | some f =>
       rw[c] at h;simp only[Option.map_some,jr,Prod.mk.injEq] at h;have:=wX a;omega
   . simp at h
def bY (b:ab):List aI×Nat :=
 match _h:eA b with
 | none=>([],0)
 | some (e,s)=>(e::(bY (b.drop s)).1,s+(bY (b.drop s)).2)
termination_by b.length
decreasing_by
 all_goals
  have:=wZ _h
  rw[cQ];omega
theorem uu {b:ab}(h:eA b=U):bY b=([],0):=by
 rw[bY];split
 . rfl
 . rename_i a;rw[h] at a;cases a
theorem Am {b:ab}{e:aI}{s:Nat}(h:eA b=M (e,s)):bY b=(e::(bY (b.drop s)).1,s+(bY (b.drop s)).2):=by grind [eA,bY]
theorem LY {b:ab}(h:b.length=0):dl b=U:=by
 have:b=[]:=iz h;subst this;rfl
theorem LX {e:aI}(h:de e=true):iL (dS e)=M e:=by
 obtain⟨d,a,b,f⟩:=(ut e).1 h;have c:dS e=im e.b++(im e.a++(im e.n++e.c)):=by simp[dS,kc,List.append_assoc]
 unfold iL;rw[c,At (by omega) (by omega)];simp only[List.drop_left];rw[At a.1 a.2];simp only[List.drop_left];rw[At b.1 b.2];simp only[List.drop_left];rw[if_pos h]
theorem LW {b:ab}{e:aI}(h:iL b=M e):dS e=b∧de e=true:=by
 unfold iL at h;cases a:dl b with
 | none=>rw[a] at h;simp at h
 | some p =>
   obtain⟨x,s⟩:=p;rw[a] at h;simp only at h;cases c:dl (b.drop s) with
   | none=>rw[c] at h;simp at h
   | some p =>
     obtain⟨y,t⟩:=p;rw[c] at h;simp only at h;cases d:dl ((b.drop s).drop t) with
     | none=>rw[d] at h;simp at h
     | some p =>
       obtain⟨z,u⟩:=p;rw[d] at h;simp only at h;split at h
       . rename_i f;injection h with h;subst h;refine⟨?_,f⟩;simp only[dS,kc];rw[<-wW a,<-wW c,<-wW d,ja,ja,iZ,iZ,iZ]
       . simp at h
theorem L7 {e:aI}(h:de e=true)(r:ab):eA (aW e++r)=M (e,(aW e).length):=by
 have c:=nT h;have a:aW e++r=bQ ((dS e).length+1)++(dS e++r):=by simp[aW,List.append_assoc]
 have b:dl (bQ ((dS e).length+1)++(dS e++r))=M (((dS e).length:Int),(bQ ((dS e).length+1)).length):=by
  unfold dl;rw[Ar (by omega)];simp only[Option.map_some];congr 2;omega
 unfold eA;rw[a,b];simp only[List.drop_left];rw[if_pos ⟨by omega,by simp only[aD];omega⟩];rw[Int.toNat_natCast,List.take_left,LX h];simp[aW]
theorem L2 {b:ab}{e:aI}{s:Nat}(h:eA b=M (e,s)):b.take s=aW e∧de e=true:=by
 unfold eA at h;cases a:dl b with
 | none=>rw[a] at h;simp at h
 | some p =>
   obtain⟨x,k⟩:=p;rw[a] at h;simp only at h;split at h
   . rename_i l;cases c:iL ((b.drop k).take x.toNat) with
     | none=>rw[c] at h;simp at h
     | some g =>
       rw[c] at h;simp only[Option.map_some,jr,Prod.mk.injEq] at h;obtain⟨rfl,rfl⟩:=h;obtain⟨d,i⟩:=LW c;refine⟨?_,i⟩;have j:=wX a;have f:(dS g).length=x.toNat:=by rw[d,bV,cQ];omega
       rw[List.take_add,wW a,<-d];unfold aW im;congr 2;omega
   . simp at h
theorem L8 {e:aI}(h:de e=true){j:Nat}(g:j<(aW e).length):eA ((aW e).take j)=U:=by
 have i:=nT h;by_cases b:j<(bQ ((dS e).length+1)).length
 . have a:(aW e).take j=(bQ ((dS e).length+1)).take j:=by
    unfold aW;rw[List.take_append_of_le_length (by omega)]
   unfold eA dl;rw[a,Ma b];rfl
 . have a:(aW e).take j=bQ ((dS e).length+1)++(dS e).take (j-(bQ ((dS e).length+1)).length):=by
    unfold aW;rw[List.take_append,hZ (by omega)]
   have c:∀r,dl (bQ ((dS e).length+1)++r)=M (((dS e).length:Int),(bQ ((dS e).length+1)).length):=fun r=>by
    unfold dl;rw[Ar (by omega)];simp only[Option.map_some];congr 2;omega
   unfold eA;rw[a,c];simp only;rw[if_neg];intro ⟨_,d⟩;have f:(bQ ((dS e).length+1)).length+(dS e).length=(aW e).length:=by simp[aW]
   rw[aD,bV] at d;omega
theorem EL:eA []=U:=by
 unfold eA;rw[LY rfl]
theorem An:∀(N:Nat) (b:ab),b.length<=N->(∀e∈(bY b).1,de e=true)∧(bY b).2<=b.length∧((bY b).1.map aW).flatten=b.take (bY b).2∧(bY b).1.length<=(bY b).2:=by
 intro N;induction N with
 | zero =>
   intro b h;have:b=[]:=iz (by omega);subst this;rw[uu EL];simp
 | succ N d =>
   intro b h;cases a:eA b with
   | none=>rw[uu a];simp
   | some p =>
     obtain⟨e,s⟩:=p;rw[Am a];have f:=wZ a;obtain⟨g,i⟩:=L2 a;obtain⟨j,k,l,m⟩:=d (b.drop s) (by rw[cQ];omega);rw[cQ] at k;refine⟨fun x c=>?_,by simp only;omega,?_,by simp only[bF];omega⟩
     . rcases fS.1 c with rfl | c
       . exact i
       . exact j x c
     . simp only[List.map_cons,List.flatten_cons];rw[l,List.take_add,g]
def iU:List aI->Nat->Nat
 | [],_=>0
 | e::t,k=>if (aW e).length<=k then iU t (k-(aW e).length)+1 else 0
def fH (l:List aI):ab:=(l.map aW).flatten
theorem Av (e:aI)(t:List aI):fH (e::t)=aW e++fH t:=rfl
theorem EN (a b:List aI):fH (a++b)=fH a++fH b:=by simp[fH]
theorem EK:∀(l:List aI) (k:Nat),iU l k<=l.length:=by intro l;induction l <;> grind [iU]
theorem Aq:∀(l:List aI) (k:Nat),(∀e∈l,de e=true)->bY ((fH l).take k)=(l.take (iU l k),(fH (l.take (iU l k))).length)
 | [],k,_=>by simp[fH,iU,uu EL]
 | e :: t, k, hf => by
   have a:=hf e (lO ..);rw[Av];unfold iU;split
   . rename_i b;have c:(aW e++fH t).take k=aW e++(fH t).take (k-(aW e).length):=by
      rw[List.take_append,hZ b]
     rw[c,Am (L7 a _),List.drop_left,Aq t _ (fun x d=>hf x (iN _ d))];simp only[List.take_succ_cons,Av,aD]
   . rename_i b;rw[List.take_append_of_le_length (by omega),uu (L8 a (by omega))];simp[fH]
def Au (l:List aI)(i:Nat):Nat:=(fH (l.take (i+1))).length
theorem EH:∀(l:List aI) (k i:Nat),i<l.length->(Au l i<=k<->i<iU l k)
 | [],k,i,a=>by simp at a
 | e :: t, k, i, a => by
   have c:=EM e;unfold iU Au;rw[List.take_succ_cons,Av,aD];split
   . rename_i b;cases i with
     | zero=>simp[fH];omega
     | succ i =>
       have:=EH t (k-(aW e).length) i (by simpa using a);unfold Au at this;constructor
       . intro h;have:=this.1 (by omega);omega
       . intro h;have:=this.2 (by omega);omega
   . rename_i b;constructor
     . intro h;omega
     . intro h;omega
structure PG where
 a:Int
 b:Int
 n:Int
 c:ae
def nX (m x:ab):Nat->Nat
 | 0=>0
 | k+1=>if m.take (k+1) <:+ x then k+1 else nX m x k
def nY (m x:ab)(b r:Nat):Prop:=r<=b∧m.take r <:+ x∧∀k,r<k->k<=b->¬m.take k <:+ x
theorem uR (m x:ab):∀b,nY m x b (nX m x b):=by intro l;induction l <;> grind [nY,nX]
theorem nY.e {m x:ab}{b r r':Nat}(h:nY m x b r)(a:nY m x b r'):r=r':=by grind [nY]
theorem nY.a {m x:ab}{b r:Nat}(h:nY m x b r):nX m x b=r:=(uR m x b).e h
theorem Gw (m x:ab)(b:Nat):nX m x b<=b:=(uR m x b).1
theorem Bc (m:ab)(j:Nat)(h:j<m.length):m.take (j+1)=m.take j++[m[j]]:=fR h
theorem Gu (t x:ab)(a c:UInt8):t++[a] <:+ x++[c]<->t <:+ x∧a=c:=by
 constructor
 . rintro ⟨y,b⟩;rw[<-ja] at b;obtain⟨d,e⟩:=vk b rfl;exact⟨⟨y,d⟩,by simpa using e⟩
 . rintro ⟨⟨y,b⟩,rfl⟩;exact⟨y,by rw[<-ja,b]⟩
theorem uQ (m x:ab)(c:UInt8)(j:Nat)(h:j<m.length):m.take (j+1) <:+ x++[c]<->m.take j <:+ x∧m[j]=c:=by
 rw[Bc m j h,Gu]
theorem Gy {m x:ab}{j k:Nat}(a:m.take j <:+ x)(b:m.take k <:+ x)(h:j<=k):m.take j <:+ m.take k :=
 List.suffix_of_suffix_length_le a b (by rw[bV,bV];omega)
def sq (m:ab)(n:Nat)(c:UInt8)(k:Nat):Prop :=
 k<=n∧m.take k <:+ m.take n∧∀j,k<j->j<=n->(hj:j<m.length)->m.take j <:+ m.take n->m[j]≠c
theorem O7 (m:ab)(n:Nat)(c:UInt8):sq m n c n:=⟨am _,List.suffix_refl _,fun j a b=>by omega⟩
theorem Pa {m:ab}{n k:Nat}{c:UInt8}(h:sq m n c k)(o:k<m.length)(p:0<k)(d:m[k]≠c):sq m n c (nX m (m.take k) (k-1)):=by
 have a:=uR m (m.take k) (k-1);generalize nX m (m.take k) (k-1)=r at a;refine⟨by have:=a.1;have:=h.1;omega,a.2.1.trans h.2.1,fun j f i l b=>?_⟩;by_cases e:j=k
 . subst e;exact d
 . by_cases g:k<j
   . exact h.2.2 j g i l b
   . exact absurd (Gy b h.2.1 (by omega)) (a.2.2 j f (by omega))
theorem Ph {m:ab}{n k:Nat}{c:UInt8}(h:sq m n c k)(l:n<m.length)(e:k<m.length)(f:m[k]=c):nY m (m.take n++[c]) m.length (k+1):=by
 refine⟨by omega,(uQ m _ c k e).2 ⟨h.2.1,f⟩,fun j o p g=>?_⟩;obtain⟨i,rfl⟩:∃i,j=i+1:=⟨j-1,by omega⟩;obtain⟨a,b⟩:=(uQ m _ c i (by omega)).1 g;have d:i<=n:=by
  have:=a.length_le;rw[bV,bV] at this;omega
 exact h.2.2 i (by omega) d (by omega) a b
theorem Pj {m:ab}{n:Nat}{c:UInt8}(h:sq m n c 0)(k:n<m.length)(l:0<m.length)(f:m[0]≠c):nY m (m.take n++[c]) m.length 0:=by
 refine⟨by omega,by simp,fun j o p g=>?_⟩;obtain⟨i,rfl⟩:∃i,j=i+1:=⟨j-1,by omega⟩;obtain⟨a,b⟩:=(uQ m _ c i (by omega)).1 g;have d:i<=n:=by
  have:=a.length_le;rw[bV,bV] at this;omega
 by_cases e:i=0
 . subst e;exact f b
 . exact h.2.2 i (by omega) d (by omega) a b
def eE (m:ab)(n:Nat)(c:UInt8):Nat:=nX m (m.take n++[c]) m.length
theorem Gx (m:ab)(n:Nat)(c:UInt8):nY m (m.take n++[c]) m.length (eE m n c):=uR _ _ _
theorem A7 (m:ab)(n:Nat)(c:UInt8):eE m n c<=m.length:=Gw _ _ _
theorem xB (m:ab)(n:Nat)(c:UInt8):eE m n c<=n+1:=by
 have h:=(Gx m n c).2.1.length_le;have a:=A7 m n c;simp at h;omega
def iW (m:ab)(n:Nat):Nat:=nX m (m.take n) (n-1)
theorem A8 (m:ab)(n:Nat)(h:0<n):iW m n<n:=by have:=Gw m (m.take n) (n-1);unfold iW;omega
theorem Pk (m:ab)(n:Nat)(l:0<n)(h:n<m.length):iW m (n+1)=eE m (iW m n) m[n]:=by
 have d:nY m (m.take n) (n-1) (iW m n):=uR _ _ _;have g:=Gx m (iW m n) m[n];have o:=xB m (iW m n) m[n];have a:=A8 m n l;generalize iW m n=b at *;generalize eE m b m[n]=r at *;show nX m (m.take (n+1)) n=r;refine nY.a ⟨by omega,?_,fun j p q k=>?_⟩
 . rw[Bc m n h];refine g.2.1.trans ((Gu _ _ _ _).2 ⟨d.2.1,rfl⟩)
 . obtain⟨i,rfl⟩:∃i,j=i+1:=⟨j-1,by omega⟩;rw[Bc m n h] at k;obtain⟨c,e⟩:=(uQ m _ _ i (by omega)).1 k;have f:i<=b:=by
    refine Nat.le_of_not_lt fun a=>d.2.2 i a (by omega) c
   exact g.2.2 (i+1) p (by omega) ((uQ m _ _ i (by omega)).2 ⟨Gy c d.2.1 f,e⟩)
def eU (m:ab)(h:Nat)(c:UInt8):Bool:=decide (0<m.length)&&decide (eE m h c=m.length)
def dD (m:ab)(h:Nat)(c:UInt8):ab:=(m.take h++[c]).take (h+1-eE m h c)
def fK (m:ab)(h:Nat)(c:UInt8):Nat:=if eU m h c then 0 else eE m h c
theorem Pc {m:ab}{h:Nat}{c:UInt8}(a:eU m h c=true):eE m h c=m.length∧0<m.length:=by grind [eU,eE]
theorem Gv {m:ab}{h:Nat}{c:UInt8}(a:eU m h c=true)(b:h<=m.length-1):dD m h c=[]:=by
 obtain⟨d,e⟩:=Pc a;have:=xB m h c;unfold dD;rw[show h+1-eE m h c=0 by omega,List.take_zero]
theorem O6 {m:ab}{h:Nat}{c:UInt8}(a:eE m h c=0):dD m h c=m.take h++[c]:=by
 unfold dD;rw[a];exact hZ (by simp;omega)
theorem Pi {m:ab}{h:Nat}{c:UInt8}(a:0<eE m h c)(b:h<=m.length):dD m h c=m.take (h+1-eE m h c):=by grind [eE,dD]
