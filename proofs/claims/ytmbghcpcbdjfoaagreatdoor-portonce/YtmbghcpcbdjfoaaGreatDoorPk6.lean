import Derived.Test.YtmbghcpcbdjfoaaGreatDoorAl
import Derived.WalkKit
open Option renaming none->U,some->M
open Bool renaming false->F
namespace Go.Proofs.YtmbghcpcbdjfoaaGreatDoor
def bX (m:Nat):ae:=if h:m<128 then [UInt8.ofNat m] else UInt8.ofNat (m % 128+128)::bX (m / 128)
termination_by m
decreasing_by omega
theorem vd {m:Nat}(h:m<128):bX m=[UInt8.ofNat m]:=by rw[bX,dif_pos h]
theorem xN {m:Nat}(h:¬m<128):bX m=UInt8.ofNat (m % 128+128)::bX (m / 128):=by rw[bX,dif_neg h]
theorem AM (m:Nat):0<(bX m).length:=by
 rw[bX];split <;> simp
theorem sL {k:Nat}(h:k<256):(UInt8.ofNat k).toNat=k:=by simp;omega
theorem xH:∀(k m:Nat),m<128 ^ (k+1)->(bX m).length<=k+1:=by intro l;induction l <;> grind [bX]
def fL:Nat->Bool->ae->Option (Nat×Nat)
 | 0,_,_=>U
 | _+1,_,[]=>U
 | k+1,f,c::r=>if c.toNat<128 then (if c.toNat=0∧f=F then U else M (c.toNat,1)) else (fL k F r).map fun p=>(c.toNat % 128+128*p.1,p.2+1)
def kj (b:ae):Option (Nat×Nat):=fL 5 true b
theorem L3 (k:Nat)(f:Bool):fL k f []=U:=by cases k <;> rfl
theorem L9:∀(k:Nat) (f:Bool) (b:ae) (m s:Nat),fL k f b=M (m,s)->0<s∧s<=b.length∧s<=k∧m<128 ^ k:=by
 intro k;induction k with
 | zero=>intro f b m s h;simp[fL] at h
 | succ k d =>
   intro f b m s h;cases b with
   | nil=>simp[fL] at h
   | cons c r =>
     rw[fL] at h;split at h
     . rename_i e;split at h
       . simp at h
       . simp only[iV,Prod.mk.injEq] at h;obtain⟨rfl,rfl⟩:=h;refine⟨by omega,by simp,by omega,?_⟩;have:1<=128 ^ k:=Nat.one_le_pow _ _ (by decide);rw[Nat.pow_succ];omega
     . cases a:fL k F r with
       | none=>rw[a] at h;simp at h
       | some p =>
         rw[a] at h;obtain⟨g,i⟩:=p;simp only[Option.map_some,iV,Prod.mk.injEq] at h;obtain⟨rfl,rfl⟩:=h;have j:=d _ _ _ _ a;refine⟨by omega,by simp;omega,by omega,?_⟩;rw[Nat.pow_succ];omega
theorem Mc {b:ae}{m s:Nat}(h:kj b=M (m,s)):0<s∧s<=b.length∧s<=5∧m<34359738368:=L9 5 true b m s h
theorem L4:∀(k m:Nat) (f:Bool) (r:ae),m<128 ^ (k+1)->(m=0->f=true)->fL (k+1) f (bX m++r)=M (m,(bX m).length):=by
 intro k;induction k with
 | zero =>
   intro m f r h d;have a:m<128:=by simpa using h
   rw[vd a];simp only[gV,jo,fL,bO,lD];rw[sL (by omega),if_pos a,if_neg];intro ⟨b,c⟩;have:=d b;rw[this] at c;cases c
 | succ k g =>
   intro m f r h d;by_cases a:m<128
   . rw[vd a];simp only[gV,jo,fL,bO,lD];rw[sL (by omega),if_pos a,if_neg];intro ⟨b,c⟩;have:=d b;rw[this] at c;cases c
   . rw[xN a];have b:m / 128<128 ^ (k+1):=by rw[Nat.div_lt_iff_lt_mul (by decide)];rw[Nat.pow_succ] at h;exact h
     rw[gV,fL,sL (by omega),if_neg (by omega),g _ F r b (fun e=>by omega)];simp only[Option.map_some,bO];congr 2;omega
theorem AO {m:Nat}(h:m<34359738368)(r:ae):kj (bX m++r)=M (m,(bX m).length):=L4 4 m true r h (fun _=>rfl)
theorem L5:∀(k m:Nat) (f:Bool) (j:Nat),j<(bX m).length->fL k f ((bX m).take j)=U:=by
 intro k;induction k with
 | zero=>intros;rfl
 | succ k c =>
   intro m f j a;cases j with
   | zero=>rfl
   | succ j =>
     by_cases b:m<128
     . rw[vd b] at a;simp at a
     . rw[xN b] at a ⊢;rw[List.take_succ_cons,fL,sL (by omega),if_neg (by omega),c _ _ _ (by simpa using a)];rfl
theorem Ma {m j:Nat}(h:j<(bX m).length):kj ((bX m).take j)=U:=L5 5 m true j h
theorem L1:∀(k:Nat) (f:Bool) (b:ae) (m s:Nat),fL k f b=M (m,s)->b.take s=bX m∧(m=0->f=true):=by
 intro k;induction k with
 | zero=>intro f b m s h;simp[fL] at h
 | succ k g =>
   intro f b m s h;cases b with
   | nil=>simp[fL] at h
   | cons c r =>
     rw[fL] at h;split at h
     . rename_i d;split at h
       . simp at h
       . rename_i i;simp only[iV,Prod.mk.injEq] at h;obtain⟨rfl,rfl⟩:=h;refine⟨?_,fun e=>?_⟩
         . rw[vd d];simp
         . cases f
           . exact absurd ⟨e,rfl⟩ i
           . rfl
     . cases a:fL k F r with
       | none=>rw[a] at h;simp at h
       | some p =>
         rw[a] at h;obtain⟨j,o⟩:=p;simp only[Option.map_some,iV,Prod.mk.injEq] at h;obtain⟨rfl,rfl⟩:=h;obtain⟨l,n⟩:=g _ _ _ _ a;have q:j≠0:=fun e=>by have:=n e;cases this
         have d:=c.toNat_lt;refine⟨?_,fun e=>by omega⟩;rw[xN (by omega),List.take_succ_cons,l];congr 1
         . apply pq.1;rw[sL (by omega)];omega
         . congr 1;omega
theorem L6 {b:ae}{m s:Nat}(h:kj b=M (m,s)):b.take s=bX m:=(L1 5 true b m s h).1
theorem AP (b:ae)(i:Nat)(d:i<5)(c:i<b.length)(k:Nat)(e:k=5-i)(f:Bool):fL k f (b.drop i)=if b[i].toNat<128 then (if b[i].toNat=0∧f=F then U else M (b[i].toNat,1)) else (fL (5-(i+1)) F (b.drop (i+1))).map fun p=>(b[i].toNat % 128+128*p.1,p.2+1):=by
 obtain⟨a,rfl⟩:∃a,k=a+1:=⟨5-(i+1),by omega⟩;rw[gS c,fL];have:a=5-(i+1):=by omega
 rw[this]
structure aK where
 b:Int
 a:Int
 n:Int
 c:ae
def dg (e:aK):Bool:=decide (1<=e.b)&&decide (e.b<=6)&&decide (-1<=e.a)&&decide (e.a<=1073741823)&&decide (-1<=e.n)&&decide (e.n<=1073741823)&&decide (e.c.length<=1048575)
theorem ve (e:aK):dg e=true<->(1<=e.b∧e.b<=6)∧(-1<=e.a∧e.a<=1073741823)∧(-1<=e.n∧e.n<=1073741823)∧e.c.length<=1048575:=by grind [dg]
def iA (x:Int):ae:=bX (x+1).toNat
def ki (e:aK):ae:=iA e.b++iA e.a++iA e.n
def dU (e:aK):ae:=ki e++e.c
def bi (e:aK):ae:=bX ((dU e).length+1)++dU e
theorem Mb {x:Int}(h:x<=1073741823):(iA x).length<=5∧0<(iA x).length:=⟨xH 4 _ (by omega),AM _⟩
theorem E3 {e:aK}(h:dg e=true):(ki e).length<=15:=by grind [dg,ki,ve,Mb]
theorem oh {e:aK}(h:dg e=true):(dU e).length<=1048590:=by grind [dg,dU,E3,ve]
theorem sM {e:aK}(h:dg e=true):(bi e).length<=(dU e).length+5:=by
 have:=oh h;have:=xH 4 ((dU e).length+1) (by omega);simp only[bi,aF];omega
theorem E6 (e:aK):0<(bi e).length:=by
 have:=AM ((dU e).length+1);simp only[bi,aF];omega
def dp (b:ae):Option (Int×Nat):=(kj b).map fun p=>((p.1:Int)-1,p.2)
theorem AQ {x:Int}(a:-1<=x)(b:x<=1073741823)(r:ae):dp (iA x++r)=M (x,(iA x).length):=by grind [dp,iA,AO]
theorem xK {b:ae}{x:Int}{s:Nat}(h:dp b=M (x,s)):0<s∧s<=b.length∧s<=5∧-1<=x∧x<34359738368:=by
 unfold dp at h;cases a:kj b with
 | none=>rw[a] at h;simp at h
 | some p =>
   rw[a] at h;obtain⟨m,c⟩:=p;simp only[Option.map_some,iV,Prod.mk.injEq] at h;obtain⟨rfl,rfl⟩:=h;have:=Mc a;omega
theorem xJ {b:ae}{x:Int}{s:Nat}(h:dp b=M (x,s)):b.take s=iA x:=by
 unfold dp at h;cases a:kj b with
 | none=>rw[a] at h;simp at h
 | some p =>
   rw[a] at h;obtain⟨m,c⟩:=p;simp only[Option.map_some,iV,Prod.mk.injEq] at h;obtain⟨rfl,rfl⟩:=h;rw[L6 a];unfold iA;congr 1;omega
def iT (b:ae):Option aK :=
 match dp b with
 | none=>U
 | some (x, s) =>
   match dp (b.drop s) with
   | none=>U
   | some (y, t) =>
     match dp ((b.drop s).drop t) with
     | none=>U
     | some (z,u)=>if dg ⟨x,y,z,((b.drop s).drop t).drop u⟩=true then M ⟨x,y,z,((b.drop s).drop t).drop u⟩ else U
def eY (b:ae):Option (aK×Nat) :=
 match dp b with
 | none=>U
 | some (x,s)=>if 0<=x∧x<=(b.length:Int)-s then (iT ((b.drop s).take x.toNat)).map fun e=>(e,s+x.toNat) else U
theorem xL {b:ae}{e:aK}{s:Nat}(h:eY b=M (e,s)):0<s∧s<=b.length:=by
 unfold eY at h;cases a:dp b with
 | none=>rw[a] at h;simp at h
 | some p =>
   rw[a] at h;obtain⟨x,d⟩:=p;simp only at h;split at h
   . cases c:iT ((b.drop d).take x.toNat) with
     | none=>rw[c] at h;simp at h
     | some f =>
       rw[c] at h;simp only[Option.map_some,iV,Prod.mk.injEq] at h;have:=xK a;omega
   . simp at h
def cu (b:ae):List aK×Nat :=
 match _h:eY b with
 | none=>([],0)
 | some (e,s)=>(e::(cu (b.drop s)).1,s+(cu (b.drop s)).2)
termination_by b.length
decreasing_by
 all_goals
  have:=xL _h
  rw[bV];omega
theorem vf {b:ae}(h:eY b=U):cu b=([],0):=by
 rw[cu];split
 . rfl
 . rename_i a;rw[h] at a;cases a
theorem AI {b:ae}{e:aK}{s:Nat}(h:eY b=M (e,s)):cu b=(e::(cu (b.drop s)).1,s+(cu (b.drop s)).2):=by grind [eY,cu]
theorem LY {b:ae}(h:b.length=0):dp b=U:=by
 have:b=[]:=gW h;subst this;rfl
theorem LZ {e:aK}(h:dg e=true):iT (dU e)=M e:=by
 obtain⟨d,a,b,f⟩:=(ve e).1 h;have c:dU e=iA e.b++(iA e.a++(iA e.n++e.c)):=by simp[dU,ki,List.append_assoc]
 unfold iT;rw[c,AQ (by omega) (by omega)];simp only[List.drop_left];rw[AQ a.1 a.2];simp only[List.drop_left];rw[AQ b.1 b.2];simp only[List.drop_left];rw[if_pos h]
theorem LW {b:ae}{e:aK}(h:iT b=M e):dU e=b∧dg e=true:=by
 unfold iT at h;cases a:dp b with
 | none=>rw[a] at h;simp at h
 | some p =>
   obtain⟨x,s⟩:=p;rw[a] at h;simp only at h;cases c:dp (b.drop s) with
   | none=>rw[c] at h;simp at h
   | some p =>
     obtain⟨y,t⟩:=p;rw[c] at h;simp only at h;cases d:dp ((b.drop s).drop t) with
     | none=>rw[d] at h;simp at h
     | some p =>
       obtain⟨z,u⟩:=p;rw[d] at h;simp only at h;split at h
       . rename_i f;injection h with h;subst h;refine⟨?_,f⟩;simp only[dU,ki];rw[<-xJ a,<-xJ c,<-xJ d,iX,iX,jn,jn,jn]
       . simp at h
theorem L7 {e:aK}(h:dg e=true)(r:ae):eY (bi e++r)=M (e,(bi e).length):=by
 have c:=oh h;have a:bi e++r=bX ((dU e).length+1)++(dU e++r):=by simp[bi,List.append_assoc]
 have b:dp (bX ((dU e).length+1)++(dU e++r))=M (((dU e).length:Int),(bX ((dU e).length+1)).length):=by
  unfold dp;rw[AO (by omega)];simp only[Option.map_some];congr 2;omega
 unfold eY;rw[a,b];simp only[List.drop_left];rw[if_pos ⟨by omega,by simp only[aF];omega⟩];rw[Int.toNat_natCast,List.take_left,LZ h];simp[bi]
theorem L2 {b:ae}{e:aK}{s:Nat}(h:eY b=M (e,s)):b.take s=bi e∧dg e=true:=by
 unfold eY at h;cases a:dp b with
 | none=>rw[a] at h;simp at h
 | some p =>
   obtain⟨x,k⟩:=p;rw[a] at h;simp only at h;split at h
   . rename_i l;cases c:iT ((b.drop k).take x.toNat) with
     | none=>rw[c] at h;simp at h
     | some g =>
       rw[c] at h;simp only[Option.map_some,iV,Prod.mk.injEq] at h;obtain⟨rfl,rfl⟩:=h;obtain⟨d,i⟩:=LW c;refine⟨?_,i⟩;have j:=xK a;have f:(dU g).length=x.toNat:=by rw[d,bP,bV];omega
       rw[List.take_add,xJ a,<-d];unfold bi iA;congr 2;omega
   . simp at h
theorem L8 {e:aK}(h:dg e=true){j:Nat}(g:j<(bi e).length):eY ((bi e).take j)=U:=by
 have i:=oh h;by_cases b:j<(bX ((dU e).length+1)).length
 . have a:(bi e).take j=(bX ((dU e).length+1)).take j:=by
    unfold bi;rw[List.take_append_of_le_length (by omega)]
   unfold eY dp;rw[a,Ma b];rfl
 . have a:(bi e).take j=bX ((dU e).length+1)++(dU e).take (j-(bX ((dU e).length+1)).length):=by
    unfold bi;rw[List.take_append,jy (by omega)]
   have c:∀r,dp (bX ((dU e).length+1)++r)=M (((dU e).length:Int),(bX ((dU e).length+1)).length):=fun r=>by
    unfold dp;rw[AO (by omega)];simp only[Option.map_some];congr 2;omega
   unfold eY;rw[a,c];simp only;rw[if_neg];intro ⟨_,d⟩;have f:(bX ((dU e).length+1)).length+(dU e).length=(bi e).length:=by simp[bi]
   rw[aF,bP] at d;omega
theorem E5:eY []=U:=by
 unfold eY;rw[LY rfl]
theorem AK:∀(N:Nat) (b:ae),b.length<=N->(∀e∈(cu b).1,dg e=true)∧(cu b).2<=b.length∧((cu b).1.map bi).flatten=b.take (cu b).2∧(cu b).1.length<=(cu b).2:=by
 intro N;induction N with
 | zero =>
   intro b h;have:b=[]:=gW (by omega);subst this;rw[vf E5];simp
 | succ N d =>
   intro b h;cases a:eY b with
   | none=>rw[vf a];simp
   | some p =>
     obtain⟨e,s⟩:=p;rw[AI a];have f:=xL a;obtain⟨g,i⟩:=L2 a;obtain⟨j,k,l,m⟩:=d (b.drop s) (by rw[bV];omega);rw[bV] at k;refine⟨fun x c=>?_,by simp only;omega,?_,by simp only[bO];omega⟩
     . rcases fr.1 c with rfl | c
       . exact i
       . exact j x c
     . simp only[List.map_cons,List.flatten_cons];rw[l,List.take_add,g]
def jf:List aK->Nat->Nat
 | [],_=>0
 | e::t,k=>if (bi e).length<=k then jf t (k-(bi e).length)+1 else 0
def fV (l:List aK):ae:=(l.map bi).flatten
theorem AS (e:aK)(t:List aK):fV (e::t)=bi e++fV t:=rfl
theorem E7 (a b:List aK):fV (a++b)=fV a++fV b:=by simp[fV]
theorem E4:∀(l:List aK) (k:Nat),jf l k<=l.length:=by intro l;induction l <;> grind [jf]
theorem AN:∀(l:List aK) (k:Nat),(∀e∈l,dg e=true)->cu ((fV l).take k)=(l.take (jf l k),(fV (l.take (jf l k))).length)
 | [],k,_=>by simp[fV,jf,vf E5]
 | e :: t, k, hf => by
   have a:=hf e (mR ..);rw[AS];unfold jf;split
   . rename_i b;have c:(bi e++fV t).take k=bi e++(fV t).take (k-(bi e).length):=by
      rw[List.take_append,jy b]
     rw[c,AI (L7 a _),List.drop_left,AN t _ (fun x d=>hf x (iW _ d))];simp only[List.take_succ_cons,AS,aF]
   . rename_i b;rw[List.take_append_of_le_length (by omega),vf (L8 a (by omega))];simp[fV]
def AR (l:List aK)(i:Nat):Nat:=(fV (l.take (i+1))).length
theorem E2:∀(l:List aK) (k i:Nat),i<l.length->(AR l i<=k<->i<jf l k)
 | [],k,i,a=>by simp at a
 | e :: t, k, i, a => by
   have c:=E6 e;unfold jf AR;rw[List.take_succ_cons,AS,aF];split
   . rename_i b;cases i with
     | zero=>simp[fV];omega
     | succ i =>
       have:=E2 t (k-(bi e).length) i (by simpa using a);unfold AR at this;constructor
       . intro h;have:=this.1 (by omega);omega
       . intro h;have:=this.2 (by omega);omega
   . rename_i b;constructor
     . intro h;omega
     . intro h;omega
structure QD where
 a:Int
 b:Int
 n:Int
 c:ag
def oq (m x:ae):Nat->Nat
 | 0=>0
 | k+1=>if m.take (k+1) <:+ x then k+1 else oq m x k
def ot (m x:ae)(b r:Nat):Prop:=r<=b∧m.take r <:+ x∧∀k,r<k->k<=b->¬m.take k <:+ x
theorem vS (m x:ae):∀b,ot m x b (oq m x b):=by intro l;induction l <;> grind [ot,oq]
theorem ot.d {m x:ae}{b r r':Nat}(h:ot m x b r)(a:ot m x b r'):r=r':=by grind [ot]
theorem ot.a {m x:ae}{b r:Nat}(h:ot m x b r):oq m x b=r:=(vS m x b).d h
theorem GW (m x:ae)(b:Nat):oq m x b<=b:=(vS m x b).1
theorem BT (m:ae)(j:Nat)(h:j<m.length):m.take (j+1)=m.take j++[m[j]]:=go h
theorem GT (t x:ae)(a c:UInt8):t++[a] <:+ x++[c]<->t <:+ x∧a=c:=by
 constructor
 . rintro ⟨y,b⟩;rw[<-iX] at b;obtain⟨d,e⟩:=wp b rfl;exact⟨⟨y,d⟩,by simpa using e⟩
 . rintro ⟨⟨y,b⟩,rfl⟩;exact⟨y,by rw[<-iX,b]⟩
theorem vT (m x:ae)(c:UInt8)(j:Nat)(h:j<m.length):m.take (j+1) <:+ x++[c]<->m.take j <:+ x∧m[j]=c:=by
 rw[BT m j h,GT]
theorem GZ {m x:ae}{j k:Nat}(a:m.take j <:+ x)(b:m.take k <:+ x)(h:j<=k):m.take j <:+ m.take k :=
 List.suffix_of_suffix_length_le a b (by rw[bP,bP];omega)
def th (m:ae)(n:Nat)(c:UInt8)(k:Nat):Prop :=
 k<=n∧m.take k <:+ m.take n∧∀j,k<j->j<=n->(hj:j<m.length)->m.take j <:+ m.take n->m[j]≠c
theorem Qc (m:ae)(n:Nat)(c:UInt8):th m n c n:=⟨ak _,List.suffix_refl _,fun j a b=>by omega⟩
theorem Qd {m:ae}{n k:Nat}{c:UInt8}(h:th m n c k)(o:k<m.length)(p:0<k)(d:m[k]≠c):th m n c (oq m (m.take k) (k-1)):=by
 have a:=vS m (m.take k) (k-1);generalize oq m (m.take k) (k-1)=r at a;refine⟨by have:=a.1;have:=h.1;omega,a.2.1.trans h.2.1,fun j f i l b=>?_⟩;by_cases e:j=k
 . subst e;exact d
 . by_cases g:k<j
   . exact h.2.2 j g i l b
   . exact absurd (GZ b h.2.1 (by omega)) (a.2.2 j f (by omega))
theorem Qf {m:ae}{n k:Nat}{c:UInt8}(h:th m n c k)(l:n<m.length)(e:k<m.length)(f:m[k]=c):ot m (m.take n++[c]) m.length (k+1):=by
 refine⟨by omega,(vT m _ c k e).2 ⟨h.2.1,f⟩,fun j o p g=>?_⟩;obtain⟨i,rfl⟩:∃i,j=i+1:=⟨j-1,by omega⟩;obtain⟨a,b⟩:=(vT m _ c i (by omega)).1 g;have d:i<=n:=by
  have:=a.length_le;rw[bP,bP] at this;omega
 exact h.2.2 i (by omega) d (by omega) a b
theorem Qh {m:ae}{n:Nat}{c:UInt8}(h:th m n c 0)(k:n<m.length)(l:0<m.length)(f:m[0]≠c):ot m (m.take n++[c]) m.length 0:=by
 refine⟨by omega,by simp,fun j o p g=>?_⟩;obtain⟨i,rfl⟩:∃i,j=i+1:=⟨j-1,by omega⟩;obtain⟨a,b⟩:=(vT m _ c i (by omega)).1 g;have d:i<=n:=by
  have:=a.length_le;rw[bP,bP] at this;omega
 by_cases e:i=0
 . subst e;exact f b
 . exact h.2.2 i (by omega) d (by omega) a b
def fa (m:ae)(n:Nat)(c:UInt8):Nat:=oq m (m.take n++[c]) m.length
theorem GY (m:ae)(n:Nat)(c:UInt8):ot m (m.take n++[c]) m.length (fa m n c):=vS _ _ _
theorem BR (m:ae)(n:Nat)(c:UInt8):fa m n c<=m.length:=GW _ _ _
theorem yg (m:ae)(n:Nat)(c:UInt8):fa m n c<=n+1:=by
 have h:=(GY m n c).2.1.length_le;have a:=BR m n c;simp at h;omega
def ji (m:ae)(n:Nat):Nat:=oq m (m.take n) (n-1)
theorem BS (m:ae)(n:Nat)(h:0<n):ji m n<n:=by have:=GW m (m.take n) (n-1);unfold ji;omega
theorem Qi (m:ae)(n:Nat)(l:0<n)(h:n<m.length):ji m (n+1)=fa m (ji m n) m[n]:=by
 have d:ot m (m.take n) (n-1) (ji m n):=vS _ _ _;have g:=GY m (ji m n) m[n];have o:=yg m (ji m n) m[n];have a:=BS m n l;generalize ji m n=b at *;generalize fa m b m[n]=r at *;show oq m (m.take (n+1)) n=r;refine ot.a ⟨by omega,?_,fun j p q k=>?_⟩
 . rw[BT m n h];refine g.2.1.trans ((GT _ _ _ _).2 ⟨d.2.1,rfl⟩)
 . obtain⟨i,rfl⟩:∃i,j=i+1:=⟨j-1,by omega⟩;rw[BT m n h] at k;obtain⟨c,e⟩:=(vT m _ _ i (by omega)).1 k;have f:i<=b:=by
    refine Nat.le_of_not_lt fun a=>d.2.2 i a (by omega) c
   exact g.2.2 (i+1) p (by omega) ((vT m _ _ i (by omega)).2 ⟨GZ c d.2.1 f,e⟩)
def fp (m:ae)(h:Nat)(c:UInt8):Bool:=decide (0<m.length)&&decide (fa m h c=m.length)
def dE (m:ae)(h:Nat)(c:UInt8):ae:=(m.take h++[c]).take (h+1-fa m h c)
def fZ (m:ae)(h:Nat)(c:UInt8):Nat:=if fp m h c then 0 else fa m h c
theorem Qe {m:ae}{h:Nat}{c:UInt8}(a:fp m h c=true):fa m h c=m.length∧0<m.length:=by grind [fp,fa]
theorem GU {m:ae}{h:Nat}{c:UInt8}(a:fp m h c=true)(b:h<=m.length-1):dE m h c=[]:=by
 obtain⟨d,e⟩:=Qe a;have:=yg m h c;unfold dE;rw[show h+1-fa m h c=0 by omega,List.take_zero]
theorem Qb {m:ae}{h:Nat}{c:UInt8}(a:fa m h c=0):dE m h c=m.take h++[c]:=by
 unfold dE;rw[a];exact jy (by simp;omega)
theorem Qg {m:ae}{h:Nat}{c:UInt8}(a:0<fa m h c)(b:h<=m.length):dE m h c=m.take (h+1-fa m h c):=by grind [fa,dE]
