import Derived.Test.YtodmelffkfbalaaGreatDoorAl
import Derived.WalkKit
open Option renaming none->U,some->M
open Bool renaming false->F
namespace Go.Proofs.YtodmelffkfbalaaGreatDoor
def bS (m:Nat):ab:=if h:m<128 then [UInt8.ofNat m] else UInt8.ofNat (m % 128+128)::bS (m / 128)
termination_by m
decreasing_by omega
theorem up {m:Nat}(h:m<128):bS m=[UInt8.ofNat m]:=by rw[bS,dif_pos h]
theorem xe {m:Nat}(h:¬m<128):bS m=UInt8.ofNat (m % 128+128)::bS (m / 128):=by rw[bS,dif_neg h]
theorem As (m:Nat):0<(bS m).length:=by
 rw[bS];split <;> simp
theorem rR {k:Nat}(h:k<256):(UInt8.ofNat k).toNat=k:=by simp;omega
theorem xc:∀(k m:Nat),m<128 ^ (k+1)->(bS m).length<=k+1:=by intro l;induction l <;> grind [bS]
def fr:Nat->Bool->ab->Option (Nat×Nat)
 | 0,_,_=>U
 | _+1,_,[]=>U
 | k+1,f,c::r=>if c.toNat<128 then (if c.toNat=0∧f=F then U else M (c.toNat,1)) else (fr k F r).map fun p=>(c.toNat % 128+128*p.1,p.2+1)
def kb (b:ab):Option (Nat×Nat):=fr 5 true b
theorem LN (k:Nat)(f:Bool):fr k f []=U:=by cases k <;> rfl
theorem LT:∀(k:Nat) (f:Bool) (b:ab) (m s:Nat),fr k f b=M (m,s)->0<s∧s<=b.length∧s<=k∧m<128 ^ k:=by
 intro k;induction k with
 | zero=>intro f b m s h;simp[fr] at h
 | succ k d =>
   intro f b m s h;cases b with
   | nil=>simp[fr] at h
   | cons c r =>
     rw[fr] at h;split at h
     . rename_i e;split at h
       . simp at h
       . simp only[jq,Prod.mk.injEq] at h;obtain⟨rfl,rfl⟩:=h;refine⟨by omega,by simp,by omega,?_⟩;have:1<=128 ^ k:=Nat.one_le_pow _ _ (by decide);rw[Nat.pow_succ];omega
     . cases a:fr k F r with
       | none=>rw[a] at h;simp at h
       | some p =>
         rw[a] at h;obtain⟨g,i⟩:=p;simp only[Option.map_some,jq,Prod.mk.injEq] at h;obtain⟨rfl,rfl⟩:=h;have j:=d _ _ _ _ a;refine⟨by omega,by simp;omega,by omega,?_⟩;rw[Nat.pow_succ];omega
theorem LW {b:ab}{m s:Nat}(h:kb b=M (m,s)):0<s∧s<=b.length∧s<=5∧m<34359738368:=LT 5 true b m s h
theorem LO:∀(k m:Nat) (f:Bool) (r:ab),m<128 ^ (k+1)->(m=0->f=true)->fr (k+1) f (bS m++r)=M (m,(bS m).length):=by
 intro k;induction k with
 | zero =>
   intro m f r h d;have a:m<128:=by simpa using h
   rw[up a];simp only[gd,kX,fr,bG,iv];rw[rR (by omega),if_pos a,if_neg];intro ⟨b,c⟩;have:=d b;rw[this] at c;cases c
 | succ k g =>
   intro m f r h d;by_cases a:m<128
   . rw[up a];simp only[gd,kX,fr,bG,iv];rw[rR (by omega),if_pos a,if_neg];intro ⟨b,c⟩;have:=d b;rw[this] at c;cases c
   . rw[xe a];have b:m / 128<128 ^ (k+1):=by rw[Nat.div_lt_iff_lt_mul (by decide)];rw[Nat.pow_succ] at h;exact h
     rw[gd,fr,rR (by omega),if_neg (by omega),g _ F r b (fun e=>by omega)];simp only[Option.map_some,bG];congr 2;omega
theorem Au {m:Nat}(h:m<34359738368)(r:ab):kb (bS m++r)=M (m,(bS m).length):=LO 4 m true r h (fun _=>rfl)
theorem LP:∀(k m:Nat) (f:Bool) (j:Nat),j<(bS m).length->fr k f ((bS m).take j)=U:=by
 intro k;induction k with
 | zero=>intros;rfl
 | succ k c =>
   intro m f j a;cases j with
   | zero=>rfl
   | succ j =>
     by_cases b:m<128
     . rw[up b] at a;simp at a
     . rw[xe b] at a ⊢;rw[List.take_succ_cons,fr,rR (by omega),if_neg (by omega),c _ _ _ (by simpa using a)];rfl
theorem LU {m j:Nat}(h:j<(bS m).length):kb ((bS m).take j)=U:=LP 5 m true j h
theorem LL:∀(k:Nat) (f:Bool) (b:ab) (m s:Nat),fr k f b=M (m,s)->b.take s=bS m∧(m=0->f=true):=by
 intro k;induction k with
 | zero=>intro f b m s h;simp[fr] at h
 | succ k g =>
   intro f b m s h;cases b with
   | nil=>simp[fr] at h
   | cons c r =>
     rw[fr] at h;split at h
     . rename_i d;split at h
       . simp at h
       . rename_i i;simp only[jq,Prod.mk.injEq] at h;obtain⟨rfl,rfl⟩:=h;refine⟨?_,fun e=>?_⟩
         . rw[up d];simp
         . cases f
           . exact absurd ⟨e,rfl⟩ i
           . rfl
     . cases a:fr k F r with
       | none=>rw[a] at h;simp at h
       | some p =>
         rw[a] at h;obtain⟨j,o⟩:=p;simp only[Option.map_some,jq,Prod.mk.injEq] at h;obtain⟨rfl,rfl⟩:=h;obtain⟨l,n⟩:=g _ _ _ _ a;have q:j≠0:=fun e=>by have:=n e;cases this
         have d:=c.toNat_lt;refine⟨?_,fun e=>by omega⟩;rw[xe (by omega),List.take_succ_cons,l];congr 1
         . apply lN.1;rw[rR (by omega)];omega
         . congr 1;omega
theorem LQ {b:ab}{m s:Nat}(h:kb b=M (m,s)):b.take s=bS m:=(LL 5 true b m s h).1
theorem Av (b:ab)(i:Nat)(d:i<5)(c:i<b.length)(k:Nat)(e:k=5-i)(f:Bool):fr k f (b.drop i)=if b[i].toNat<128 then (if b[i].toNat=0∧f=F then U else M (b[i].toNat,1)) else (fr (5-(i+1)) F (b.drop (i+1))).map fun p=>(b[i].toNat % 128+128*p.1,p.2+1):=by
 obtain⟨a,rfl⟩:∃a,k=a+1:=⟨5-(i+1),by omega⟩;rw[kt c,fr];have:a=5-(i+1):=by omega
 rw[this]
structure aH where
 b:Int
 a:Int
 n:Int
 c:ab
def df (e:aH):Bool:=decide (1<=e.b)&&decide (e.b<=6)&&decide (-1<=e.a)&&decide (e.a<=1073741823)&&decide (-1<=e.n)&&decide (e.n<=1073741823)&&decide (e.c.length<=1048575)
theorem uq (e:aH):df e=true<->(1<=e.b∧e.b<=6)∧(-1<=e.a∧e.a<=1073741823)∧(-1<=e.n∧e.n<=1073741823)∧e.c.length<=1048575:=by grind [df]
def ik (x:Int):ab:=bS (x+1).toNat
def ka (e:aH):ab:=ik e.b++ik e.a++ik e.n
def dQ (e:aH):ab:=ka e++e.c
def aW (e:aH):ab:=bS ((dQ e).length+1)++dQ e
theorem LV {x:Int}(h:x<=1073741823):(ik x).length<=5∧0<(ik x).length:=⟨xc 4 _ (by omega),As _⟩
theorem EC {e:aH}(h:df e=true):(ka e).length<=15:=by grind [df,ka,uq,LV]
theorem nO {e:aH}(h:df e=true):(dQ e).length<=1048590:=by grind [df,dQ,EC,uq]
theorem rS {e:aH}(h:df e=true):(aW e).length<=(dQ e).length+5:=by
 have:=nO h;have:=xc 4 ((dQ e).length+1) (by omega);simp only[aW,aD];omega
theorem EE (e:aH):0<(aW e).length:=by
 have:=As ((dQ e).length+1);simp only[aW,aD];omega
def dm (b:ab):Option (Int×Nat):=(kb b).map fun p=>((p.1:Int)-1,p.2)
theorem Aw {x:Int}(a:-1<=x)(b:x<=1073741823)(r:ab):dm (ik x++r)=M (x,(ik x).length):=by grind [dm,ik,Au]
theorem xb {b:ab}{x:Int}{s:Nat}(h:dm b=M (x,s)):0<s∧s<=b.length∧s<=5∧-1<=x∧x<34359738368:=by
 unfold dm at h;cases a:kb b with
 | none=>rw[a] at h;simp at h
 | some p =>
   rw[a] at h;obtain⟨m,c⟩:=p;simp only[Option.map_some,jq,Prod.mk.injEq] at h;obtain⟨rfl,rfl⟩:=h;have:=LW a;omega
theorem xa {b:ab}{x:Int}{s:Nat}(h:dm b=M (x,s)):b.take s=ik x:=by
 unfold dm at h;cases a:kb b with
 | none=>rw[a] at h;simp at h
 | some p =>
   rw[a] at h;obtain⟨m,c⟩:=p;simp only[Option.map_some,jq,Prod.mk.injEq] at h;obtain⟨rfl,rfl⟩:=h;rw[LQ a];unfold ik;congr 1;omega
def iK (b:ab):Option aH :=
 match dm b with
 | none=>U
 | some (x, s) =>
   match dm (b.drop s) with
   | none=>U
   | some (y, t) =>
     match dm ((b.drop s).drop t) with
     | none=>U
     | some (z,u)=>if df ⟨x,y,z,((b.drop s).drop t).drop u⟩=true then M ⟨x,y,z,((b.drop s).drop t).drop u⟩ else U
def ex (b:ab):Option (aH×Nat) :=
 match dm b with
 | none=>U
 | some (x,s)=>if 0<=x∧x<=(b.length:Int)-s then (iK ((b.drop s).take x.toNat)).map fun e=>(e,s+x.toNat) else U
theorem xd {b:ab}{e:aH}{s:Nat}(h:ex b=M (e,s)):0<s∧s<=b.length:=by
 unfold ex at h;cases a:dm b with
 | none=>rw[a] at h;simp at h
 | some p =>
   rw[a] at h;obtain⟨x,d⟩:=p;simp only at h;split at h
   . cases c:iK ((b.drop d).take x.toNat) with
     | none=>rw[c] at h;simp at h
     | some f =>
       rw[c] at h;simp only[Option.map_some,jq,Prod.mk.injEq] at h;have:=xb a;omega
   . simp at h
def ch (b:ab):List aH×Nat :=
 match _h:ex b with
 | none=>([],0)
 | some (e,s)=>(e::(ch (b.drop s)).1,s+(ch (b.drop s)).2)
termination_by b.length
decreasing_by
 all_goals
  have:=xd _h
  rw[cO];omega
theorem ur {b:ab}(h:ex b=U):ch b=([],0):=by
 rw[ch];split
 . rfl
 . rename_i a;rw[h] at a;cases a
theorem Ao {b:ab}{e:aH}{s:Nat}(h:ex b=M (e,s)):ch b=(e::(ch (b.drop s)).1,s+(ch (b.drop s)).2):=by grind [ex,ch]
theorem LJ {b:ab}(h:b.length=0):dm b=U:=by
 have:b=[]:=ix h;subst this;rfl
theorem LK {e:aH}(h:df e=true):iK (dQ e)=M e:=by
 obtain⟨d,a,b,f⟩:=(uq e).1 h;have c:dQ e=ik e.b++(ik e.a++(ik e.n++e.c)):=by simp[dQ,ka,List.append_assoc]
 unfold iK;rw[c,Aw (by omega) (by omega)];simp only[List.drop_left];rw[Aw a.1 a.2];simp only[List.drop_left];rw[Aw b.1 b.2];simp only[List.drop_left];rw[if_pos h]
theorem LI {b:ab}{e:aH}(h:iK b=M e):dQ e=b∧df e=true:=by
 unfold iK at h;cases a:dm b with
 | none=>rw[a] at h;simp at h
 | some p =>
   obtain⟨x,s⟩:=p;rw[a] at h;simp only at h;cases c:dm (b.drop s) with
   | none=>rw[c] at h;simp at h
   | some p =>
     obtain⟨y,t⟩:=p;rw[c] at h;simp only at h;cases d:dm ((b.drop s).drop t) with
     | none=>rw[d] at h;simp at h
     | some p =>
       obtain⟨z,u⟩:=p;rw[d] at h;simp only at h;split at h
       . rename_i f;injection h with h;subst h;refine⟨?_,f⟩;simp only[dQ,ka];rw[<-xa a,<-xa c,<-xa d,iY,iY,iN,iN,iN]
       . simp at h
theorem LR {e:aH}(h:df e=true)(r:ab):ex (aW e++r)=M (e,(aW e).length):=by
 have c:=nO h;have a:aW e++r=bS ((dQ e).length+1)++(dQ e++r):=by simp[aW,List.append_assoc]
 have b:dm (bS ((dQ e).length+1)++(dQ e++r))=M (((dQ e).length:Int),(bS ((dQ e).length+1)).length):=by
  unfold dm;rw[Au (by omega)];simp only[Option.map_some];congr 2;omega
 unfold ex;rw[a,b];simp only[List.drop_left];rw[if_pos ⟨by omega,by simp only[aD];omega⟩];rw[Int.toNat_natCast,List.take_left,LK h];simp[aW]
theorem LM {b:ab}{e:aH}{s:Nat}(h:ex b=M (e,s)):b.take s=aW e∧df e=true:=by
 unfold ex at h;cases a:dm b with
 | none=>rw[a] at h;simp at h
 | some p =>
   obtain⟨x,k⟩:=p;rw[a] at h;simp only at h;split at h
   . rename_i l;cases c:iK ((b.drop k).take x.toNat) with
     | none=>rw[c] at h;simp at h
     | some g =>
       rw[c] at h;simp only[Option.map_some,jq,Prod.mk.injEq] at h;obtain⟨rfl,rfl⟩:=h;obtain⟨d,i⟩:=LI c;refine⟨?_,i⟩;have j:=xb a;have f:(dQ g).length=x.toNat:=by rw[d,bU,cO];omega
       rw[List.take_add,xa a,<-d];unfold aW ik;congr 2;omega
   . simp at h
theorem LS {e:aH}(h:df e=true){j:Nat}(g:j<(aW e).length):ex ((aW e).take j)=U:=by
 have i:=nO h;by_cases b:j<(bS ((dQ e).length+1)).length
 . have a:(aW e).take j=(bS ((dQ e).length+1)).take j:=by
    unfold aW;rw[List.take_append_of_le_length (by omega)]
   unfold ex dm;rw[a,LU b];rfl
 . have a:(aW e).take j=bS ((dQ e).length+1)++(dQ e).take (j-(bS ((dQ e).length+1)).length):=by
    unfold aW;rw[List.take_append,gF (by omega)]
   have c:∀r,dm (bS ((dQ e).length+1)++r)=M (((dQ e).length:Int),(bS ((dQ e).length+1)).length):=fun r=>by
    unfold dm;rw[Au (by omega)];simp only[Option.map_some];congr 2;omega
   unfold ex;rw[a,c];simp only;rw[if_neg];intro ⟨_,d⟩;have f:(bS ((dQ e).length+1)).length+(dQ e).length=(aW e).length:=by simp[aW]
   rw[aD,bU] at d;omega
theorem EF:ex []=U:=by
 unfold ex;rw[LJ rfl]
theorem Ar:∀(N:Nat) (b:ab),b.length<=N->(∀e∈(ch b).1,df e=true)∧(ch b).2<=b.length∧((ch b).1.map aW).flatten=b.take (ch b).2∧(ch b).1.length<=(ch b).2:=by
 intro N;induction N with
 | zero =>
   intro b h;have:b=[]:=ix (by omega);subst this;rw[ur EF];simp
 | succ N d =>
   intro b h;cases a:ex b with
   | none=>rw[ur a];simp
   | some p =>
     obtain⟨e,s⟩:=p;rw[Ao a];have f:=xd a;obtain⟨g,i⟩:=LM a;obtain⟨j,k,l,m⟩:=d (b.drop s) (by rw[cO];omega);rw[cO] at k;refine⟨fun x c=>?_,by simp only;omega,?_,by simp only[bG];omega⟩
     . rcases fS.1 c with rfl | c
       . exact i
       . exact j x c
     . simp only[List.map_cons,List.flatten_cons];rw[l,List.take_add,g]
def iT:List aH->Nat->Nat
 | [],_=>0
 | e::t,k=>if (aW e).length<=k then iT t (k-(aW e).length)+1 else 0
def fG (l:List aH):ab:=(l.map aW).flatten
theorem Ay (e:aH)(t:List aH):fG (e::t)=aW e++fG t:=rfl
theorem EG (a b:List aH):fG (a++b)=fG a++fG b:=by simp[fG]
theorem ED:∀(l:List aH) (k:Nat),iT l k<=l.length:=by intro l;induction l <;> grind [iT]
theorem At:∀(l:List aH) (k:Nat),(∀e∈l,df e=true)->ch ((fG l).take k)=(l.take (iT l k),(fG (l.take (iT l k))).length)
 | [],k,_=>by simp[fG,iT,ur EF]
 | e :: t, k, hf => by
   have a:=hf e (lM ..);rw[Ay];unfold iT;split
   . rename_i b;have c:(aW e++fG t).take k=aW e++(fG t).take (k-(aW e).length):=by
      rw[List.take_append,gF b]
     rw[c,Ao (LR a _),List.drop_left,At t _ (fun x d=>hf x (iw _ d))];simp only[List.take_succ_cons,Ay,aD]
   . rename_i b;rw[List.take_append_of_le_length (by omega),ur (LS a (by omega))];simp[fG]
def Ax (l:List aH)(i:Nat):Nat:=(fG (l.take (i+1))).length
theorem EB:∀(l:List aH) (k i:Nat),i<l.length->(Ax l i<=k<->i<iT l k)
 | [],k,i,a=>by simp at a
 | e :: t, k, i, a => by
   have c:=EE e;unfold iT Ax;rw[List.take_succ_cons,Ay,aD];split
   . rename_i b;cases i with
     | zero=>simp[fG];omega
     | succ i =>
       have:=EB t (k-(aW e).length) i (by simpa using a);unfold Ax at this;constructor
       . intro h;have:=this.1 (by omega);omega
       . intro h;have:=this.2 (by omega);omega
   . rename_i b;constructor
     . intro h;omega
     . intro h;omega
structure Pw where
 a:Int
 b:Int
 n:Int
 c:ae
def nR (m x:ab):Nat->Nat
 | 0=>0
 | k+1=>if m.take (k+1) <:+ x then k+1 else nR m x k
def nS (m x:ab)(b r:Nat):Prop:=r<=b∧m.take r <:+ x∧∀k,r<k->k<=b->¬m.take k <:+ x
theorem uP (m x:ab):∀b,nS m x b (nR m x b):=by intro l;induction l <;> grind [nS,nR]
theorem nS.f {m x:ab}{b r r':Nat}(h:nS m x b r)(a:nS m x b r'):r=r':=by grind [nS]
theorem nS.a {m x:ab}{b r:Nat}(h:nS m x b r):nR m x b=r:=(uP m x b).f h
theorem Gt (m x:ab)(b:Nat):nR m x b<=b:=(uP m x b).1
theorem Bd (m:ab)(j:Nat)(h:j<m.length):m.take (j+1)=m.take j++[m[j]]:=fR h
theorem Gr (t x:ab)(a c:UInt8):t++[a] <:+ x++[c]<->t <:+ x∧a=c:=by
 constructor
 . rintro ⟨y,b⟩;rw[<-iY] at b;obtain⟨d,e⟩:=vg b rfl;exact⟨⟨y,d⟩,by simpa using e⟩
 . rintro ⟨⟨y,b⟩,rfl⟩;exact⟨y,by rw[<-iY,b]⟩
theorem uO (m x:ab)(c:UInt8)(j:Nat)(h:j<m.length):m.take (j+1) <:+ x++[c]<->m.take j <:+ x∧m[j]=c:=by
 rw[Bd m j h,Gr]
theorem Gv {m x:ab}{j k:Nat}(a:m.take j <:+ x)(b:m.take k <:+ x)(h:j<=k):m.take j <:+ m.take k :=
 List.suffix_of_suffix_length_le a b (by rw[bU,bU];omega)
def sg (m:ab)(n:Nat)(c:UInt8)(k:Nat):Prop :=
 k<=n∧m.take k <:+ m.take n∧∀j,k<j->j<=n->(hj:j<m.length)->m.take j <:+ m.take n->m[j]≠c
theorem OW (m:ab)(n:Nat)(c:UInt8):sg m n c n:=⟨ak _,List.suffix_refl _,fun j a b=>by omega⟩
theorem OX {m:ab}{n k:Nat}{c:UInt8}(h:sg m n c k)(o:k<m.length)(p:0<k)(d:m[k]≠c):sg m n c (nR m (m.take k) (k-1)):=by
 have a:=uP m (m.take k) (k-1);generalize nR m (m.take k) (k-1)=r at a;refine⟨by have:=a.1;have:=h.1;omega,a.2.1.trans h.2.1,fun j f i l b=>?_⟩;by_cases e:j=k
 . subst e;exact d
 . by_cases g:k<j
   . exact h.2.2 j g i l b
   . exact absurd (Gv b h.2.1 (by omega)) (a.2.2 j f (by omega))
theorem OZ {m:ab}{n k:Nat}{c:UInt8}(h:sg m n c k)(l:n<m.length)(e:k<m.length)(f:m[k]=c):nS m (m.take n++[c]) m.length (k+1):=by
 refine⟨by omega,(uO m _ c k e).2 ⟨h.2.1,f⟩,fun j o p g=>?_⟩;obtain⟨i,rfl⟩:∃i,j=i+1:=⟨j-1,by omega⟩;obtain⟨a,b⟩:=(uO m _ c i (by omega)).1 g;have d:i<=n:=by
  have:=a.length_le;rw[bU,bU] at this;omega
 exact h.2.2 i (by omega) d (by omega) a b
theorem O2 {m:ab}{n:Nat}{c:UInt8}(h:sg m n c 0)(k:n<m.length)(l:0<m.length)(f:m[0]≠c):nS m (m.take n++[c]) m.length 0:=by
 refine⟨by omega,by simp,fun j o p g=>?_⟩;obtain⟨i,rfl⟩:∃i,j=i+1:=⟨j-1,by omega⟩;obtain⟨a,b⟩:=(uO m _ c i (by omega)).1 g;have d:i<=n:=by
  have:=a.length_le;rw[bU,bU] at this;omega
 by_cases e:i=0
 . subst e;exact f b
 . exact h.2.2 i (by omega) d (by omega) a b
def ez (m:ab)(n:Nat)(c:UInt8):Nat:=nR m (m.take n++[c]) m.length
theorem Gu (m:ab)(n:Nat)(c:UInt8):nS m (m.take n++[c]) m.length (ez m n c):=uP _ _ _
theorem Ba (m:ab)(n:Nat)(c:UInt8):ez m n c<=m.length:=Gt _ _ _
theorem xF (m:ab)(n:Nat)(c:UInt8):ez m n c<=n+1:=by
 have h:=(Gu m n c).2.1.length_le;have a:=Ba m n c;simp at h;omega
def iV (m:ab)(n:Nat):Nat:=nR m (m.take n) (n-1)
theorem Bb (m:ab)(n:Nat)(h:0<n):iV m n<n:=by have:=Gt m (m.take n) (n-1);unfold iV;omega
theorem O3 (m:ab)(n:Nat)(l:0<n)(h:n<m.length):iV m (n+1)=ez m (iV m n) m[n]:=by
 have d:nS m (m.take n) (n-1) (iV m n):=uP _ _ _;have g:=Gu m (iV m n) m[n];have o:=xF m (iV m n) m[n];have a:=Bb m n l;generalize iV m n=b at *;generalize ez m b m[n]=r at *;show nR m (m.take (n+1)) n=r;refine nS.a ⟨by omega,?_,fun j p q k=>?_⟩
 . rw[Bd m n h];refine g.2.1.trans ((Gr _ _ _ _).2 ⟨d.2.1,rfl⟩)
 . obtain⟨i,rfl⟩:∃i,j=i+1:=⟨j-1,by omega⟩;rw[Bd m n h] at k;obtain⟨c,e⟩:=(uO m _ _ i (by omega)).1 k;have f:i<=b:=by
    refine Nat.le_of_not_lt fun a=>d.2.2 i a (by omega) c
   exact g.2.2 (i+1) p (by omega) ((uO m _ _ i (by omega)).2 ⟨Gv c d.2.1 f,e⟩)
def eK (m:ab)(h:Nat)(c:UInt8):Bool:=decide (0<m.length)&&decide (ez m h c=m.length)
def dE (m:ab)(h:Nat)(c:UInt8):ab:=(m.take h++[c]).take (h+1-ez m h c)
def fJ (m:ab)(h:Nat)(c:UInt8):Nat:=if eK m h c then 0 else ez m h c
theorem OY {m:ab}{h:Nat}{c:UInt8}(a:eK m h c=true):ez m h c=m.length∧0<m.length:=by grind [eK,ez]
theorem Gs {m:ab}{h:Nat}{c:UInt8}(a:eK m h c=true)(b:h<=m.length-1):dE m h c=[]:=by
 obtain⟨d,e⟩:=OY a;have:=xF m h c;unfold dE;rw[show h+1-ez m h c=0 by omega,List.take_zero]
theorem OV {m:ab}{h:Nat}{c:UInt8}(a:ez m h c=0):dE m h c=m.take h++[c]:=by
 unfold dE;rw[a];exact gF (by simp;omega)
theorem O0 {m:ab}{h:Nat}{c:UInt8}(a:0<ez m h c)(b:h<=m.length):dE m h c=m.take (h+1-ez m h c):=by grind [ez,dE]
