import Derived.Test.YtodmelffkfbalaaGreatDoorPk8
import Derived.Test.YtodmelffkfbalaaGreatDoorPk3
open Option renaming none->U,some->M
open Go renaming World->X
namespace Go.Proofs.YtodmelffkfbalaaGreatDoor
open Go.RowKit
structure em where
 a:ag
 b:Nat
def dv (u:aL)(s:em):List Value:=[.int .i64 u.c,.int .i64 u.a,.string u.d,.slice s.a u.b.length s.b,.int .i64 u.e]
def dd (us:List (aL×em)):List Value:=us.flatMap fun x=>dv x.1 x.2
theorem ym (a b:List (aL×em)):dd (a++b)=dd a++dd b:=by simp[dd]
theorem SN (u:aL)(s:em):dd [(u,s)]=dv u s:=by simp[dd]
theorem vL (a:List (aL×em)):(dd a).length=a.length*5:=by
 induction a with
 | nil=>rfl
 | cons p t b =>
   have e:(dv p.1 p.2).length=5:=rfl;simp only[dd,ob,aD,bG] at b ⊢;rw[b,e];omega
theorem FK (u:aL)(s:em):∀v∈dv u s,v.oneCell'=true:=by
 intro v a;simp only[dv,fS,List.not_mem_nil,or_false] at a;rcases a with rfl | rfl | rfl | rfl | rfl <;> rfl
theorem oX:∀(a:List (aL×em)) (i:Nat) (b:i<a.length) (j:Nat),j<5->(dd a)[i*5+j]? = (dv a[i].1 a[i].2)[j]?
 | p :: t, 0, _, j, hj => by
   show(dv p.1 p.2++dd t)[0*5+j]? = _;rw[qS (by rw[show(dv p.1 p.2).length=5 from rfl];omega),pJ,ee];rfl
 | p :: t, i + 1, b, j, hj => by
   show(dv p.1 p.2++dd t)[(i+1)*5+j]? = _;rw[qW (by rw[show(dv p.1 p.2).length=5 from rfl];omega),show(dv p.1 p.2).length=5 from rfl,show(i+1)*5+j-5=i*5+j by omega];exact oX t i (by simpa using b) j hj
def qb (w:X)(ao:ag)(cap:Nat)(l:List aL):Prop:=∃us:List (aL×em),us.map (·.1)=l∧bq w ao cap l.length (dd us)∧∀x∈us,aB w x.2.a x.2.b x.1.b
theorem qb.f {w w':X}{ao:ag}{cap:Nat}{l:List aL}(h:qb w ao cap l)(a:Below w.heap.size w w'):qb w' ao cap l:=by
 obtain⟨b,c,d,e⟩:=h;exact⟨b,c,d.a a,fun x f=>(e x f).a a⟩
theorem qb.a {w:X}{ao:ag}{cap:Nat}{l:List aL}(h:qb w ao cap l)(k:Nat)(f:k<l.length):∃(b o:Nat) (s:em),ao=M ⟨b,o,U⟩∧w.cell? ⟨b,o+k*5,U⟩=M (.int .i64 l[k].c)∧w.cell? ⟨b,o+k*5+1,U⟩=M (.int .i64 l[k].a)∧w.cell? ⟨b,o+k*5+2,U⟩=M (.string l[k].d)∧w.cell? ⟨b,o+k*5+3,U⟩=M (.slice s.a l[k].b.length s.b)∧w.cell? ⟨b,o+k*5+4,U⟩=M (.int .i64 l[k].e)∧aB w s.a s.b l[k].b:=by
 obtain⟨c,rfl,g,i⟩:=h;have a:k<c.length:=by simpa using f
 obtain⟨b,o,rfl,d⟩:=g.f (by rw[vL];omega);have j:=i _ (fb a);have e:=oX c k a 0 (by decide);have m:=oX c k a 1 (by decide);have n:=oX c k a 2 (by decide);have p:=oX c k a 3 (by decide);have q:=oX c k a 4 (by decide);refine⟨b,o,c[k].2,rfl,?_,?_,?_,?_,?_,?_⟩
 . rw[eu];exact d _ _ (by rw[mA] at e;exact e)
 . rw[eu,gE];exact d _ _ m
 . rw[eu,gE];exact d _ _ n
 . rw[eu,gE];exact d _ _ p
 . rw[eu,gE];exact d _ _ q
 . rw[eu];exact j
def AD (w:X)(S:Nat->Prop)(tU:Nat)(ao:ag)(cap:Nat)(l:List aL):Prop :=
 ∃us:List (aL×em),us.map (·.1)=l∧aK w 0 tU 5 ao cap l.length (dd us)∧(∀a,ao=M a->S a.block)∧∀x∈us,dL w (fun k=>S k∧aw ao≠M k) x.2.a x.2.b x.1.b
section
variable {w w':X} {S S':Nat->Prop} {tU:Nat} {ao:ag} {cap:Nat} {l:List aL}
theorem AD.f (h:AD w S tU ao cap l):qb w ao cap l:=by
 obtain⟨a,b,c,_,d⟩:=h;exact⟨a,b,c.a,fun x e=>(d x e).b⟩
end
theorem zo:∀(a:List (aL×em)) (i:Nat) (b:i<a.length) (j:Nat) (v:Value) (x:aL×em),j<5->(dv a[i].1 a[i].2).set j v=dv x.1 x.2->(dd a).set (i*5+j) v=dd (a.set i x)
 | p :: t, 0, _, j, v, x, hj, h => by
   show(dv p.1 p.2++dd t).set (0*5+j) v=dv x.1 x.2++dd t;rw[pJ,ee,List.set_append_left _ _ (by rw[show(dv p.1 p.2).length=5 from rfl];exact hj)];exact lL (·++dd t) h
 | p :: t, i + 1, b, j, v, x, hj, h => by
   show(dv p.1 p.2++dd t).set ((i+1)*5+j) v=dv p.1 p.2++dd (t.set i x);rw[sy _ _ (by rw[show(dv p.1 p.2).length=5 from rfl];omega),show(dv p.1 p.2).length=5 from rfl,show(i+1)*5+j-5=i*5+j by omega];exact lL (dv p.1 p.2++·) (zo t i (by simpa using b) j v x hj h)
section
variable {w w1:X} {S N:Nat->Prop} {tU:Nat} {ao:ag} {cap:Nat} {l:List aL}
theorem AD.a (h:AD w S tU ao cap l)(i:Nat)(f:i<l.length):∃g,ao=M ⟨g,0,U⟩∧S g∧l.length<=cap∧∀j,j<5->(∃v,w.cell? ⟨g,i*5+j,U⟩=M v)∧w.frozen? ⟨g,i*5+j,U⟩=false:=by
 obtain⟨a,rfl,b,k,_⟩:=h;have c:i<a.length:=by simpa using f
 obtain⟨g,rfl⟩:∃g,ao=M ⟨g,0,U⟩:=by
  rcases b.2 with ⟨_,h⟩ | ⟨g,cap,m,h,_⟩
  . omega
  . injection h with h _ _;exact⟨g,h⟩
 refine⟨g,rfl,k _ rfl,b.a.1,fun j d=>⟨?_,sK b _⟩⟩;have e:=oX a i c j d;rw[iz (show j<(dv a[i].1 a[i].2).length from d)] at e;exact⟨_,(qZ b (i*5+j) (by omega)).trans e⟩
