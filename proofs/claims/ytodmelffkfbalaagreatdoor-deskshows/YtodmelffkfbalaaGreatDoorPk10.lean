import Derived.Test.YtodmelffkfbalaaGreatDoorPk8
import Derived.Test.YtodmelffkfbalaaGreatDoorPk3
open Option renaming none->U,some->M
open Go renaming World->X
namespace Go.Proofs.YtodmelffkfbalaaGreatDoor
open Go.RowKit
structure eu where
 a:ag
 b:Nat
def du (u:aN)(s:eu):List Value:=[.int .i64 u.c,.int .i64 u.a,.string u.d,.slice s.a u.b.length s.b,.int .i64 u.e]
def da (us:List (aN×eu)):List Value:=us.flatMap fun x=>du x.1 x.2
theorem yl (a b:List (aN×eu)):da (a++b)=da a++da b:=by simp[da]
theorem SQ (u:aN)(s:eu):da [(u,s)]=du u s:=by simp[da]
theorem vM (a:List (aN×eu)):(da a).length=a.length*5:=by
 induction a with
 | nil=>rfl
 | cons p t b =>
   have e:(du p.1 p.2).length=5:=rfl;simp only[da,oi,aD,bF] at b ⊢;rw[b,e];omega
theorem FQ (u:aN)(s:eu):∀v∈du u s,v.oneCell'=true:=by
 intro v a;simp only[du,fS,List.not_mem_nil,or_false] at a;rcases a with rfl | rfl | rfl | rfl | rfl <;> rfl
theorem pd:∀(a:List (aN×eu)) (i:Nat) (b:i<a.length) (j:Nat),j<5->(da a)[i*5+j]? = (du a[i].1 a[i].2)[j]?
 | p :: t, 0, _, j, hj => by
   show(du p.1 p.2++da t)[0*5+j]? = _;rw[qV (by rw[show(du p.1 p.2).length=5 from rfl];omega),qW,eh];rfl
 | p :: t, i + 1, b, j, hj => by
   show(du p.1 p.2++da t)[(i+1)*5+j]? = _;rw[qZ (by rw[show(du p.1 p.2).length=5 from rfl];omega),show(du p.1 p.2).length=5 from rfl,show(i+1)*5+j-5=i*5+j by omega];exact pd t i (by simpa using b) j hj
def qh (w:X)(ao:ag)(cap:Nat)(l:List aN):Prop:=∃us:List (aN×eu),us.map (·.1)=l∧bx w ao cap l.length (da us)∧∀x∈us,az w x.2.a x.2.b x.1.b
theorem qh.e {w w':X}{ao:ag}{cap:Nat}{l:List aN}(h:qh w ao cap l)(a:Below w.heap.size w w'):qh w' ao cap l:=by
 obtain⟨b,c,d,e⟩:=h;exact⟨b,c,d.a a,fun x f=>(e x f).a a⟩
theorem qh.a {w:X}{ao:ag}{cap:Nat}{l:List aN}(h:qh w ao cap l)(k:Nat)(f:k<l.length):∃(b o:Nat) (s:eu),ao=M ⟨b,o,U⟩∧w.cell? ⟨b,o+k*5,U⟩=M (.int .i64 l[k].c)∧w.cell? ⟨b,o+k*5+1,U⟩=M (.int .i64 l[k].a)∧w.cell? ⟨b,o+k*5+2,U⟩=M (.string l[k].d)∧w.cell? ⟨b,o+k*5+3,U⟩=M (.slice s.a l[k].b.length s.b)∧w.cell? ⟨b,o+k*5+4,U⟩=M (.int .i64 l[k].e)∧az w s.a s.b l[k].b:=by
 obtain⟨c,rfl,g,i⟩:=h;have a:k<c.length:=by simpa using f
 obtain⟨b,o,rfl,d⟩:=g.f (by rw[vM];omega);have j:=i _ (eX a);have e:=pd c k a 0 (by decide);have m:=pd c k a 1 (by decide);have n:=pd c k a 2 (by decide);have p:=pd c k a 3 (by decide);have q:=pd c k a 4 (by decide);refine⟨b,o,c[k].2,rfl,?_,?_,?_,?_,?_,?_⟩
 . rw[ej];exact d _ _ (by rw[mA] at e;exact e)
 . rw[ej,gE];exact d _ _ m
 . rw[ej,gE];exact d _ _ n
 . rw[ej,gE];exact d _ _ p
 . rw[ej,gE];exact d _ _ q
 . rw[ej];exact j
def AD (w:X)(S:Nat->Prop)(tU:Nat)(ao:ag)(cap:Nat)(l:List aN):Prop :=
 ∃us:List (aN×eu),us.map (·.1)=l∧aL w 0 tU 5 ao cap l.length (da us)∧(∀a,ao=M a->S a.block)∧∀x∈us,dM w (fun k=>S k∧aw ao≠M k) x.2.a x.2.b x.1.b
section
variable {w w':X} {S S':Nat->Prop} {tU:Nat} {ao:ag} {cap:Nat} {l:List aN}
theorem AD.e (h:AD w S tU ao cap l):qh w ao cap l:=by
 obtain⟨a,b,c,_,d⟩:=h;exact⟨a,b,c.a,fun x e=>(d x e).b⟩
end
theorem zj:∀(a:List (aN×eu)) (i:Nat) (b:i<a.length) (j:Nat) (v:Value) (x:aN×eu),j<5->(du a[i].1 a[i].2).set j v=du x.1 x.2->(da a).set (i*5+j) v=da (a.set i x)
 | p :: t, 0, _, j, v, x, hj, h => by
   show(du p.1 p.2++da t).set (0*5+j) v=du x.1 x.2++da t;rw[qW,eh,List.set_append_left _ _ (by rw[show(du p.1 p.2).length=5 from rfl];exact hj)];exact lL (·++da t) h
 | p :: t, i + 1, b, j, v, x, hj, h => by
   show(du p.1 p.2++da t).set ((i+1)*5+j) v=du p.1 p.2++da (t.set i x);rw[sD _ _ (by rw[show(du p.1 p.2).length=5 from rfl];omega),show(du p.1 p.2).length=5 from rfl,show(i+1)*5+j-5=i*5+j by omega];exact lL (du p.1 p.2++·) (zj t i (by simpa using b) j v x hj h)
section
variable {w w1:X} {S N:Nat->Prop} {tU:Nat} {ao:ag} {cap:Nat} {l:List aN}
theorem AD.a (h:AD w S tU ao cap l)(i:Nat)(f:i<l.length):∃g,ao=M ⟨g,0,U⟩∧S g∧l.length<=cap∧∀j,j<5->(∃v,w.cell? ⟨g,i*5+j,U⟩=M v)∧w.frozen? ⟨g,i*5+j,U⟩=false:=by
 obtain⟨a,rfl,b,k,_⟩:=h;have c:i<a.length:=by simpa using f
 obtain⟨g,rfl⟩:∃g,ao=M ⟨g,0,U⟩:=by
  rcases b.2 with ⟨_,h⟩ | ⟨g,cap,m,h,_⟩
  . omega
  . injection h with h _ _;exact⟨g,h⟩
 refine⟨g,rfl,k _ rfl,b.a.1,fun j d=>⟨?_,sO b _⟩⟩;have e:=pd a i c j d;rw[iA (show j<(du a[i].1 a[i].2).length from d)] at e;exact⟨_,(rh b (i*5+j) (by omega)).trans e⟩
