import Derived.Test.YtmbghcpcbdjfoaaGreatDoorPk8
import Derived.Test.YtmbghcpcbdjfoaaGreatDoorPk3
open Option renaming none->U,some->M
open Go renaming World->X
namespace Go.Proofs.YtmbghcpcbdjfoaaGreatDoor
open Go.RowKit
structure eJ where
 a:ai
 b:Nat
def du (u:aL)(s:eJ):List Value:=[.int .i64 u.b,.int .i64 u.c,.string u.d,.slice s.a u.a.length s.b,.int .i64 u.e]
def de (us:List (aL×eJ)):List Value:=us.flatMap fun x=>du x.1 x.2
theorem zd (a b:List (aL×eJ)):de (a++b)=de a++de b:=by simp[de]
theorem T8 (u:aL)(s:eJ):de [(u,s)]=du u s:=by simp[de]
theorem wO (a:List (aL×eJ)):(de a).length=a.length*5:=by
 induction a with
 | nil=>rfl
 | cons p t b =>
   have e:(du p.1 p.2).length=5:=rfl;simp only[de,oA,aF,bO] at b ⊢;rw[b,e];omega
theorem Hx (u:aL)(s:eJ):∀v∈du u s,v.oneCell'=true:=by
 intro v a;simp only[du,fr,List.not_mem_nil,or_false] at a;rcases a with rfl | rfl | rfl | rfl | rfl <;> rfl
theorem py:∀(a:List (aL×eJ)) (i:Nat) (b:i<a.length) (j:Nat),j<5->(de a)[i*5+j]? = (du a[i].1 a[i].2)[j]?
 | p :: t, 0, _, j, hj => by
   show(du p.1 p.2++de t)[0*5+j]? = _;rw[ql (by rw[show(du p.1 p.2).length=5 from rfl];omega),pj,dV];rfl
 | p :: t, i + 1, b, j, hj => by
   show(du p.1 p.2++de t)[(i+1)*5+j]? = _;rw[qq (by rw[show(du p.1 p.2).length=5 from rfl];omega),show(du p.1 p.2).length=5 from rfl,show(i+1)*5+j-5=i*5+j by omega];exact py t i (by simpa using b) j hj
def qP (w:X)(ao:ai)(cap:Nat)(l:List aL):Prop:=∃us:List (aL×eJ),us.map (·.1)=l∧bx w ao cap l.length (de us)∧∀x∈us,ay w x.2.a x.2.b x.1.a
theorem qP.a {w w':X}{ao:ai}{cap:Nat}{l:List aL}(h:qP w ao cap l)(a:Below w.heap.size w w'):qP w' ao cap l:=by
 obtain⟨b,c,d,e⟩:=h;exact⟨b,c,d.a a,fun x f=>(e x f).a a⟩
theorem qP.d {w:X}{ao:ai}{cap:Nat}{l:List aL}(h:qP w ao cap l)(k:Nat)(f:k<l.length):∃(b o:Nat) (s:eJ),ao=M ⟨b,o,U⟩∧w.cell? ⟨b,o+k*5,U⟩=M (.int .i64 l[k].b)∧w.cell? ⟨b,o+k*5+1,U⟩=M (.int .i64 l[k].c)∧w.cell? ⟨b,o+k*5+2,U⟩=M (.string l[k].d)∧w.cell? ⟨b,o+k*5+3,U⟩=M (.slice s.a l[k].a.length s.b)∧w.cell? ⟨b,o+k*5+4,U⟩=M (.int .i64 l[k].e)∧ay w s.a s.b l[k].a:=by
 obtain⟨c,rfl,g,i⟩:=h;have a:k<c.length:=by simpa using f
 obtain⟨b,o,rfl,d⟩:=g.e (by rw[wO];omega);have j:=i _ (dG a);have e:=py c k a 0 (by decide);have m:=py c k a 1 (by decide);have n:=py c k a 2 (by decide);have p:=py c k a 3 (by decide);have q:=py c k a 4 (by decide);refine⟨b,o,c[k].2,rfl,?_,?_,?_,?_,?_,?_⟩
 . rw[dH];exact d _ _ (by rw[lC] at e;exact e)
 . rw[dH,fC];exact d _ _ m
 . rw[dH,fC];exact d _ _ n
 . rw[dH,fC];exact d _ _ p
 . rw[dH,fC];exact d _ _ q
 . rw[dH];exact j
def A7 (w:X)(S:Nat->Prop)(tU:Nat)(ao:ai)(cap:Nat)(l:List aL):Prop :=
 ∃us:List (aL×eJ),us.map (·.1)=l∧aG w 0 tU 5 ao cap l.length (de us)∧(∀a,ao=M a->S a.block)∧∀x∈us,dO w (fun k=>S k∧au ao≠M k) x.2.a x.2.b x.1.a
section
variable {w w':X} {S S':Nat->Prop} {tU:Nat} {ao:ai} {cap:Nat} {l:List aL}
theorem A7.d (h:A7 w S tU ao cap l):qP w ao cap l:=by
 obtain⟨a,b,c,_,d⟩:=h;exact⟨a,b,c.a,fun x e=>(d x e).b⟩
end
theorem Al:∀(a:List (aL×eJ)) (i:Nat) (b:i<a.length) (j:Nat) (v:Value) (x:aL×eJ),j<5->(du a[i].1 a[i].2).set j v=du x.1 x.2->(de a).set (i*5+j) v=de (a.set i x)
 | p :: t, 0, _, j, v, x, hj, h => by
   show(du p.1 p.2++de t).set (0*5+j) v=du x.1 x.2++de t;rw[pj,dV,List.set_append_left _ _ (by rw[show(du p.1 p.2).length=5 from rfl];exact hj)];exact mg (·++de t) h
 | p :: t, i + 1, b, j, v, x, hj, h => by
   show(du p.1 p.2++de t).set ((i+1)*5+j) v=du p.1 p.2++de (t.set i x);rw[tC _ _ (by rw[show(du p.1 p.2).length=5 from rfl];omega),show(du p.1 p.2).length=5 from rfl,show(i+1)*5+j-5=i*5+j by omega];exact mg (du p.1 p.2++·) (Al t i (by simpa using b) j v x hj h)
section
variable {w w1:X} {S N:Nat->Prop} {tU:Nat} {ao:ai} {cap:Nat} {l:List aL}
theorem A7.a (h:A7 w S tU ao cap l)(i:Nat)(f:i<l.length):∃g,ao=M ⟨g,0,U⟩∧S g∧l.length<=cap∧∀j,j<5->(∃v,w.cell? ⟨g,i*5+j,U⟩=M v)∧w.frozen? ⟨g,i*5+j,U⟩=false:=by
 obtain⟨a,rfl,b,k,_⟩:=h;have c:i<a.length:=by simpa using f
 obtain⟨g,rfl⟩:∃g,ao=M ⟨g,0,U⟩:=by
  rcases b.2 with ⟨_,h⟩ | ⟨g,cap,m,h,_⟩
  . omega
  . injection h with h _ _;exact⟨g,h⟩
 refine⟨g,rfl,k _ rfl,b.a.1,fun j d=>⟨?_,tM b _⟩⟩;have e:=py a i c j d;rw[gU (show j<(du a[i].1 a[i].2).length from d)] at e;exact⟨_,(rG b (i*5+j) (by omega)).trans e⟩
