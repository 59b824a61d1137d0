/- Small texts, one behind the other: MemU, MemUB. -/
import Derived.Test.YthhklgjjnaeaoaaGreatDoorPk11
import Derived.Test.YthhklgjjnaeaoaaGreatDoorPk4
open Option renaming none->U,some->M
open Go renaming World->X
namespace Go.Proofs.YthhklgjjnaeaoaaGreatDoor
open Go.RowKit
structure xU where
 bo:ak
 fU:Nat
def uJ (u:Sp.Up)(s:xU):List Value:=[.int .i64 u.id,.int .i64 u.size,.string u.note,.slice s.bo u.bytes.length s.fU,.int .i64 u.sent]
def sO (us:List (Sp.Up×xU)):List Value:=us.flatMap fun x=>uJ x.1 x.2
theorem ug (a b:List (Sp.Up×xU)):sO (a++b)=sO a++sO b:=by simp[sO]
theorem Ze (u:Sp.Up)(s:xU):sO [(u,s)]=uJ u s:=by simp[sO]
theorem qG (a:List (Sp.Up×xU)):(sO a).length=a.length*5:=by
 induction a with
 | nil=>rfl
 | cons p t b =>
   have e:(uJ p.1 p.2).length=5:=rfl;simp only[sO,aU,aV,aW] at b ⊢;rw[b,e];omega
theorem Qg (u:Sp.Up)(s:xU):∀v∈uJ u s,v.oneCell'=true:=by
 intro v a;simp only[uJ,dZ,List.not_mem_nil,or_false] at a;rcases a with rfl | rfl | rfl | rfl | rfl <;> rfl
theorem uh:∀(a:List (Sp.Up×xU)) (i:Nat) (b:i<a.length) (j:Nat),j<5->(sO a)[i*5+j]? = (uJ a[i].1 a[i].2)[j]?
 | p :: t, 0, _, j, hj => by
   show(uJ p.1 p.2++sO t)[0*5+j]? = _;rw[aX (by rw[show(uJ p.1 p.2).length=5 from rfl];omega),aY,aZ];rfl
 | p :: t, i + 1, b, j, hj => by
   show(uJ p.1 p.2++sO t)[(i+1)*5+j]? = _;rw[bg (by rw[show(uJ p.1 p.2).length=5 from rfl];omega),show(uJ p.1 p.2).length=5 from rfl,show(i+1)*5+j-5=i*5+j by omega];exact uh t i (by simpa using b) j hj
def rz (w:X)(ao:ak)(cap:Nat)(l:List Sp.Up):Prop:=∃us:List (Sp.Up×xU),us.map (·.1)=l∧jl w ao cap l.length (sO us)∧∀x∈us,gN w x.2.bo x.2.fU x.1.bytes
theorem rz.stay {w w':X}{ao:ak}{cap:Nat}{l:List Sp.Up}(h:rz w ao cap l)(a:Below w.heap.size w w'):rz w' ao cap l:=by
 obtain⟨b,c,d,e⟩:=h;exact⟨b,c,d.stay a,fun x f=>(e x f).stay a⟩
theorem rz.at_ {w:X}{ao:ak}{cap:Nat}{l:List Sp.Up}(h:rz w ao cap l)(k:Nat)(f:k<l.length):∃(b o:Nat) (s:xU),ao=M ⟨b,o,U⟩∧w.cell? ⟨b,o+k*5,U⟩=M (.int .i64 l[k].id)∧w.cell? ⟨b,o+k*5+1,U⟩=M (.int .i64 l[k].size)∧w.cell? ⟨b,o+k*5+2,U⟩=M (.string l[k].note)∧w.cell? ⟨b,o+k*5+3,U⟩=M (.slice s.bo l[k].bytes.length s.fU)∧w.cell? ⟨b,o+k*5+4,U⟩=M (.int .i64 l[k].sent)∧gN w s.bo s.fU l[k].bytes:=by
 obtain⟨c,rfl,g,i⟩:=h;have a:k<c.length:=by simpa using f
 obtain⟨b,o,rfl,d⟩:=g.lit (by rw[qG];omega);have j:=i _ (aC a);have e:=uh c k a 0 (by decide);have m:=uh c k a 1 (by decide);have n:=uh c k a 2 (by decide);have p:=uh c k a 3 (by decide);have q:=uh c k a 4 (by decide);refine⟨b,o,c[k].2,rfl,?_,?_,?_,?_,?_,?_⟩
 . rw[aG];exact d _ _ (by rw[bI] at e;exact e)
 . rw[aG,bJ];exact d _ _ m
 . rw[aG,bJ];exact d _ _ n
 . rw[aG,bJ];exact d _ _ p
 . rw[aG,bJ];exact d _ _ q
 . rw[aG];exact j
def pR (w:X)(S:Nat->Prop)(tU:Nat)(ao:ak)(cap:Nat)(l:List Sp.Up):Prop :=
 ∃us:List (Sp.Up×xU),us.map (·.1)=l∧gH w 0 tU 5 ao cap l.length (sO us)∧(∀a,ao=M a->S a.block)∧∀x∈us,jH w (fun k=>S k∧fZ ao≠M k) x.2.bo x.2.fU x.1.bytes
section
variable {w w':X} {S S':Nat->Prop} {tU:Nat} {ao:ak} {cap:Nat} {l:List Sp.Up}
theorem pR.ze (h:pR w S tU ao cap l):rz w ao cap l:=by
 obtain⟨a,b,c,_,d⟩:=h;exact⟨a,b,c.qP,fun x e=>(d x e).is⟩
theorem pR.turns (h:pR w S tU ao cap l)(b:Turns S' w w')(c:∀k,S k->¬S' k):pR w' S tU ao cap l:=by
 obtain⟨f,g,i,d,j⟩:=h;exact⟨f,g,i.turns b (fun a e=>c _ (d a e)),d,fun x m=>(j x m).turns b (fun k e=>c k e.1)⟩
theorem pR.mono (h:pR w S tU ao cap l)(b:∀k,k<w.heap.size->S k->S' k):pR w S' tU ao cap l:=by
 obtain⟨d,f,c,g,i⟩:=h;exact⟨d,f,c,fun a e=>b _ (c.block a e).2 (g a e),fun x j=>(i x j).mono (fun k m e=>⟨b k m e.1,e.2⟩)⟩
theorem pR.stay (h:pR w S tU ao cap l)(a:Below w.heap.size w w'):pR w' S tU ao cap l:=h.turns (Turns.of_below (S:=fun _=>False) a) (fun _ _ e=>e)
end
theorem Dz:∀(a:List (Sp.Up×xU)) (i:Nat) (b:i<a.length) (j:Nat) (v:Value) (x:Sp.Up×xU),j<5->(uJ a[i].1 a[i].2).set j v=uJ x.1 x.2->(sO a).set (i*5+j) v=sO (a.set i x)
 | p :: t, 0, _, j, v, x, hj, h => by
   show(uJ p.1 p.2++sO t).set (0*5+j) v=uJ x.1 x.2++sO t;rw[aY,aZ,List.set_append_left _ _ (by rw[show(uJ p.1 p.2).length=5 from rfl];exact hj)];exact bC (·++sO t) h
 | p :: t, i + 1, b, j, v, x, hj, h => by
   show(uJ p.1 p.2++sO t).set ((i+1)*5+j) v=uJ p.1 p.2++sO (t.set i x);rw[bG _ _ (by rw[show(uJ p.1 p.2).length=5 from rfl];omega),show(uJ p.1 p.2).length=5 from rfl,show(i+1)*5+j-5=i*5+j by omega];exact bC (uJ p.1 p.2++·) (Dz t i (by simpa using b) j v x hj h)
section
variable {w w1:X} {S N:Nat->Prop} {tU:Nat} {ao:ak} {cap:Nat} {l:List Sp.Up}
theorem pR.row (h:pR w S tU ao cap l)(i:Nat)(f:i<l.length):∃g,ao=M ⟨g,0,U⟩∧S g∧l.length<=cap∧∀j,j<5->(∃v,w.cell? ⟨g,i*5+j,U⟩=M v)∧w.frozen? ⟨g,i*5+j,U⟩=false:=by
 obtain⟨a,rfl,b,k,_⟩:=h;have c:i<a.length:=by simpa using f
 obtain⟨g,rfl⟩:∃g,ao=M ⟨g,0,U⟩:=by
  rcases b.2 with ⟨_,h⟩ | ⟨g,cap,m,h,_⟩
  . omega
  . injection h with h _ _;exact⟨g,h⟩
 refine⟨g,rfl,k _ rfl,b.qP.1,fun j d=>⟨?_,fE b _⟩⟩;have e:=uh a i c j d;rw[dz (show j<(uJ a[i].1 a[i].2).length from d)] at e;exact⟨_,(fD b (i*5+j) (by omega)).trans e⟩
end
end Go.Proofs.YthhklgjjnaeaoaaGreatDoor