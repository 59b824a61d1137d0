/- Small texts, one behind the other: MemU, MemUB. -/
import Derived.Test.YtjmndjmhjleabaaGreatDoorPk11
import Derived.Test.YtjmndjmhjleabaaGreatDoorPk4
open Option renaming none->U,some->M
open Go renaming World->X
namespace Go.Proofs.YtjmndjmhjleabaaGreatDoor
open Go.RowKit
structure yP where
 bo:aj
 gJ:Nat
def vE (u:Sp.Up)(s:yP):List Value:=[.int .i64 u.id,.int .i64 u.size,.string u.note,.slice s.bo u.bytes.length s.gJ,.int .i64 u.sent]
def tL (us:List (Sp.Up×yP)):List Value:=us.flatMap fun x=>vE x.1 x.2
theorem uP (a b:List (Sp.Up×yP)):tL (a++b)=tL a++tL b:=by simp[tL]
theorem Zf (u:Sp.Up)(s:yP):tL [(u,s)]=vE u s:=by simp[tL]
theorem rR (a:List (Sp.Up×yP)):(tL a).length=a.length*5:=by
 induction a with
 | nil=>rfl
 | cons p t b =>
   have e:(vE p.1 p.2).length=5:=rfl;simp only[tL,aU,aV,aW] at b ⊢;rw[b,e];omega
theorem Qr (u:Sp.Up)(s:yP):∀v∈vE u s,v.oneCell'=true:=by
 intro v a;simp only[vE,fA,List.not_mem_nil,or_false] at a;rcases a with rfl | rfl | rfl | rfl | rfl <;> rfl
theorem uQ:∀(a:List (Sp.Up×yP)) (i:Nat) (b:i<a.length) (j:Nat),j<5->(tL a)[i*5+j]? = (vE a[i].1 a[i].2)[j]?
 | p :: t, 0, _, j, hj => by
   show(vE p.1 p.2++tL t)[0*5+j]? = _;rw[aX (by rw[show(vE p.1 p.2).length=5 from rfl];omega),aY,aZ];rfl
 | p :: t, i + 1, b, j, hj => by
   show(vE p.1 p.2++tL t)[(i+1)*5+j]? = _;rw[bq (by rw[show(vE p.1 p.2).length=5 from rfl];omega),show(vE p.1 p.2).length=5 from rfl,show(i+1)*5+j-5=i*5+j by omega];exact uQ t i (by simpa using b) j hj
def pV (w:X)(ao:aj)(cap:Nat)(l:List Sp.Up):Prop:=∃us:List (Sp.Up×yP),us.map (·.1)=l∧jm w ao cap l.length (tL us)∧∀x∈us,iG w x.2.bo x.2.gJ x.1.bytes
theorem pV.stay {w w':X}{ao:aj}{cap:Nat}{l:List Sp.Up}(h:pV w ao cap l)(a:Below w.heap.size w w'):pV w' ao cap l:=by
 obtain⟨b,c,d,e⟩:=h;exact⟨b,c,d.stay a,fun x f=>(e x f).stay a⟩
theorem pV.at_ {w:X}{ao:aj}{cap:Nat}{l:List Sp.Up}(h:pV w ao cap l)(k:Nat)(f:k<l.length):∃(b o:Nat) (s:yP),ao=M ⟨b,o,U⟩∧w.cell? ⟨b,o+k*5,U⟩=M (.int .i64 l[k].id)∧w.cell? ⟨b,o+k*5+1,U⟩=M (.int .i64 l[k].size)∧w.cell? ⟨b,o+k*5+2,U⟩=M (.string l[k].note)∧w.cell? ⟨b,o+k*5+3,U⟩=M (.slice s.bo l[k].bytes.length s.gJ)∧w.cell? ⟨b,o+k*5+4,U⟩=M (.int .i64 l[k].sent)∧iG w s.bo s.gJ l[k].bytes:=by
 obtain⟨c,rfl,g,i⟩:=h;have a:k<c.length:=by simpa using f
 obtain⟨b,o,rfl,d⟩:=g.lit (by rw[rR];omega);have j:=i _ (aB a);have e:=uQ c k a 0 (by decide);have m:=uQ c k a 1 (by decide);have n:=uQ c k a 2 (by decide);have p:=uQ c k a 3 (by decide);have q:=uQ c k a 4 (by decide);refine⟨b,o,c[k].2,rfl,?_,?_,?_,?_,?_,?_⟩
 . rw[aF];exact d _ _ (by rw[bJ] at e;exact e)
 . rw[aF,bK];exact d _ _ m
 . rw[aF,bK];exact d _ _ n
 . rw[aF,bK];exact d _ _ p
 . rw[aF,bK];exact d _ _ q
 . rw[aF];exact j
def K6 (w:X)(S:Nat->Prop)(tU:Nat)(ao:aj)(cap:Nat)(l:List Sp.Up):Prop :=
 ∃us:List (Sp.Up×yP),us.map (·.1)=l∧gU w 0 tU 5 ao cap l.length (tL us)∧(∀a,ao=M a->S a.block)∧∀x∈us,jZ w (fun k=>S k∧gK ao≠M k) x.2.bo x.2.gJ x.1.bytes
section
variable {w w':X} {S S':Nat->Prop} {tU:Nat} {ao:aj} {cap:Nat} {l:List Sp.Up}
theorem K6.zK (h:K6 w S tU ao cap l):pV w ao cap l:=by
 obtain⟨a,b,c,_,d⟩:=h;exact⟨a,b,c.nP,fun x e=>(d x e).is⟩
end
theorem Ec:∀(a:List (Sp.Up×yP)) (i:Nat) (b:i<a.length) (j:Nat) (v:Value) (x:Sp.Up×yP),j<5->(vE a[i].1 a[i].2).set j v=vE x.1 x.2->(tL a).set (i*5+j) v=tL (a.set i x)
 | p :: t, 0, _, j, v, x, hj, h => by
   show(vE p.1 p.2++tL t).set (0*5+j) v=vE x.1 x.2++tL t;rw[aY,aZ,List.set_append_left _ _ (by rw[show(vE p.1 p.2).length=5 from rfl];exact hj)];exact bD (·++tL t) h
 | p :: t, i + 1, b, j, v, x, hj, h => by
   show(vE p.1 p.2++tL t).set ((i+1)*5+j) v=vE p.1 p.2++tL (t.set i x);rw[bH _ _ (by rw[show(vE p.1 p.2).length=5 from rfl];omega),show(vE p.1 p.2).length=5 from rfl,show(i+1)*5+j-5=i*5+j by omega];exact bD (vE p.1 p.2++·) (Ec t i (by simpa using b) j v x hj h)
section
variable {w w1:X} {S N:Nat->Prop} {tU:Nat} {ao:aj} {cap:Nat} {l:List Sp.Up}
theorem K6.row (h:K6 w S tU ao cap l)(i:Nat)(f:i<l.length):∃g,ao=M ⟨g,0,U⟩∧S g∧l.length<=cap∧∀j,j<5->(∃v,w.cell? ⟨g,i*5+j,U⟩=M v)∧w.frozen? ⟨g,i*5+j,U⟩=false:=by
 obtain⟨a,rfl,b,k,_⟩:=h;have c:i<a.length:=by simpa using f
 obtain⟨g,rfl⟩:∃g,ao=M ⟨g,0,U⟩:=by
  rcases b.2 with ⟨_,h⟩ | ⟨g,cap,m,h,_⟩
  . omega
  . injection h with h _ _;exact⟨g,h⟩
 refine⟨g,rfl,k _ rfl,b.nP.1,fun j d=>⟨?_,fT b _⟩⟩;have e:=uQ a i c j d;rw[dB (show j<(vE a[i].1 a[i].2).length from d)] at e;exact⟨_,(fQ b (i*5+j) (by omega)).trans e⟩
end
end Go.Proofs.YtjmndjmhjleabaaGreatDoor