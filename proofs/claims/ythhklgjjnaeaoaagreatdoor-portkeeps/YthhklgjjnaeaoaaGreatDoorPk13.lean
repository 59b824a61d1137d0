/- Small texts, one behind the other: MemU, MemUB, MemT. -/
import Derived.Test.YthhklgjjnaeaoaaGreatDoorPk11
import Derived.Test.YthhklgjjnaeaoaaGreatDoorPk4
open Go.Value renaming slice->Z
open Option renaming none->U,some->M
open Go renaming World->X
namespace Go.Proofs.YthhklgjjnaeaoaaGreatDoor
open Go.RowKit
structure wU where
 bo:ak
 fU:Nat
def uK (u:Sp.Up)(s:wU):List Value:=[.int .i64 u.id,.int .i64 u.size,.string u.note,Z s.bo u.bytes.length s.fU,.int .i64 u.sent]
def sO (us:List (Sp.Up×wU)):List Value:=us.flatMap fun x=>uK x.1 x.2
theorem uh (a b:List (Sp.Up×wU)):sO (a++b)=sO a++sO b:=by simp[sO]
theorem Zc (u:Sp.Up)(s:wU):sO [(u,s)]=uK u s:=by simp[sO]
theorem qJ (a:List (Sp.Up×wU)):(sO a).length=a.length*5:=by
 induction a with
 | nil=>rfl
 | cons p t b =>
   have e:(uK p.1 p.2).length=5:=rfl;simp only[sO,aU,aV,aW] at b ⊢;rw[b,e];omega
theorem Qh (u:Sp.Up)(s:wU):∀v∈uK u s,v.oneCell'=true:=by
 intro v a;simp only[uK,dZ,List.not_mem_nil,or_false] at a;rcases a with rfl | rfl | rfl | rfl | rfl <;> rfl
theorem um:∀(a:List (Sp.Up×wU)) (i:Nat) (b:i<a.length) (j:Nat),j<5->(sO a)[i*5+j]? = (uK a[i].1 a[i].2)[j]?
 | p :: t, 0, _, j, hj => by
   show(uK p.1 p.2++sO t)[0*5+j]? = _;rw[aX (by rw[show(uK p.1 p.2).length=5 from rfl];omega),aY,aZ];rfl
 | p :: t, i + 1, b, j, hj => by
   show(uK p.1 p.2++sO t)[(i+1)*5+j]? = _;rw[bg (by rw[show(uK p.1 p.2).length=5 from rfl];omega),show(uK p.1 p.2).length=5 from rfl,show(i+1)*5+j-5=i*5+j by omega];exact um t i (by simpa using b) j hj
def pU (w:X)(ao:ak)(cap:Nat)(l:List Sp.Up):Prop:=∃us:List (Sp.Up×wU),us.map (·.1)=l∧ji w ao cap l.length (sO us)∧∀x∈us,gN w x.2.bo x.2.fU x.1.bytes
theorem pU.stay {w w':X}{ao:ak}{cap:Nat}{l:List Sp.Up}(h:pU w ao cap l)(a:Below w.heap.size w w'):pU w' ao cap l:=by
 obtain⟨b,c,d,e⟩:=h;exact⟨b,c,d.stay a,fun x f=>(e x f).stay a⟩
theorem pU.at_ {w:X}{ao:ak}{cap:Nat}{l:List Sp.Up}(h:pU w ao cap l)(k:Nat)(f:k<l.length):∃(b o:Nat) (s:wU),ao=M ⟨b,o,U⟩∧w.cell? ⟨b,o+k*5,U⟩=M (.int .i64 l[k].id)∧w.cell? ⟨b,o+k*5+1,U⟩=M (.int .i64 l[k].size)∧w.cell? ⟨b,o+k*5+2,U⟩=M (.string l[k].note)∧w.cell? ⟨b,o+k*5+3,U⟩=M (Z s.bo l[k].bytes.length s.fU)∧w.cell? ⟨b,o+k*5+4,U⟩=M (.int .i64 l[k].sent)∧gN w s.bo s.fU l[k].bytes:=by
 obtain⟨c,rfl,g,i⟩:=h;have a:k<c.length:=by simpa using f
 obtain⟨b,o,rfl,d⟩:=g.lit (by rw[qJ];omega);have j:=i _ (aC a);have e:=um c k a 0 (by decide);have m:=um c k a 1 (by decide);have n:=um c k a 2 (by decide);have p:=um c k a 3 (by decide);have q:=um c k a 4 (by decide);refine⟨b,o,c[k].2,rfl,?_,?_,?_,?_,?_,?_⟩
 . rw[aG];exact d _ _ (by rw[bI] at e;exact e)
 . rw[aG,bJ];exact d _ _ m
 . rw[aG,bJ];exact d _ _ n
 . rw[aG,bJ];exact d _ _ p
 . rw[aG,bJ];exact d _ _ q
 . rw[aG];exact j
def sP (w:X)(S:Nat->Prop)(tU:Nat)(ao:ak)(cap:Nat)(l:List Sp.Up):Prop :=
 ∃us:List (Sp.Up×wU),us.map (·.1)=l∧gH w 0 tU 5 ao cap l.length (sO us)∧(∀a,ao=M a->S a.block)∧∀x∈us,jI w (fun k=>S k∧fV ao≠M k) x.2.bo x.2.fU x.1.bytes
section
variable {w w':X} {S S':Nat->Prop} {tU:Nat} {ao:ak} {cap:Nat} {l:List Sp.Up}
theorem sP.zf (h:sP w S tU ao cap l):pU w ao cap l:=by
 obtain⟨a,b,c,_,d⟩:=h;exact⟨a,b,c.qE,fun x e=>(d x e).is⟩
theorem sP.turns (h:sP w S tU ao cap l)(b:Turns S' w w')(c:∀k,S k->¬S' k):sP w' S tU ao cap l:=by
 obtain⟨f,g,i,d,j⟩:=h;exact⟨f,g,i.turns b (fun a e=>c _ (d a e)),d,fun x m=>(j x m).turns b (fun k e=>c k e.1)⟩
theorem sP.mono (h:sP w S tU ao cap l)(b:∀k,k<w.heap.size->S k->S' k):sP w S' tU ao cap l:=by
 obtain⟨d,f,c,g,i⟩:=h;exact⟨d,f,c,fun a e=>b _ (c.block a e).2 (g a e),fun x j=>(i x j).mono (fun k m e=>⟨b k m e.1,e.2⟩)⟩
end
theorem DF:∀(a:List (Sp.Up×wU)) (i:Nat) (b:i<a.length) (j:Nat) (v:Value) (x:Sp.Up×wU),j<5->(uK a[i].1 a[i].2).set j v=uK x.1 x.2->(sO a).set (i*5+j) v=sO (a.set i x)
 | p :: t, 0, _, j, v, x, hj, h => by
   show(uK p.1 p.2++sO t).set (0*5+j) v=uK x.1 x.2++sO t;rw[aY,aZ,List.set_append_left _ _ (by rw[show(uK p.1 p.2).length=5 from rfl];exact hj)];exact bC (·++sO t) h
 | p :: t, i + 1, b, j, v, x, hj, h => by
   show(uK p.1 p.2++sO t).set ((i+1)*5+j) v=uK p.1 p.2++sO (t.set i x);rw[bG _ _ (by rw[show(uK p.1 p.2).length=5 from rfl];omega),show(uK p.1 p.2).length=5 from rfl,show(i+1)*5+j-5=i*5+j by omega];exact bC (uK p.1 p.2++·) (DF t i (by simpa using b) j v x hj h)
section
variable {w w1:X} {S N:Nat->Prop} {tU:Nat} {ao:ak} {cap:Nat} {l:List Sp.Up}
theorem sP.row (h:sP w S tU ao cap l)(i:Nat)(f:i<l.length):∃g,ao=M ⟨g,0,U⟩∧S g∧l.length<=cap∧∀j,j<5->(∃v,w.cell? ⟨g,i*5+j,U⟩=M v)∧w.frozen? ⟨g,i*5+j,U⟩=false:=by
 obtain⟨a,rfl,b,k,_⟩:=h;have c:i<a.length:=by simpa using f
 obtain⟨g,rfl⟩:∃g,ao=M ⟨g,0,U⟩:=by
  rcases b.2 with ⟨_,h⟩ | ⟨g,cap,m,h,_⟩
  . omega
  . injection h with h _ _;exact⟨g,h⟩
 refine⟨g,rfl,k _ rfl,b.qE.1,fun j d=>⟨?_,fE b _⟩⟩;have e:=um a i c j d;rw[dz (show j<(uK a[i].1 a[i].2).length from d)] at e;exact⟨_,(fD b (i*5+j) (by omega)).trans e⟩
end
def tsC (x:List Sp.Up×wU):Value:=Z x.2.bo x.1.length x.2.fU
def qR (w:X)(S:Nat->Prop)(tR tU:Nat)(ao:ak)(cap:Nat)(T:List (List Sp.Up)):Prop :=
 ∃us:List (List Sp.Up×wU),us.map (·.1)=T∧gH w 0 tR 1 ao cap T.length (us.map tsC)∧(∀a,ao=M a->S a.block)∧∀x∈us,sP w (fun k=>S k∧fV ao≠M k) tU x.2.bo x.2.fU x.1
section
variable {w w':X} {S S':Nat->Prop} {tR tU:Nat} {ao:ak} {cap:Nat} {T:List (List Sp.Up)}
theorem qR.nil (w:X)(S:Nat->Prop)(tR tU:Nat):qR w S tR tU U 0 []:=⟨[],rfl,gH.nil _ _ _ _,fun a e=>(by cases e),fun p b=>(by cases b)⟩
theorem qR.turns (h:qR w S tR tU ao cap T)(b:Turns S' w w')(c:∀k,S k->¬S' k):qR w' S tR tU ao cap T:=by
 obtain⟨f,g,i,d,j⟩:=h;exact⟨f,g,i.turns b (fun a e=>c _ (d a e)),d,fun x l=>(j x l).turns b (fun k e=>c k e.1)⟩
theorem qR.mono (h:qR w S tR tU ao cap T)(b:∀k,k<w.heap.size->S k->S' k):qR w S' tR tU ao cap T:=by
 obtain⟨d,f,c,g,i⟩:=h;exact⟨d,f,c,fun a e=>b _ (c.block a e).2 (g a e),fun x j=>(i x j).mono (fun k l e=>⟨b k l e.1,e.2⟩)⟩
theorem qR.stay (h:qR w S tR tU ao cap T)(a:Below w.heap.size w w'):qR w' S tR tU ao cap T:=h.turns (Turns.of_below (S:=fun _=>False) a) (fun _ _ e=>e)
theorem qR.cap_ (h:qR w S tR tU ao cap T):T.length<=cap:=by
 obtain⟨b,c,a,d,e⟩:=h;exact a.qE.1
theorem qR.at_ (h:qR w S tR tU ao cap T)(k:Nat)(f:k<T.length):∃(b o:Nat) (a:ak) (c:Nat),ao=M ⟨b,o,U⟩∧w.cell? ⟨b,o+k,U⟩=M (Z a T[k].length c)∧pU w a c T[k]:=by
 obtain⟨e,rfl,g,l,i⟩:=h;have d:k<e.length:=by simpa using f
 obtain⟨b,o,rfl,j⟩:=g.qE.lit (by rw[aF];omega);refine⟨b,o,e[k].2.bo,e[k].2.fU,rfl,?_,?_⟩
 . have:=j k (tsC e[k]) (by rw[List.getElem?_map,dz d];rfl);rw[aG];exact this
 . rw[aG];exact(i _ (aC d)).zf
theorem qR.push {W:X}(h:qR W S tR tU ao cap T)(m:Obj):∃xs,gH (W.alloc m) 0 tR 1 ao cap T.length xs ∧
 ∀gJ b w' (l:List Sp.Up) (s:wU) (n:Nat) (N:Nat->Prop),l.length=n->sP W N tU s.bo s.fU l->(∀k,S k->¬N k)->gH w' 0 tR 1 gJ b (T.length+1) (xs++[Z s.bo n s.fU])->(W.alloc m).grownBy w' (fV ao)->(fV gJ=fV ao∨fV gJ=M (W.alloc m).heap.size)->qR w' (fun k=>S k∨N k∨W.heap.size<=k) tR tU gJ b (T++[l])∧Turns S W w':=by
 obtain⟨q,t,u,v,y⟩:=h;have r:Below W.heap.size W (W.alloc m):=(eY _ _).alloc (aM _) _;have o:∀k,fV ao=M k->S k:=fun k e=>by
  cases ao with
  | none=>cases e
  | some a=>injection e with e;subst e;exact v a rfl
 refine⟨q.map tsC,u.stay r,fun gJ b w' l s n N z B C D G d=>?_⟩;subst z;have p:Turns (fun k=>fV ao=M k) W w':=(Turns.of_below r).trans (Turns.iL G (fun k e=>e)) (fun _ e _=>e);have f:∀k,k<W.heap.size->fV ao≠M k->fV gJ≠M k:=fun k c h e=>by
  rcases d with g | g
  . rw[g] at e;exact h e
  . rw[g,fG] at e;injection e with e;omega
 refine⟨⟨q++[(l,s)],by simp[t],?_,fun a e=>?_,fun x i=>?_⟩,p.mono (fun k e=>o k e)⟩
 . rw[aV,bE];exact D
 . subst e;rcases d with g | g
   . exact Or.inl (o _ (g.symm.trans rfl))
   . rw[fG] at g;injection g with g;exact Or.inr (Or.inr (by omega))
 . rcases bq.1 i with i | i
   . exact(((y x i).mono (S':=fun k=>(S k∧fV ao≠M k)∧k<W.heap.size) (fun k c e=>⟨e,c⟩)).turns p (fun k e=>e.1.2)).mono (fun k _ e=>⟨Or.inl e.1.1,f k e.2 e.1.2⟩)
   . rw[bA.1 i];have j:∀k,N k->fV ao≠M k:=fun k c e=>C k (o k e) c;exact((B.mono (S':=fun k=>N k∧k<W.heap.size) (fun k c e=>⟨e,c⟩)).turns p (fun k e=>j k e.1)).mono (fun k _ e=>⟨Or.inr (Or.inl e.1),f k e.2 (j k e.1)⟩)
end
end Go.Proofs.YthhklgjjnaeaoaaGreatDoor