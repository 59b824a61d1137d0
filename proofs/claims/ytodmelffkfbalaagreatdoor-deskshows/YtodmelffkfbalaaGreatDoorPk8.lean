import Derived.Test.YtodmelffkfbalaaGreatDoorPk1
import Derived.Deep.OwnRows
import Derived.Test.YtodmelffkfbalaaGreatDoorPk6
open Go.Value renaming int->I,string->V,slice->Z
open Go.IntKind renaming i64->J
open Go.Obj renaming cells->K
open Option renaming none->U,some->M
open Bool renaming false->F
open Or renaming inl->A,inr->R
open Go renaming World->X
namespace Go.Proofs.YtodmelffkfbalaaGreatDoor
open Go.RowKit
theorem gG {w:X}{g:Nat}{d:Array Value}{t:Nat}{f:Nat×Nat}{b e size:Nat}{v:Value}{n:Nat}{xs:List Value}(i:w.heap[g]? = M (K d t f))(h:w.ownsRow b e size v n xs)(c:t≠e):v.ownBlock≠M g:=by
 rcases h.2 with ⟨rfl,_⟩ | ⟨l,j,k,rfl,_,a,_⟩
 . simp[Value.ownBlock]
 . intro e;simp[Value.ownBlock] at e;subst e;rw[i] at a;injection a with a;injection a with _ e _;exact c e
theorem Ex {w:X}{g b:Nat}{i:Array Value}{t e:Nat}{j:Nat×Nat}{n:Nat}{f:Nat->Value}(k:w.heap[g]? = M (K i t j))(h:w.rowIs b e n f)(d:t≠e):b≠g:=by
 rintro rfl;obtain⟨c,a,_⟩:=h;rw[k] at a;injection a with a;injection a with _ l _;exact d l
structure ak (S:Nat->Prop)(w w':X):Prop where
 d:w'.os=w.os
 h:w'.tape=w.tape
 g:w'.output=w.output
 b:w.heap.size<=w'.heap.size
 c:∀k,k<w.heap.size->¬S k->w'.heap[k]? = w.heap[k]?
def ay (S:Nat->Prop)(w:X):Nat->Prop:=fun k=>S k∨w.heap.size<=k
section
variable {S S':Nat->Prop} {w w1 w':X}
theorem ak.r (S:Nat->Prop)(w:X):ak S w w:=⟨rfl,rfl,rfl,am _,fun _ _ _=>rfl⟩
theorem ak.f (h:ak S w w')(a:∀k,S k->S' k):ak S' w w':=⟨h.d,h.h,h.g,h.b,fun k b c=>h.c k b (fun e=>c (a k e))⟩
theorem ak.a (h:ak S w w1)(k:ak S' w1 w')(c:∀i,S' i->i<w.heap.size->S i):ak S w w' :=
 ⟨k.d.trans h.d,k.h.trans h.h,k.g.trans h.g,co h.b k.b,fun i a b=>(k.c i (nC a h.b) (fun e=>b (c i e a))).trans (h.c i a b)⟩
theorem ak.E (h:ak S w w1)(k:ak (ay S w) w1 w'):ak S w w':=h.a k (fun i e a=>by
 rcases e with e | e
 . exact e
 . omega)
theorem ak.y {row:Option Nat}(h:w.grownBy w' row)(a:∀k,row=M k->S k):ak S w w':=⟨h.os,h.tape,h.output,h.size,fun k b c=>h.block k b (fun e=>c (a k e.symm))⟩
theorem ak.e (h:Below w.heap.size w w'):ak S w w':=⟨h.os,h.tape,h.output,h.size,fun k a _=>h.block k a⟩
theorem ak.B (S:Nat->Prop)(w:X)(n:Nat):ak S w (w.drewN n):=⟨rfl,rfl,rfl,am _,fun _ _ _=>rfl⟩
theorem ak.j (S:Nat->Prop)(w:X)(a:Addr)(v:Value)(h:S a.block):ak S w (w.setCell a v):=⟨rfl,rfl,rfl,by simp[World.setCell],fun k _ b=>pU w a k v (fun e=>b (by rw[e];exact h))⟩
theorem ak.below {B:Nat}(h:ak S w w')(a:∀k,S k->B<=k)(b:B<=w.heap.size):Below B w w':=⟨h.d,h.h,h.g,h.b,fun k c=>h.c k (by omega) (fun e=>by have:=a k e;omega)⟩
theorem ak.q (h:ak S w w'){k:Nat}{o:Obj}(a:w.heap[k]? = M o)(b:¬S k):w'.heap[k]? = M o:=(h.c k (bM.1 a).1 b).trans a
theorem bl.j {b t:Nat}{ao:ag}{cap:Nat}{l:ab}(h:bl w b t ao cap l)(f:ak S w w')(ha:∀a,ao=M a->¬S a.block):bl w' b t ao cap l:=by
 refine⟨h.1,?_⟩;rcases h.2 with i | ⟨g,c,d,e,j,k,r⟩
 . exact A i
 . refine R ⟨g,c,d,e,j,?_,r⟩;injection e with m n o;exact f.q k (ha _ m)
theorem aL.f {b t k:Nat}{ao:ag}{cap n:Nat}{xs:List Value}(h:aL w b t k ao cap n xs)(f:ak S w w')(ha:∀a,ao=M a->¬S a.block):aL w' b t k ao cap n xs:=by
 refine⟨h.1,?_⟩;rcases h.2 with i | ⟨g,c,d,e,j,l,r⟩
 . exact A i
 . refine R ⟨g,c,d,e,j,?_,r⟩;injection e with m o p;exact f.q l (ha _ m)
theorem az.r {ao:ag}{cap:Nat}{l:ab}(h:az w ao cap l)(c:ak S w w')(ha:∀a,ao=M a->¬S a.block):az w' ao cap l :=
 h.lG fun a e v j b=>by
  have d:=c.c (a.add j).block (ch w _ b) (by rw[oj];exact ha a e);rw[vy d];exact b
theorem bx.r {ao:ag}{cap n:Nat}{xs:List Value}(h:bx w ao cap n xs)(c:ak S w w')(ha:∀a,ao=M a->¬S a.block):bx w' ao cap n xs :=
 h.y fun a e v j b=>by
  have d:=c.c (a.add j).block (ch w _ b) (by rw[oj];exact ha a e);rw[vy d];exact b
end
structure jt (w:X)(S:Nat->Prop)(ao:ag)(cap n:Nat)(xs:List Value):Prop where
 b:bx w ao cap n xs
 c:xs≠[]->∀a,ao=M a->S a.block
structure dM (w:X)(S:Nat->Prop)(ao:ag)(cap:Nat)(l:ab):Prop where
 b:az w ao cap l
 c:l≠[]->∀a,ao=M a->S a.block
def bI (w:X)(S:Nat->Prop)(t:Nat)(ao:ag)(cap:Nat)(l:ab):Prop :=
 (l≠[]∧bl w 0 t ao cap l∧∀a,ao=M a->S a.block)∨(l=[]∧cap=0)
section
variable {w w':X} {S S':Nat->Prop} {t:Nat} {ao:ag} {cap n:Nat} {xs:List Value} {l:ab}
theorem jt.a (w:X)(S:Nat->Prop):jt w S U 0 0 []:=⟨bx.j w,fun e=>absurd rfl e⟩
theorem dM.f (w:X)(S:Nat->Prop):dM w S U 0 []:=⟨az.e w,fun e=>absurd rfl e⟩
theorem bI.e (w:X)(S:Nat->Prop)(t:Nat):bI w S t U 0 []:=R ⟨rfl,rfl⟩
theorem jt.f (h:jt w S ao cap n xs)(c:∀k,k<w.heap.size->S k->S' k):jt w S' ao cap n xs:=⟨h.b,fun b a e=>by
 refine c _ ?_ (h.c b a e);subst e;cases xs with
 | nil=>exact absurd rfl b
 | cons u r =>
   have:=ch w _ (h.b.q (j:=0) rfl);rwa[oj] at this⟩
theorem dM.a (h:dM w S ao cap l)(c:∀k,k<w.heap.size->S k->S' k):dM w S' ao cap l:=⟨h.b,fun b a e=>by
 refine c _ ?_ (h.c b a e);subst e;cases l with
 | nil=>exact absurd rfl b
 | cons u r =>
   have:=ch w _ (h.b.j 0 (by simp));rwa[oj] at this⟩
theorem bI.f (h:bI w S t ao cap l)(c:∀k,k<w.heap.size->S k->S' k):bI w S' t ao cap l:=by
 rcases h with ⟨d,b,f⟩ | h
 . exact A ⟨d,b,fun a e=>c _ (b.e a e).2 (f a e)⟩
 . exact R h
theorem bx.G (w:X)(h:bx w' ao cap n []):bx w ao cap n []:=⟨h.1,h.2.1,fun j u a=>by simp at a⟩
theorem az.jL (w:X)(h:az w' ao cap []):az w ao cap []:=⟨h.1,h.2.1,fun j a=>by simp at a⟩
theorem jt.e (h:jt w S ao cap n xs)(c:ak S' w w')(d:∀k,S k->¬S' k):jt w' S ao cap n xs:=by
 refine⟨?_,h.c⟩;by_cases b:xs=[]
 . subst b;exact bx.G w' h.b
 . exact h.b.r c (fun a e=>d _ (h.c b a e))
theorem dM.e (h:dM w S ao cap l)(c:ak S' w w')(d:∀k,S k->¬S' k):dM w' S ao cap l:=by
 refine⟨?_,h.c⟩;by_cases b:l=[]
 . subst b;exact az.jL w' h.b
 . exact h.b.r c (fun a e=>d _ (h.c b a e))
theorem bI.a (h:bI w S t ao cap l)(c:ak S' w w')(d:∀k,S k->¬S' k):bI w' S t ao cap l:=by
 rcases h with ⟨f,g,b⟩ | h
 . exact A ⟨f,g.j c (fun a e=>d _ (b a e)),b⟩
 . exact R h
theorem bI.r (h:bI w S t ao cap l):az w ao cap l:=by
 rcases h with ⟨_,a,_⟩ | ⟨rfl,rfl⟩
 . exact a.f
 . exact⟨am _,fun _=>rfl,fun j b=>by simp at b⟩
theorem bI.y (h:bI w S t ao cap l):dM w S ao cap l:=⟨h.r,fun b a e=>by
 rcases h with ⟨_,_,c⟩ | ⟨d,_⟩
 . exact c a e
 . exact absurd d b⟩
end
structure fY (w:X)(S:Nat->Prop)(e:aA)(s:cS):Prop where
 c:jt w S s.f s.e e.d.length (aJ e.d)
 b:dM w S s.a s.d e.a
 d:dM w S s.c s.b e.c
theorem fY.a {w:X}{S S':Nat->Prop}{e:aA}{s:cS}(h:fY w S e s)(a:∀k,k<w.heap.size->S k->S' k):fY w S' e s:=⟨h.c.f a,h.b.a a,h.d.a a⟩
theorem fY.e {w w':X}{S S':Nat->Prop}{e:aA}{s:cS}(h:fY w S e s)(a:ak S' w w')(b:∀k,S k->¬S' k):fY w' S e s:=⟨h.c.e a b,h.b.e a b,h.d.e a b⟩
def cR (ps:List (aA×cS)):List Value:=ps.flatMap fun p=>p.1.e p.2
theorem vD (a:List (aA×cS)):(cR a).length=a.length*12:=by
 induction a with
 | nil=>rfl
 | cons p t b =>
   have e:(p.1.e p.2).length=12:=rfl;simp only[cR,oi,aD,bF] at b ⊢;rw[b,e];omega
theorem vE (a b:List (aA×cS)):cR (a++b)=cR a++cR b:=by simp[cR]
theorem sH (e:aA)(s:cS):∀u∈e.e s,u.oneCell'=true:=by
 intro u a;simp only[aA.e,fS,List.not_mem_nil,or_false] at a;rcases a with rfl | rfl | rfl | rfl | rfl | rfl | rfl | rfl | rfl | rfl | rfl | rfl <;> rfl
theorem tC:∀(a:List (aA×cS)) (i:Nat) (b:i<a.length) (j:Nat),j<12->(cR a)[i*12+j]? = (a[i].1.e a[i].2)[j]?
 | p :: t, 0, _, j, hj => by
   show(p.1.e p.2++cR t)[0*12+j]? = _;rw[qV (by rw[show(p.1.e p.2).length=12 from rfl];omega),qW,eh];rfl
 | p :: t, i + 1, b, j, hj => by
   show(p.1.e p.2++cR t)[(i+1)*12+j]? = _;rw[qZ (by rw[show(p.1.e p.2).length=12 from rfl];omega),show(p.1.e p.2).length=12 from rfl,show(i+1)*12+j-12=i*12+j by omega];exact tC t i (by simpa using b) j hj
theorem aA.q (e:aA)(s:cS)(W:X)(t:Nat)(a:Nat×Nat){k:Nat}(b:W.heap.size=k):bx (W.alloc (K #[I J e.b,V e.i,V e.j,I J e.m,Z s.f e.d.length s.e,I J e.l,Z s.a e.a.length s.d,V e.g,V e.f,V e.h,Z s.c e.c.length s.b,I J e.k] t a)) (M ⟨k,0,U⟩) 1 1 (e.e s):=by
 subst b;exact bx.e W _ 1 t a
def ep (e:aA)(s:cS):Option Nat:=if e.a=[] then U else aw s.a
inductive gi (w:X)(S:Nat->Prop)(tE tb:Nat):ag->Nat->List aA->Prop
 | bare:gi w S tE tb U 0 []
 | laid (q:List (aA×cS)) (e:aA) (s:cS) (g cap:Nat) (own:aL w 0 tE 12 (M ⟨g,0,U⟩) cap (q.length+1) (cR (q++[(e,s)]))) (mem:S g)
  (ahead:∀p∈q,fY w (fun k=>(S k∧k≠g)∧ep e s≠M k) p.1 p.2)
  (fields:jt w (fun k=>(S k∧k≠g)∧ep e s≠M k) s.f s.e e.d.length (aJ e.d))
  (gW:dM w (fun k=>(S k∧k≠g)∧ep e s≠M k) s.c s.b e.c)
  (bytes:bI w (fun k=>S k∧k≠g) tb s.a s.d e.a):gi w S tE tb (M ⟨g,0,U⟩) cap (q.map (·.1)++[e])
section
variable {w w':X} {S S':Nat->Prop} {tE tb:Nat} {ao:ag} {cap:Nat} {es:List aA}
theorem gi.a (h:gi w S tE tb ao cap es)(d:ak S' w w')(f:∀k,S k->¬S' k):gi w' S tE tb ao cap es:=by
 cases h with
 | bare=>exact .bare
 | laid q e s g cap own i ahead b j c =>
   exact .laid q e s g cap (own.f d (fun a e=>by injection e with e;subst e;exact f _ i)) i (fun p l=>(ahead p l).e d (fun k e=>f k e.1.1)) (b.e d (fun k e=>f k e.1.1)) (j.e d (fun k e=>f k e.1.1)) (c.a d (fun k e=>f k e.1))
theorem gi.e (h:gi w S tE tb ao cap es)(d:∀k,k<w.heap.size->S k->S' k):gi w S' tE tb ao cap es:=by
 cases h with
 | bare=>exact .bare
 | laid q e s g cap own f ahead a j b =>
   have c:∀k,k<w.heap.size->((S k∧k≠g)∧ep e s≠M k)->((S' k∧k≠g)∧ep e s≠M k):=fun k i e=>⟨⟨d k i e.1.1,e.1.2⟩,e.2⟩;exact .laid q e s g cap own (d g (own.e _ rfl).2 f) (fun p l=>(ahead p l).a c) (a.f c) (j.a c) (b.f (fun k i e=>⟨d k i e.1,e.2⟩))
theorem gi.j (h:gi w S tE tb ao cap es)(a:Below w.heap.size w w'):gi w' S tE tb ao cap es:=h.a (ak.e (S:=fun _=>False) a) (fun _ _ e=>e)
theorem gi.f (h:gi w S tE tb ao cap es):∃i:List (aA×cS),i.map (·.1)=es∧aL w 0 tE 12 ao cap es.length (cR i)∧(∀a,ao=M a->S a.block)∧∀p∈i,fY w (fun k=>S k∧aw ao≠M k) p.1 p.2:=by
 cases h with
 | bare=>exact⟨[],rfl,aL.q _ _ _ _,fun a e=>(by cases e),fun p c=>(by cases c)⟩
 | laid q e s g cap own j ahead b m d =>
   refine⟨q++[(e,s)],by simp,by simpa using own,fun a e=>(by injection e with e;subst e;exact j),fun p c=>?_⟩;have l:∀k,k<w.heap.size->((S k∧k≠g)∧ep e s≠M k)->(S k∧aw (M ⟨g,0,U⟩)≠M k):=fun k _ e=>⟨e.1.1,fun f=>by injection f with f;exact e.1.2 f.symm⟩;rcases eJ.1 c with c | c
   . exact(ahead p c).a l
   . simp at c;subst c;exact⟨b.f l,d.y.a (fun k _ e=>⟨e.1,fun f=>by injection f with f;exact e.2 f.symm⟩),m.a l⟩
theorem gi.r {q:List aA}{x:aA}(h:gi w S tE tb ao cap es)(d:es=q++[x]):∃(a:List (aA×cS)) (s:cS) (g:Nat),a.map (·.1)=q∧ao=M ⟨g,0,U⟩ ∧
 aL w 0 tE 12 (M ⟨g,0,U⟩) cap (a.length+1) (cR (a++[(x,s)]))∧S g∧(∀p∈a,fY w (fun k=>(S k∧k≠g)∧ep x s≠M k) p.1 p.2) ∧
 jt w (fun k=>(S k∧k≠g)∧ep x s≠M k) s.f s.e x.d.length (aJ x.d)∧dM w (fun k=>(S k∧k≠g)∧ep x s≠M k) s.c s.b x.c∧bI w (fun k=>S k∧k≠g) tb s.a s.d x.a:=by
 cases h with
 | bare=>simp at d
 | laid a e s g cap own b ahead fields f bytes =>
   obtain⟨i,c⟩:=vk d rfl;injection c with c _;subst c;exact⟨a,s,g,i,rfl,own,b,ahead,fields,f,bytes⟩
theorem gi.y {N:Nat->Prop}{j:List (aA×cS)}{gL:ag}{b n:Nat}{e:aA}{s:cS}
 (B:∀a,ao=M a->S a.block) (C:∀p∈j,fY w (fun k=>S k∧aw ao≠M k) p.1 p.2)
 (D:jt w (fun k=>N k∧ep e s≠M k) s.f s.e e.d.length (aJ e.d)) (q:dM w (fun k=>N k∧ep e s≠M k) s.c s.b e.c) (x:bI w N tb s.a s.d e.a)
 (l:∀k,S k->¬N k) (y:aL w' 0 tE 12 gL b n (cR (j++[(e,s)]))) (G:n=j.length+1)
 (H:w.grownBy w' (aw ao)) (r:aw gL=aw ao∨aw gL=M w.heap.size) :
 gi w' (fun k=>S k∨N k∨k=w.heap.size) tE tb gL b (j.map (·.1)++[e]):=by
 subst G;have o:=ak.y H (fun k e=>e);have m:∀k,aw ao=M k->S k:=fun k e=>by
  cases ao with
  | none=>cases e
  | some a=>injection e with e;subst e;exact B a rfl
 obtain⟨g,rfl⟩:∃g,gL=M ⟨g,0,U⟩:=by
  rcases y.2 with ⟨_,h⟩ | ⟨g,cap,L,h,_⟩
  . omega
  . injection h with h _ _;exact⟨g,h⟩
 have t:aw ao=M g∨g=w.heap.size:=by
  rcases r with h | h
  . exact A h.symm
  . injection h with h;exact R h
 have c:∀k,ep e s=M k->N k:=fun k h=>by
  unfold ep at h;split at h
  . cases h
  . rcases x with ⟨_,_,T⟩ | ⟨W,_⟩
    . cases u:s.a with
      | none=>rw[u] at h;cases h
      | some a=>rw[u] at h;injection h with h;subst h;exact T a u
    . contradiction
 have d:∀k,k<w.heap.size->N k->k≠g:=fun k f v e=>by
  subst e;rcases t with h | h
  . exact l k (m k h) v
  . omega
 refine .laid j e s g b y ?_ (fun p q=>?_) ?_ ?_ ?_
 . rcases t with h | h
   . exact A (m g h)
   . exact R (R h)
 . refine((C p q).a (S':=fun k=>((S k∨N k∨k=w.heap.size)∧k≠g)∧ep e s≠M k∧aw ao≠M k) (fun k f h=>⟨⟨A h.1,fun e=>?_⟩,fun i=>l k h.1 (c k i),h.2⟩) |>.e o (fun k h=>h.2.2)).a (fun k _ h=>⟨h.1,h.2.1⟩);subst e;rcases t with z | z
   . exact h.2 z
   . omega
 . exact(D.f (S':=fun k=>((S k∨N k∨k=w.heap.size)∧k≠g)∧ep e s≠M k∧N k) (fun k f h=>⟨⟨R (A h.1),d k f h.1⟩,h.2,h.1⟩) |>.e o (fun k h i=>l k (m k i) h.2.2)).f (fun k _ h=>⟨h.1,h.2.1⟩)
 . exact(q.a (S':=fun k=>((S k∨N k∨k=w.heap.size)∧k≠g)∧ep e s≠M k∧N k) (fun k f h=>⟨⟨R (A h.1),d k f h.1⟩,h.2,h.1⟩) |>.e o (fun k h i=>l k (m k i) h.2.2)).a (fun k _ h=>⟨h.1,h.2.1⟩)
 . exact(x.f (S':=fun k=>((S k∨N k∨k=w.heap.size)∧k≠g)∧N k) (fun k f h=>⟨⟨R (A h),d k f h⟩,h⟩) |>.a o (fun k h i=>l k (m k i) h.2)).f (fun k _ h=>h.1)
end
def lS (w:X)(S:Nat->Prop)(tE:Nat)(ao:ag)(cap:Nat)(es:List aA):Prop :=
 ∃ps:List (aA×cS),ps.map (·.1)=es∧aL w 0 tE 12 ao cap es.length (cR ps)∧(∀a,ao=M a->S a.block)∧∀p∈ps,fY w (fun k=>S k∧aw ao≠M k) p.1 p.2
section
variable {w w':X} {S S' N:Nat->Prop} {tE tb:Nat} {ao jR gL:ag} {cap cap2 cap' n:Nat} {es es2:List aA}
theorem gi.q (h:gi w S tE tb ao cap es):lS w S tE ao cap es:=h.f
theorem lS.q (h:lS w S tE ao cap es)(b:ak S' w w')(c:∀k,S k->¬S' k):lS w' S tE ao cap es:=by
 obtain⟨f,g,i,d,j⟩:=h;exact⟨f,g,i.f b (fun a e=>c _ (d a e)),d,fun p l=>(j p l).e b (fun k e=>c k e.1)⟩
theorem lS.a (h:lS w S tE ao cap es)(b:∀k,k<w.heap.size->S k->S' k):lS w S' tE ao cap es:=by
 obtain⟨d,f,c,g,i⟩:=h;exact⟨d,f,c,fun a e=>b _ (c.e a e).2 (g a e),fun p j=>(i p j).a (fun k l e=>⟨b k l e.1,e.2⟩)⟩
theorem lS.f (h:lS w S tE ao cap es):TD w ao cap es:=by
 obtain⟨d,rfl,g,_,k⟩:=h;have e:=g.a;refine⟨e.1,e.2.1,fun j l=>?_⟩;have c:j<d.length:=by simpa using l
 have m:0<(cR d).length:=by rw[vD];omega
 obtain⟨b,o,rfl,p⟩:=e.f m;refine⟨b,o,d[j].2,rfl,?_⟩;rw[ej];have a:=k _ (eX c);refine⟨fun i u f=>?_,a.c.b,a.b.b,a.d.b⟩;have q:i<12:=(fw.1 f).1;rw[<-tC _ j c i q] at f;have:=p _ _ f;rw[gE];exact this
theorem lS.r {c ps2:List (aA×cS)}(m:∀a,ao=M a->S a.block)(q:∀p∈c,fY w (fun k=>S k∧aw ao≠M k) p.1 p.2)(r:∀p∈ps2,fY w N p.1 p.2)(s:∀k,S k->¬N k)
 (t:aL w' 0 tE 12 gL cap' n (cR c++cR ps2)) (u:n=c.length+ps2.length) (v:w.grownBy w' (aw ao)) (d:aw gL=aw ao∨aw gL=M w.heap.size) :
 lS w' (fun k=>S k∨N k∨k=w.heap.size) tE gL cap' (c.map (·.1)++ps2.map (·.1)):=by
 subst u;have o:=ak.y v (fun k e=>e);have f:∀k,k<w.heap.size->aw ao≠M k->aw gL≠M k:=fun k b h e=>by
  rcases d with g | g
  . rw[g] at e;exact h e
  . rw[g] at e;injection e with e;omega
 refine⟨c++ps2,by simp,?_,fun a e=>?_,fun p i=>?_⟩
 . rw[vE];simpa using t
 . subst e;rcases d with g | g
   . cases ao with
     | none=>simp[aw] at g
     | some l=>simp only[aw,jr] at g;rw[g];exact A (m l rfl)
   . simp only[aw,jr] at g;exact R (R g)
 . rcases eJ.1 i with i | i
   . exact((q p i).a (S':=fun k=>(S k∧aw ao≠M k)∧k<w.heap.size) (fun k b e=>⟨e,b⟩)).e o (fun k e=>e.1.2) |>.a (fun k _ e=>⟨A e.1.1,f k e.2 e.1.2⟩)
   . have j:∀k,N k->aw ao≠M k:=fun k b e=>by
      cases ao with
      | none=>simp[aw] at e
      | some l=>simp only[aw,jr] at e;exact s _ (m l rfl) (e▸b)
     exact((r p i).a (S':=fun k=>N k∧k<w.heap.size) (fun k b e=>⟨e,b⟩)).e o (fun k e=>j k e.1) |>.a (fun k _ e=>⟨R (A e.1),f k e.2 (j k e.1)⟩)
end
def ju (w:X)(S:Nat->Prop)(tE:Nat)(ao:ag)(cap:Nat)(es:List aA):Prop :=
 ∃ps:List (aA×cS),ps.map (·.1)=es∧aL w 0 tE 12 ao cap es.length (cR ps)∧(∀a,ao=M a->S a.block)∧(∀p∈ps,fY w (fun k=>S k∧aw ao≠M k) p.1 p.2)∧∀p∈ps,p.2.c=U∧p.2.b=0
section
variable {w w':X} {S S' N:Nat->Prop} {tE:Nat} {ao gL:ag} {cap cap' n:Nat} {es:List aA}
theorem ju.j (h:ju w S tE ao cap es):lS w S tE ao cap es:=by grind [ju,lS]
theorem ju.r (w:X)(S:Nat->Prop)(tE:Nat):ju w S tE U 0 []:=⟨[],rfl,aL.q _ _ _ _,fun a e=>(by cases e),fun p b=>(by cases b),fun p b=>(by cases b)⟩
theorem ju.e (h:ju w S tE ao cap es)(b:ak S' w w')(c:∀k,S k->¬S' k):ju w' S tE ao cap es:=by
 obtain⟨f,g,i,d,j,l⟩:=h;exact⟨f,g,i.f b (fun a e=>c _ (d a e)),d,fun p m=>(j p m).e b (fun k e=>c k e.1),l⟩
theorem ju.a (h:ju w S tE ao cap es)(b:∀k,k<w.heap.size->S k->S' k):ju w S' tE ao cap es:=by
 obtain⟨d,f,c,g,i,j⟩:=h;exact⟨d,f,c,fun a e=>b _ (c.e a e).2 (g a e),fun p l=>(i p l).a (fun k m e=>⟨b k m e.1,e.2⟩),j⟩
theorem ju.f {c ps2:List (aA×cS)}(m:∀a,ao=M a->S a.block)(q:∀p∈c,fY w (fun k=>S k∧aw ao≠M k) p.1 p.2)(r:∀p∈ps2,fY w N p.1 p.2)(s:∀k,S k->¬N k)
 (t:aL w' 0 tE 12 gL cap' n (cR c++cR ps2)) (u:n=c.length+ps2.length) (v:w.grownBy w' (aw ao)) (f:aw gL=aw ao∨aw gL=M w.heap.size) (x:∀p∈c,p.2.c=U∧p.2.b=0) (y:∀p∈ps2,p.2.c=U∧p.2.b=0) :
 ju w' (fun k=>S k∨N k∨k=w.heap.size) tE gL cap' (c.map (·.1)++ps2.map (·.1)):=by
 subst u;have o:=ak.y v (fun k e=>e);have i:∀k,k<w.heap.size->aw ao≠M k->aw gL≠M k:=fun k d h e=>by
  rcases f with g | g
  . rw[g] at e;exact h e
  . rw[g] at e;injection e with e;omega
 refine⟨c++ps2,by simp,?_,fun a e=>?_,fun p b=>?_,fun p b=>(eJ.1 b).elim (x p) (y p)⟩
 . rw[vE];simpa using t
 . subst e;rcases f with g | g
   . cases ao with
     | none=>simp[aw] at g
     | some l=>simp only[aw,jr] at g;rw[g];exact A (m l rfl)
   . simp only[aw,jr] at g;exact R (R g)
 . rcases eJ.1 b with b | b
   . exact((q p b).a (S':=fun k=>(S k∧aw ao≠M k)∧k<w.heap.size) (fun k d e=>⟨e,d⟩)).e o (fun k e=>e.1.2) |>.a (fun k _ e=>⟨A e.1.1,i k e.2 e.1.2⟩)
   . have j:∀k,N k->aw ao≠M k:=fun k d e=>by
      cases ao with
      | none=>simp[aw] at e
      | some l=>simp only[aw,jr] at e;exact s _ (m l rfl) (e▸d)
     exact((r p b).a (S':=fun k=>N k∧k<w.heap.size) (fun k d e=>⟨e,d⟩)).e o (fun k e=>j k e.1) |>.a (fun k _ e=>⟨R (A e.1),i k e.2 (j k e.1)⟩)
end
abbrev dB:=X->(Nat->Prop)->Prop
structure bK (aaY:dB):Prop where
 c:∀{w w':X} {S S':Nat->Prop},aaY w S->ak S' w w'->(∀k,S k->¬S' k)->aaY w' S
 b:∀{w:X} {S S':Nat->Prop},aaY w S->(∀k,k<w.heap.size->S k->S' k)->aaY w S'
theorem bK.a:bK (fun _ _=>True):=⟨fun _ _ _=>trivial,fun _ _=>trivial⟩
section
variable {C:Type} {κ:Nat->C} {w w':X} {aaY X':C->dB} {c:C}
def cy (κ:Nat->C)(n:Nat)(c:C):Nat->C:=fun k=>if k<n then κ k else c
theorem fg {n k:Nat}(h:k<n):cy κ n c k=κ k:=if_pos h
theorem pW {n k:Nat}(h:n<=k):cy κ n c k=c:=if_neg (by omega)
def eQ (aaY:C->dB)(κ:Nat->C)(w:X):Prop:=∀d,aaY d w (fun k=>κ k=d)
theorem eQ.e (L:∀d,bK (aaY d))(h:eQ aaY κ w)(a:Below w.heap.size w w'):eQ aaY κ w':=fun d=>(L d).c (h d) (ak.e (S:=fun _=>False) a) (fun _ _ e=>e)
theorem eQ.a (L:∀d,bK (aaY d))(h:eQ aaY κ w){T N:Nat->Prop}(f:ak T w w')(g:∀k,T k->κ k=c)(i:bK (X' c))(j:X' c w' N)(l:∀k,N k->κ k=c∨w.heap.size<=k)(m:∀d,d≠c->X' d=aaY d):eQ X' (cy κ w.heap.size c) w':=by
 intro d;by_cases b:d=c
 . subst b;refine i.b j (fun k _ e=>?_);show cy κ w.heap.size d k=d;rcases eI k w.heap.size with a | a
   . rw[fg a];rcases l k e with e | e
     . exact e
     . omega
   . exact pW a
 . rw[m d b];have n:=(L d).b (h d) (S':=fun k=>κ k=d∧k<w.heap.size) (fun k a e=>⟨e,a⟩);have o:=(L d).c n f (fun k e p=>b (e.1.symm.trans (g k p)));exact(L d).b o (fun k _ e=>by show cy κ w.heap.size c k=d;rw[fg e.2];exact e.1)
open Classical in
theorem eQ.f (L:∀d,bK (aaY d))(h:eQ aaY κ w){p e:C}(q:p≠e){T P E:Nat->Prop}(r:ak T w w')(s:∀k,T k->κ k=p)(t:X' p w' P)(u:bK (X' p))(hd:∀k,P k->¬E k)(v:∀k,P k->κ k=p∨w.heap.size<=k)(l:∀k,E k->κ k=p∨w.heap.size<=k)
 (b:∀S:Nat->Prop,aaY e w' (fun k=>κ k=e∧k<w.heap.size)->(∀k,κ k=e∧k<w.heap.size->S k)->(∀k,E k->S k)->X' e w' S) (x:∀d,d≠p->d≠e->X' d=aaY d) :
 ∃f,eQ X' f w'∧(∀k,k<w.heap.size->f k=κ k∨(κ k=p∧f k=e))∧∀k,w.heap.size<=k->f k=p∨f k=e:=by
 refine⟨fun k=>if E k then e else cy κ w.heap.size p k,fun d=>?_,fun k a=>?_,fun k a=>?_⟩
 . by_cases g:d=p
   . subst g;refine u.b t (fun k _ a=>?_);show(if E k then e else cy κ w.heap.size d k)=d;rw[if_neg (hd k a)];rcases eI k w.heap.size with j | j
     . rw[fg j];rcases v k a with i | i
       . exact i
       . omega
     . exact pW j
   . have m:∀k,κ k=d∧k<w.heap.size->(if E k then e else cy κ w.heap.size p k)=d:=fun k a=>by
      have y:¬E k:=fun i=>by
       rcases l k i with i | i
       . exact g (a.1.symm.trans i)
       . omega
      rw[if_neg y,fg a.2];exact a.1
     have n:=(L d).c ((L d).b (h d) (S':=fun k=>κ k=d∧k<w.heap.size) (fun k a e=>⟨e,a⟩)) r (fun k e z=>g (e.1.symm.trans (s k z)));by_cases o:d=e
     . subst o;exact b _ n m (fun k a=>if_pos a)
     . rw[x d g o];exact(L d).b n (fun k _ a=>m k a)
 . show(if E k then e else cy κ w.heap.size p k)=κ k∨_∧(if E k then e else cy κ w.heap.size p k)=e;by_cases b:E k
   . rcases l k b with i | i
     . exact R ⟨i,if_pos b⟩
     . omega
   . exact A (by rw[if_neg b,fg a])
 . show(if E k then e else cy κ w.heap.size p k)=p∨(if E k then e else cy κ w.heap.size p k)=e;by_cases b:E k
   . exact R (if_pos b)
   . exact A (by rw[if_neg b,pW a])
end
structure nA where
 a:ag
 b:Nat
def lI (u:aI)(s:nA):List Value:=[I J u.b,I J u.a,I J u.n,Z s.a u.c.length s.b]
def kU (us:List (aI×nA)):List Value:=us.flatMap fun x=>lI x.1 x.2
theorem Nd (a b:List (aI×nA)):kU (a++b)=kU a++kU b:=by simp[kU]
theorem SS (u:aI)(s:nA):kU [(u,s)]=lI u s:=by simp[kU]
theorem Nf (a:List (aI×nA)):(kU a).length=a.length*4:=by
 induction a with
 | nil=>rfl
 | cons p t b =>
   have e:(lI p.1 p.2).length=4:=rfl;simp only[kU,oi,aD,bF] at b ⊢;rw[b,e];omega
theorem ST (u:aI)(s:nA):∀v∈lI u s,v.oneCell'=true:=by
 intro v a;simp only[lI,fS,List.not_mem_nil,or_false] at a;rcases a with rfl | rfl | rfl | rfl <;> rfl
theorem tW:∀(a:List (aI×nA)) (i:Nat) (b:i<a.length) (j:Nat),j<4->(kU a)[i*4+j]? = (lI a[i].1 a[i].2)[j]?
 | p :: t, 0, _, j, hj => by
   show(lI p.1 p.2++kU t)[0*4+j]? = _;rw[qV (by rw[show(lI p.1 p.2).length=4 from rfl];omega),qW,eh];rfl
 | p :: t, i + 1, b, j, hj => by
   show(lI p.1 p.2++kU t)[(i+1)*4+j]? = _;rw[qZ (by rw[show(lI p.1 p.2).length=4 from rfl];omega),show(lI p.1 p.2).length=4 from rfl,show(i+1)*4+j-4=i*4+j by omega];exact tW t i (by simpa using b) j hj
def rN (w:X)(ao:ag)(cap:Nat)(l:List aI):Prop:=∃us:List (aI×nA),us.map (·.1)=l∧bx w ao cap l.length (kU us)∧∀x∈us,az w x.2.a x.2.b x.1.c
theorem rN.e {w w':X}{ao:ag}{cap:Nat}{l:List aI}(h:rN w ao cap l)(a:Below w.heap.size w w'):rN w' ao cap l:=by
 obtain⟨b,c,d,e⟩:=h;exact⟨b,c,d.a a,fun x f=>(e x f).a a⟩
theorem rN.a {w:X}{ao:ag}{cap:Nat}{l:List aI}(h:rN w ao cap l)(k:Nat)(f:k<l.length):∃(b o:Nat) (s:nA),ao=M ⟨b,o,U⟩∧w.cell? ⟨b,o+k*4,U⟩=M (I J l[k].b)∧w.cell? ⟨b,o+k*4+1,U⟩=M (I J l[k].a)∧w.cell? ⟨b,o+k*4+2,U⟩=M (I J l[k].n)∧w.cell? ⟨b,o+k*4+3,U⟩=M (Z s.a l[k].c.length s.b)∧az w s.a s.b l[k].c:=by
 obtain⟨c,rfl,g,i⟩:=h;have a:k<c.length:=by simpa using f
 obtain⟨b,o,rfl,d⟩:=g.f (by rw[Nf];omega);have j:=i _ (eX a);have e:=tW c k a 0 (by decide);have m:=tW c k a 1 (by decide);have p:=tW c k a 2 (by decide);have q:=tW c k a 3 (by decide);refine⟨b,o,c[k].2,rfl,?_,?_,?_,?_,?_⟩
 . rw[ej];exact d _ _ (by rw[mA] at e;exact e)
 . rw[ej,gE];exact d _ _ m
 . rw[ej,gE];exact d _ _ p
 . rw[ej,gE];exact d _ _ q
 . rw[ej];exact j
def lk (w:X)(S:Nat->Prop)(tU:Nat)(ao:ag)(cap:Nat)(l:List aI):Prop :=
 ∃us:List (aI×nA),us.map (·.1)=l∧aL w 0 tU 4 ao cap l.length (kU us)∧(∀a,ao=M a->S a.block)∧∀x∈us,dM w (fun k=>S k∧aw ao≠M k) x.2.a x.2.b x.1.c
section
variable {w w':X} {S S':Nat->Prop} {tU:Nat} {ao:ag} {cap:Nat} {l:List aI}
theorem lk.q (w:X)(S:Nat->Prop)(tU:Nat):lk w S tU U 0 []:=⟨[],rfl,aL.q _ _ _ _,fun a e=>(by cases e),fun p b=>(by cases b)⟩
theorem lk.j (h:lk w S tU ao cap l):rN w ao cap l:=by
 obtain⟨a,b,c,_,d⟩:=h;exact⟨a,b,c.a,fun x e=>(d x e).b⟩
theorem lk.f (h:lk w S tU ao cap l)(b:ak S' w w')(c:∀k,S k->¬S' k):lk w' S tU ao cap l:=by
 obtain⟨f,g,i,d,j⟩:=h;exact⟨f,g,i.f b (fun a e=>c _ (d a e)),d,fun x m=>(j x m).e b (fun k e=>c k e.1)⟩
theorem lk.a (h:lk w S tU ao cap l)(b:∀k,k<w.heap.size->S k->S' k):lk w S' tU ao cap l:=by
 obtain⟨d,f,c,g,i⟩:=h;exact⟨d,f,c,fun a e=>b _ (c.e a e).2 (g a e),fun x j=>(i x j).a (fun k m e=>⟨b k m e.1,e.2⟩)⟩
theorem lk.e (h:lk w S tU ao cap l)(a:Below w.heap.size w w'):lk w' S tU ao cap l:=h.f (ak.e (S:=fun _=>False) a) (fun _ _ e=>e)
theorem lk.r {W:X}(h:lk W S tU ao cap l)(m:Obj):∃xs,aL (W.alloc m) 0 tU 4 ao cap l.length xs ∧
 ∀gL b w' (u:aI) (s:nA) (N:Nat->Prop),dM W N s.a s.b u.c->(∀k,S k->¬N k)->aL w' 0 tU 4 gL b (l.length+1) (xs++lI u s)->(W.alloc m).grownBy w' (aw ao)->(aw gL=aw ao∨aw gL=M (W.alloc m).heap.size)->lk w' (fun k=>S k∨N k∨W.heap.size<=k) tU gL b (l++[u])∧ak S W w':=by
 obtain⟨p,r,t,v,y⟩:=h;have q:Below W.heap.size W (W.alloc m):=(ar _ _).alloc (am _) _;have n:∀k,aw ao=M k->S k:=fun k e=>by
  cases ao with
  | none=>cases e
  | some a=>injection e with e;subst e;exact v a rfl
 refine⟨kU p,t.r q,fun gL b w' u s N z B C D d=>?_⟩;have o:=(ak.e q).a (ak.y D (fun k e=>e)) (fun _ e _=>e);have f:∀k,k<W.heap.size->aw ao≠M k->aw gL≠M k:=fun k c h e=>by
  rcases d with g | g
  . rw[g] at e;exact h e
  . rw[g,bu] at e;injection e with e;omega
 refine⟨⟨p++[(u,s)],by simp[r],by rw[Nd,SS,aD];exact C,fun a e=>?_,fun x i=>?_⟩,o.f (fun k e=>n k e)⟩
 . subst e;rcases d with g | g
   . exact A (n _ (g.symm.trans rfl))
   . rw[bu] at g;injection g with g;exact R (R (by omega))
 . rcases eJ.1 i with i | i
   . exact(((y x i).a (S':=fun k=>(S k∧aw ao≠M k)∧k<W.heap.size) (fun k c e=>⟨e,c⟩)).e o (fun k e=>e.1.2)).a (fun k _ e=>⟨A e.1.1,f k e.2 e.1.2⟩)
   . rw[cW.1 i];have j:∀k,N k->aw ao≠M k:=fun k c e=>B k (n k e) c;exact((z.a (S':=fun k=>N k∧k<W.heap.size) (fun k c e=>⟨e,c⟩)).e o (fun k e=>j k e.1)).a (fun k _ e=>⟨R (A e.1),f k e.2 (j k e.1)⟩)
end
theorem lU {W:X}{g t:Nat}{f i j l:Value}(h:W.heap[g]? = M (K #[f,i,j,l] t (0,0)))(a b c d:Value):
 ((((W.setCell ⟨g,0,U⟩ a).setCell ⟨g,1,U⟩ b).setCell ⟨g,2,U⟩ c).setCell ⟨g,3,U⟩ d).heap[g]? = M (K #[a,b,c,d] t (0,0))∧ak (fun k=>k=g) W ((((W.setCell ⟨g,0,U⟩ a).setCell ⟨g,1,U⟩ b).setCell ⟨g,2,U⟩ c).setCell ⟨g,3,U⟩ d):=by
 have m:=aR W g 0 _ _ a h;have n:=aR _ g 1 _ _ b m;have o:=aR _ g 2 _ _ c n;have p:=aR _ g 3 _ _ d o;have q:=ak.j (fun k=>k=g) W ⟨g,0,U⟩ a rfl;have r:=ak.j (fun k=>k=g) (W.setCell ⟨g,0,U⟩ a) ⟨g,1,U⟩ b rfl;have s:=ak.j (fun k=>k=g) ((W.setCell ⟨g,0,U⟩ a).setCell ⟨g,1,U⟩ b) ⟨g,2,U⟩ c rfl;have u:=ak.j (fun k=>k=g) (((W.setCell ⟨g,0,U⟩ a).setCell ⟨g,1,U⟩ b).setCell ⟨g,2,U⟩ c) ⟨g,3,U⟩ d rfl;exact⟨p,((q.a r (fun _ e _=>e)).a s (fun _ e _=>e)).a u (fun _ e _=>e)⟩
theorem dW {W:X}{g t:Nat}{a b c d:Value}(h:W.heap[g]? = M (K #[a,b,c,d] t (0,0))):(W.cell? ⟨g,0,U⟩=M a∧W.cell? ⟨g,1,U⟩=M b∧W.cell? ⟨g,2,U⟩=M c∧W.cell? ⟨g,3,U⟩=M d)∧(W.frozen? ⟨g,0,U⟩=F∧W.frozen? ⟨g,1,U⟩=F∧W.frozen? ⟨g,2,U⟩=F∧W.frozen? ⟨g,3,U⟩=F) :=
 ⟨⟨aq W g 0 _ _ _ h,aq W g 1 _ _ _ h,aq W g 2 _ _ _ h,aq W g 3 _ _ _ h⟩,aP W g 0 _ _ h,aP W g 1 _ _ h,aP W g 2 _ _ h,aP W g 3 _ _ h⟩
theorem ss {W:X}{g t:Nat}{a b c:Value}(h:W.heap[g]? = M (K #[a,b,c] t (0,0))):(W.cell? ⟨g,0,U⟩=M a∧W.cell? ⟨g,1,U⟩=M b∧W.cell? ⟨g,2,U⟩=M c)∧(W.frozen? ⟨g,0,U⟩=F∧W.frozen? ⟨g,1,U⟩=F∧W.frozen? ⟨g,2,U⟩=F) :=
 ⟨⟨aq W g 0 _ _ _ h,aq W g 1 _ _ _ h,aq W g 2 _ _ _ h⟩,aP W g 0 _ _ h,aP W g 1 _ _ h,aP W g 2 _ _ h⟩
