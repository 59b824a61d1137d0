import Derived.Test.YtmbghcpcbdjfoaaGreatDoorPk1
import Derived.Deep.OwnRows
import Derived.Test.YtmbghcpcbdjfoaaGreatDoorPk6
open Go.Value renaming int->I,string->V,slice->Z
open Go.IntKind renaming i64->J
open Go.Obj renaming cells->K
open Option renaming none->U,some->M
open Bool renaming false->F
open Or renaming inl->A,inr->R
open Go renaming World->X
namespace Go.Proofs.YtmbghcpcbdjfoaaGreatDoor
open Go.RowKit
theorem iJ {w:X}{g:Nat}{d:Array Value}{t:Nat}{f:Nat×Nat}{b e size:Nat}{v:Value}{n:Nat}{xs:List Value}(i:w.heap[g]? = M (K d t f))(h:w.ownsRow b e size v n xs)(c:t≠e):v.ownBlock≠M g:=by
 rcases h.2 with ⟨rfl,_⟩ | ⟨l,j,k,rfl,_,a,_⟩
 . simp[Value.ownBlock]
 . intro e;simp[Value.ownBlock] at e;subst e;rw[i] at a;injection a with a;injection a with _ e _;exact c e
theorem EK {w:X}{g b:Nat}{i:Array Value}{t e:Nat}{j:Nat×Nat}{n:Nat}{f:Nat->Value}(k:w.heap[g]? = M (K i t j))(h:w.rowIs b e n f)(d:t≠e):b≠g:=by
 rintro rfl;obtain⟨c,a,_⟩:=h;rw[k] at a;injection a with a;injection a with _ l _;exact d l
structure al (S:Nat->Prop)(w w':X):Prop where
 g:w'.os=w.os
 i:w'.tape=w.tape
 h:w'.output=w.output
 b:w.heap.size<=w'.heap.size
 c:∀k,k<w.heap.size->¬S k->w'.heap[k]? = w.heap[k]?
def aB (S:Nat->Prop)(w:X):Nat->Prop:=fun k=>S k∨w.heap.size<=k
section
variable {S S':Nat->Prop} {w w1 w':X}
theorem al.r (S:Nat->Prop)(w:X):al S w w:=⟨rfl,rfl,rfl,ak _,fun _ _ _=>rfl⟩
theorem al.e (h:al S w w')(a:∀k,S k->S' k):al S' w w':=⟨h.g,h.i,h.h,h.b,fun k b c=>h.c k b (fun e=>c (a k e))⟩
theorem al.a (h:al S w w1)(k:al S' w1 w')(c:∀i,S' i->i<w.heap.size->S i):al S w w' :=
 ⟨k.g.trans h.g,k.i.trans h.i,k.h.trans h.h,ce h.b k.b,fun i a b=>(k.c i (ml a h.b) (fun e=>b (c i e a))).trans (h.c i a b)⟩
theorem al.B (h:al S w w1)(k:al (aB S w) w1 w'):al S w w':=h.a k (fun i e a=>by
 rcases e with e | e
 . exact e
 . omega)
theorem al.q {row:Option Nat}(h:w.grownBy w' row)(a:∀k,row=M k->S k):al S w w':=⟨h.os,h.tape,h.output,h.size,fun k b c=>h.block k b (fun e=>c (a k e.symm))⟩
theorem al.d (h:Below w.heap.size w w'):al S w w':=⟨h.os,h.tape,h.output,h.size,fun k a _=>h.block k a⟩
theorem al.y (S:Nat->Prop)(w:X)(n:Nat):al S w (w.drewN n):=⟨rfl,rfl,rfl,ak _,fun _ _ _=>rfl⟩
theorem al.f (S:Nat->Prop)(w:X)(a:Addr)(v:Value)(h:S a.block):al S w (w.setCell a v):=⟨rfl,rfl,rfl,by simp[World.setCell],fun k _ b=>qx w a k v (fun e=>b (by rw[e];exact h))⟩
theorem al.below {B:Nat}(h:al S w w')(a:∀k,S k->B<=k)(b:B<=w.heap.size):Below B w w':=⟨h.g,h.i,h.h,h.b,fun k c=>h.c k (by omega) (fun e=>by have:=a k e;omega)⟩
theorem al.j (h:al S w w'){k:Nat}{o:Obj}(a:w.heap[k]? = M o)(b:¬S k):w'.heap[k]? = M o:=(h.c k (bH.1 a).1 b).trans a
theorem bC.f {b t:Nat}{ao:ai}{cap:Nat}{l:ae}(h:bC w b t ao cap l)(f:al S w w')(ha:∀a,ao=M a->¬S a.block):bC w' b t ao cap l:=by
 refine⟨h.1,?_⟩;rcases h.2 with i | ⟨g,c,d,e,j,k,r⟩
 . exact A i
 . refine R ⟨g,c,d,e,j,?_,r⟩;injection e with m n o;exact f.j k (ha _ m)
theorem aG.e {b t k:Nat}{ao:ai}{cap n:Nat}{xs:List Value}(h:aG w b t k ao cap n xs)(f:al S w w')(ha:∀a,ao=M a->¬S a.block):aG w' b t k ao cap n xs:=by
 refine⟨h.1,?_⟩;rcases h.2 with i | ⟨g,c,d,e,j,l,r⟩
 . exact A i
 . refine R ⟨g,c,d,e,j,?_,r⟩;injection e with m o p;exact f.j l (ha _ m)
theorem ay.e {ao:ai}{cap:Nat}{l:ae}(h:ay w ao cap l)(c:al S w w')(ha:∀a,ao=M a->¬S a.block):ay w' ao cap l :=
 h.ku fun a e v j b=>by
  have d:=c.c (a.add j).block (bI w _ b) (by rw[oB];exact ha a e);rw[wy d];exact b
theorem bx.q {ao:ai}{cap n:Nat}{xs:List Value}(h:bx w ao cap n xs)(c:al S w w')(ha:∀a,ao=M a->¬S a.block):bx w' ao cap n xs :=
 h.r fun a e v j b=>by
  have d:=c.c (a.add j).block (bI w _ b) (by rw[oB];exact ha a e);rw[wy d];exact b
end
structure jz (w:X)(S:Nat->Prop)(ao:ai)(cap n:Nat)(xs:List Value):Prop where
 b:bx w ao cap n xs
 c:xs≠[]->∀a,ao=M a->S a.block
structure dO (w:X)(S:Nat->Prop)(ao:ai)(cap:Nat)(l:ae):Prop where
 b:ay w ao cap l
 mem:l≠[]->∀a,ao=M a->S a.block
def bM (w:X)(S:Nat->Prop)(t:Nat)(ao:ai)(cap:Nat)(l:ae):Prop :=
 (l≠[]∧bC w 0 t ao cap l∧∀a,ao=M a->S a.block)∨(l=[]∧cap=0)
section
variable {w w':X} {S S':Nat->Prop} {t:Nat} {ao:ai} {cap n:Nat} {xs:List Value} {l:ae}
theorem jz.a (w:X)(S:Nat->Prop):jz w S U 0 0 []:=⟨bx.f w,fun e=>absurd rfl e⟩
theorem dO.e (w:X)(S:Nat->Prop):dO w S U 0 []:=⟨ay.d w,fun e=>absurd rfl e⟩
theorem bM.d (w:X)(S:Nat->Prop)(t:Nat):bM w S t U 0 []:=R ⟨rfl,rfl⟩
theorem jz.e (h:jz w S ao cap n xs)(c:∀k,k<w.heap.size->S k->S' k):jz w S' ao cap n xs:=⟨h.b,fun b a e=>by
 refine c _ ?_ (h.c b a e);subst e;cases xs with
 | nil=>exact absurd rfl b
 | cons u r =>
   have:=bI w _ (h.b.j (j:=0) rfl);rwa[oB] at this⟩
theorem dO.a (h:dO w S ao cap l)(c:∀k,k<w.heap.size->S k->S' k):dO w S' ao cap l:=⟨h.b,fun b a e=>by
 refine c _ ?_ (h.mem b a e);subst e;cases l with
 | nil=>exact absurd rfl b
 | cons u r =>
   have:=bI w _ (h.b.q 0 (by simp));rwa[oB] at this⟩
theorem bM.e (h:bM w S t ao cap l)(c:∀k,k<w.heap.size->S k->S' k):bM w S' t ao cap l:=by
 rcases h with ⟨d,b,f⟩ | h
 . exact A ⟨d,b,fun a e=>c _ (b.d a e).2 (f a e)⟩
 . exact R h
theorem bx.G (w:X)(h:bx w' ao cap n []):bx w ao cap n []:=⟨h.1,h.2.1,fun j u a=>by simp at a⟩
theorem ay.B (w:X)(h:ay w' ao cap []):ay w ao cap []:=⟨h.1,h.2.1,fun j a=>by simp at a⟩
theorem jz.d (h:jz w S ao cap n xs)(c:al S' w w')(d:∀k,S k->¬S' k):jz w' S ao cap n xs:=by
 refine⟨?_,h.c⟩;by_cases b:xs=[]
 . subst b;exact bx.G w' h.b
 . exact h.b.q c (fun a e=>d _ (h.c b a e))
theorem dO.d (h:dO w S ao cap l)(c:al S' w w')(d:∀k,S k->¬S' k):dO w' S ao cap l:=by
 refine⟨?_,h.mem⟩;by_cases b:l=[]
 . subst b;exact ay.B w' h.b
 . exact h.b.e c (fun a e=>d _ (h.mem b a e))
theorem bM.a (h:bM w S t ao cap l)(c:al S' w w')(d:∀k,S k->¬S' k):bM w' S t ao cap l:=by
 rcases h with ⟨f,g,b⟩ | h
 . exact A ⟨f,g.f c (fun a e=>d _ (b a e)),b⟩
 . exact R h
theorem bM.f (h:bM w S t ao cap l):ay w ao cap l:=by
 rcases h with ⟨_,a,_⟩ | ⟨rfl,rfl⟩
 . exact a.a
 . exact⟨ak _,fun _=>rfl,fun j b=>by simp at b⟩
theorem bM.r (h:bM w S t ao cap l):dO w S ao cap l:=⟨h.f,fun b a e=>by
 rcases h with ⟨_,_,c⟩ | ⟨d,_⟩
 . exact c a e
 . exact absurd d b⟩
end
structure eI (w:X)(S:Nat->Prop)(e:az)(s:cJ):Prop where
 c:jz w S s.e s.f e.e.length (aI e.e)
 b:dO w S s.a s.b e.a
 f:dO w S s.d s.c e.c
theorem eI.a {w:X}{S S':Nat->Prop}{e:az}{s:cJ}(h:eI w S e s)(a:∀k,k<w.heap.size->S k->S' k):eI w S' e s:=⟨h.c.e a,h.b.a a,h.f.a a⟩
theorem eI.d {w w':X}{S S':Nat->Prop}{e:az}{s:cJ}(h:eI w S e s)(a:al S' w w')(b:∀k,S k->¬S' k):eI w' S e s:=⟨h.c.d a b,h.b.d a b,h.f.d a b⟩
def cB (ps:List (az×cJ)):List Value:=ps.flatMap fun p=>p.1.d p.2
theorem tV (a:List (az×cJ)):(cB a).length=a.length*12:=by
 induction a with
 | nil=>rfl
 | cons p t b =>
   have e:(p.1.d p.2).length=12:=rfl;simp only[cB,oA,aF,bO] at b ⊢;rw[b,e];omega
theorem tW (a b:List (az×cJ)):cB (a++b)=cB a++cB b:=by simp[cB]
theorem rD (e:az)(s:cJ):∀u∈e.d s,u.oneCell'=true:=by
 intro u a;simp only[az.d,fr,List.not_mem_nil,or_false] at a;rcases a with rfl | rfl | rfl | rfl | rfl | rfl | rfl | rfl | rfl | rfl | rfl | rfl <;> rfl
theorem rP:∀(a:List (az×cJ)) (i:Nat) (b:i<a.length) (j:Nat),j<12->(cB a)[i*12+j]? = (a[i].1.d a[i].2)[j]?
 | p :: t, 0, _, j, hj => by
   show(p.1.d p.2++cB t)[0*12+j]? = _;rw[ql (by rw[show(p.1.d p.2).length=12 from rfl];omega),pj,dV];rfl
 | p :: t, i + 1, b, j, hj => by
   show(p.1.d p.2++cB t)[(i+1)*12+j]? = _;rw[qq (by rw[show(p.1.d p.2).length=12 from rfl];omega),show(p.1.d p.2).length=12 from rfl,show(i+1)*12+j-12=i*12+j by omega];exact rP t i (by simpa using b) j hj
theorem az.q (e:az)(s:cJ)(W:X)(t:Nat)(a:Nat×Nat){k:Nat}(b:W.heap.size=k):bx (W.alloc (K #[I J e.b,V e.i,V e.j,I J e.m,Z s.e e.e.length s.f,I J e.l,Z s.a e.a.length s.b,V e.g,V e.f,V e.h,Z s.d e.c.length s.c,I J e.k] t a)) (M ⟨k,0,U⟩) 1 1 (e.d s):=by
 subst b;exact bx.d W _ 1 t a
def ez (e:az)(s:cJ):Option Nat:=if e.a=[] then U else au s.a
inductive gE (w:X)(S:Nat->Prop)(tE tb:Nat):ai->Nat->List az->Prop
 | bare:gE w S tE tb U 0 []
 | laid (q:List (az×cJ)) (e:az) (s:cJ) (g cap:Nat) (own:aG w 0 tE 12 (M ⟨g,0,U⟩) cap (q.length+1) (cB (q++[(e,s)]))) (mem:S g)
  (ahead:∀p∈q,eI w (fun k=>(S k∧k≠g)∧ez e s≠M k) p.1 p.2)
  (fields:jz w (fun k=>(S k∧k≠g)∧ez e s≠M k) s.e s.f e.e.length (aI e.e))
  (ig:dO w (fun k=>(S k∧k≠g)∧ez e s≠M k) s.d s.c e.c)
  (bytes:bM w (fun k=>S k∧k≠g) tb s.a s.b e.a):gE w S tE tb (M ⟨g,0,U⟩) cap (q.map (·.1)++[e])
section
variable {w w':X} {S S':Nat->Prop} {tE tb:Nat} {ao:ai} {cap:Nat} {es:List az}
theorem gE.a (h:gE w S tE tb ao cap es)(f:al S' w w')(i:∀k,S k->¬S' k):gE w' S tE tb ao cap es:=by
 cases h with
 | bare=>exact .bare
 | laid q e s g cap own j c b l d =>
   exact .laid q e s g cap (own.e f (fun a e=>by injection e with e;subst e;exact i _ j)) j (fun p m=>(c p m).d f (fun k e=>i k e.1.1)) (b.d f (fun k e=>i k e.1.1)) (l.d f (fun k e=>i k e.1.1)) (d.a f (fun k e=>i k e.1))
theorem gE.d (h:gE w S tE tb ao cap es)(f:∀k,k<w.heap.size->S k->S' k):gE w S' tE tb ao cap es:=by
 cases h with
 | bare=>exact .bare
 | laid q e s g cap own i b a l c =>
   have d:∀k,k<w.heap.size->((S k∧k≠g)∧ez e s≠M k)->((S' k∧k≠g)∧ez e s≠M k):=fun k j e=>⟨⟨f k j e.1.1,e.1.2⟩,e.2⟩;exact .laid q e s g cap own (f g (own.d _ rfl).2 i) (fun p m=>(b p m).a d) (a.e d) (l.a d) (c.e (fun k j e=>⟨f k j e.1,e.2⟩))
theorem gE.f (h:gE w S tE tb ao cap es)(a:Below w.heap.size w w'):gE w' S tE tb ao cap es:=h.a (al.d (S:=fun _=>False) a) (fun _ _ e=>e)
theorem gE.e (h:gE w S tE tb ao cap es):∃j:List (az×cJ),j.map (·.1)=es∧aG w 0 tE 12 ao cap es.length (cB j)∧(∀a,ao=M a->S a.block)∧∀p∈j,eI w (fun k=>S k∧au ao≠M k) p.1 p.2:=by
 cases h with
 | bare=>exact⟨[],rfl,aG.f _ _ _ _,fun a e=>(by cases e),fun p c=>(by cases c)⟩
 | laid q e s g cap own l d b n f =>
   refine⟨q++[(e,s)],by simp,by simpa using own,fun a e=>(by injection e with e;subst e;exact l),fun p c=>?_⟩;have m:∀k,k<w.heap.size->((S k∧k≠g)∧ez e s≠M k)->(S k∧au (M ⟨g,0,U⟩)≠M k):=fun k _ e=>⟨e.1.1,fun i=>by injection i with i;exact e.1.2 i.symm⟩;rcases dm.1 c with c | c
   . exact(d p c).a m
   . simp at c;subst c;exact⟨b.e m,f.r.a (fun k _ e=>⟨e.1,fun i=>by injection i with i;exact e.2 i.symm⟩),n.a m⟩
theorem gE.q {q:List az}{x:az}(h:gE w S tE tb ao cap es)(f:es=q++[x]):∃(b:List (az×cJ)) (s:cJ) (g:Nat),b.map (·.1)=q∧ao=M ⟨g,0,U⟩ ∧
 aG w 0 tE 12 (M ⟨g,0,U⟩) cap (b.length+1) (cB (b++[(x,s)]))∧S g∧(∀p∈b,eI w (fun k=>(S k∧k≠g)∧ez x s≠M k) p.1 p.2) ∧
 jz w (fun k=>(S k∧k≠g)∧ez x s≠M k) s.e s.f x.e.length (aI x.e)∧dO w (fun k=>(S k∧k≠g)∧ez x s≠M k) s.d s.c x.c∧bM w (fun k=>S k∧k≠g) tb s.a s.b x.a:=by
 cases h with
 | bare=>simp at f
 | laid b e s g cap own c a fields i bytes =>
   obtain⟨j,d⟩:=wp f rfl;injection d with d _;subst d;exact⟨b,s,g,j,rfl,own,c,a,fields,i,bytes⟩
theorem gE.r {N:Nat->Prop}{j:List (az×cJ)}{gQ:ai}{b n:Nat}{e:az}{s:cJ}
 (B:∀a,ao=M a->S a.block) (C:∀p∈j,eI w (fun k=>S k∧au ao≠M k) p.1 p.2)
 (D:jz w (fun k=>N k∧ez e s≠M k) s.e s.f e.e.length (aI e.e)) (q:dO w (fun k=>N k∧ez e s≠M k) s.d s.c e.c) (x:bM w N tb s.a s.b e.a)
 (l:∀k,S k->¬N k) (y:aG w' 0 tE 12 gQ b n (cB (j++[(e,s)]))) (G:n=j.length+1)
 (H:w.grownBy w' (au ao)) (r:au gQ=au ao∨au gQ=M w.heap.size) :
 gE w' (fun k=>S k∨N k∨k=w.heap.size) tE tb gQ b (j.map (·.1)++[e]):=by
 subst G;have o:=al.q H (fun k e=>e);have m:∀k,au ao=M k->S k:=fun k e=>by
  cases ao with
  | none=>cases e
  | some a=>injection e with e;subst e;exact B a rfl
 obtain⟨g,rfl⟩:∃g,gQ=M ⟨g,0,U⟩:=by
  rcases y.2 with ⟨_,h⟩ | ⟨g,cap,L,h,_⟩
  . omega
  . injection h with h _ _;exact⟨g,h⟩
 have t:au ao=M g∨g=w.heap.size:=by
  rcases r with h | h
  . exact A h.symm
  . injection h with h;exact R h
 have c:∀k,ez e s=M k->N k:=fun k h=>by
  unfold ez at h;split at h
  . cases h
  . rcases x with ⟨_,_,T⟩ | ⟨W,_⟩
    . cases u:s.a with
      | none=>rw[u] at h;cases h
      | some a=>rw[u] at h;injection h with h;subst h;exact T a u
    . contradiction
 have d:∀k,k<w.heap.size->N k->k≠g:=fun k f v e=>by
  subst e;rcases t with h | h
  . exact l k (m k h) v
  . omega
 refine .laid j e s g b y ?_ (fun p q=>?_) ?_ ?_ ?_
 . rcases t with h | h
   . exact A (m g h)
   . exact R (R h)
 . refine((C p q).a (S':=fun k=>((S k∨N k∨k=w.heap.size)∧k≠g)∧ez e s≠M k∧au ao≠M k) (fun k f h=>⟨⟨A h.1,fun e=>?_⟩,fun i=>l k h.1 (c k i),h.2⟩) |>.d o (fun k h=>h.2.2)).a (fun k _ h=>⟨h.1,h.2.1⟩);subst e;rcases t with z | z
   . exact h.2 z
   . omega
 . exact(D.e (S':=fun k=>((S k∨N k∨k=w.heap.size)∧k≠g)∧ez e s≠M k∧N k) (fun k f h=>⟨⟨R (A h.1),d k f h.1⟩,h.2,h.1⟩) |>.d o (fun k h i=>l k (m k i) h.2.2)).e (fun k _ h=>⟨h.1,h.2.1⟩)
 . exact(q.a (S':=fun k=>((S k∨N k∨k=w.heap.size)∧k≠g)∧ez e s≠M k∧N k) (fun k f h=>⟨⟨R (A h.1),d k f h.1⟩,h.2,h.1⟩) |>.d o (fun k h i=>l k (m k i) h.2.2)).a (fun k _ h=>⟨h.1,h.2.1⟩)
 . exact(x.e (S':=fun k=>((S k∨N k∨k=w.heap.size)∧k≠g)∧N k) (fun k f h=>⟨⟨R (A h),d k f h⟩,h⟩) |>.a o (fun k h i=>l k (m k i) h.2)).e (fun k _ h=>h.1)
end
def ms (w:X)(S:Nat->Prop)(tE:Nat)(ao:ai)(cap:Nat)(es:List az):Prop :=
 ∃ps:List (az×cJ),ps.map (·.1)=es∧aG w 0 tE 12 ao cap es.length (cB ps)∧(∀a,ao=M a->S a.block)∧∀p∈ps,eI w (fun k=>S k∧au ao≠M k) p.1 p.2
section
variable {w w':X} {S S' N:Nat->Prop} {tE tb:Nat} {ao jB gQ:ai} {cap cap2 cap' n:Nat} {es es2:List az}
theorem gE.j (h:gE w S tE tb ao cap es):ms w S tE ao cap es:=h.e
theorem ms.j (h:ms w S tE ao cap es)(b:al S' w w')(c:∀k,S k->¬S' k):ms w' S tE ao cap es:=by
 obtain⟨f,g,i,d,j⟩:=h;exact⟨f,g,i.e b (fun a e=>c _ (d a e)),d,fun p l=>(j p l).d b (fun k e=>c k e.1)⟩
theorem ms.a (h:ms w S tE ao cap es)(b:∀k,k<w.heap.size->S k->S' k):ms w S' tE ao cap es:=by
 obtain⟨d,f,c,g,i⟩:=h;exact⟨d,f,c,fun a e=>b _ (c.d a e).2 (g a e),fun p j=>(i p j).a (fun k l e=>⟨b k l e.1,e.2⟩)⟩
theorem ms.d (h:ms w S tE ao cap es):sJ w ao cap es:=by
 obtain⟨d,rfl,g,_,k⟩:=h;have e:=g.a;refine⟨e.1,e.2.1,fun j l=>?_⟩;have c:j<d.length:=by simpa using l
 have m:0<(cB d).length:=by rw[tV];omega
 obtain⟨b,o,rfl,p⟩:=e.e m;refine⟨b,o,d[j].2,rfl,?_⟩;rw[dH];have a:=k _ (dG c);refine⟨fun i u f=>?_,a.c.b,a.b.b,a.f.b⟩;have q:i<12:=(fB.1 f).1;rw[<-rP _ j c i q] at f;have:=p _ _ f;rw[fC];exact this
theorem ms.q {c ps2:List (az×cJ)}(m:∀a,ao=M a->S a.block)(q:∀p∈c,eI w (fun k=>S k∧au ao≠M k) p.1 p.2)(r:∀p∈ps2,eI w N p.1 p.2)(s:∀k,S k->¬N k)
 (t:aG w' 0 tE 12 gQ cap' n (cB c++cB ps2)) (u:n=c.length+ps2.length) (v:w.grownBy w' (au ao)) (d:au gQ=au ao∨au gQ=M w.heap.size) :
 ms w' (fun k=>S k∨N k∨k=w.heap.size) tE gQ cap' (c.map (·.1)++ps2.map (·.1)):=by
 subst u;have o:=al.q v (fun k e=>e);have f:∀k,k<w.heap.size->au ao≠M k->au gQ≠M k:=fun k b h e=>by
  rcases d with g | g
  . rw[g] at e;exact h e
  . rw[g] at e;injection e with e;omega
 refine⟨c++ps2,by simp,?_,fun a e=>?_,fun p i=>?_⟩
 . rw[tW];simpa using t
 . subst e;rcases d with g | g
   . cases ao with
     | none=>simp[au] at g
     | some l=>simp only[au,iV] at g;rw[g];exact A (m l rfl)
   . simp only[au,iV] at g;exact R (R g)
 . rcases dm.1 i with i | i
   . exact((q p i).a (S':=fun k=>(S k∧au ao≠M k)∧k<w.heap.size) (fun k b e=>⟨e,b⟩)).d o (fun k e=>e.1.2) |>.a (fun k _ e=>⟨A e.1.1,f k e.2 e.1.2⟩)
   . have j:∀k,N k->au ao≠M k:=fun k b e=>by
      cases ao with
      | none=>simp[au] at e
      | some l=>simp only[au,iV] at e;exact s _ (m l rfl) (e▸b)
     exact((r p i).a (S':=fun k=>N k∧k<w.heap.size) (fun k b e=>⟨e,b⟩)).d o (fun k e=>j k e.1) |>.a (fun k _ e=>⟨R (A e.1),f k e.2 (j k e.1)⟩)
end
def jA (w:X)(S:Nat->Prop)(tE:Nat)(ao:ai)(cap:Nat)(es:List az):Prop :=
 ∃ps:List (az×cJ),ps.map (·.1)=es∧aG w 0 tE 12 ao cap es.length (cB ps)∧(∀a,ao=M a->S a.block)∧(∀p∈ps,eI w (fun k=>S k∧au ao≠M k) p.1 p.2)∧∀p∈ps,p.2.d=U∧p.2.c=0
section
variable {w w':X} {S S' N:Nat->Prop} {tE:Nat} {ao gQ:ai} {cap cap' n:Nat} {es:List az}
theorem jA.f (h:jA w S tE ao cap es):ms w S tE ao cap es:=by grind [jA,ms]
theorem jA.q (w:X)(S:Nat->Prop)(tE:Nat):jA w S tE U 0 []:=⟨[],rfl,aG.f _ _ _ _,fun a e=>(by cases e),fun p b=>(by cases b),fun p b=>(by cases b)⟩
theorem jA.d (h:jA w S tE ao cap es)(b:al S' w w')(c:∀k,S k->¬S' k):jA w' S tE ao cap es:=by
 obtain⟨f,g,i,d,j,l⟩:=h;exact⟨f,g,i.e b (fun a e=>c _ (d a e)),d,fun p m=>(j p m).d b (fun k e=>c k e.1),l⟩
theorem jA.a (h:jA w S tE ao cap es)(b:∀k,k<w.heap.size->S k->S' k):jA w S' tE ao cap es:=by
 obtain⟨d,f,c,g,i,j⟩:=h;exact⟨d,f,c,fun a e=>b _ (c.d a e).2 (g a e),fun p l=>(i p l).a (fun k m e=>⟨b k m e.1,e.2⟩),j⟩
theorem jA.e {c ps2:List (az×cJ)}(m:∀a,ao=M a->S a.block)(q:∀p∈c,eI w (fun k=>S k∧au ao≠M k) p.1 p.2)(r:∀p∈ps2,eI w N p.1 p.2)(s:∀k,S k->¬N k)
 (t:aG w' 0 tE 12 gQ cap' n (cB c++cB ps2)) (u:n=c.length+ps2.length) (v:w.grownBy w' (au ao)) (f:au gQ=au ao∨au gQ=M w.heap.size) (x:∀p∈c,p.2.d=U∧p.2.c=0) (y:∀p∈ps2,p.2.d=U∧p.2.c=0) :
 jA w' (fun k=>S k∨N k∨k=w.heap.size) tE gQ cap' (c.map (·.1)++ps2.map (·.1)):=by
 subst u;have o:=al.q v (fun k e=>e);have i:∀k,k<w.heap.size->au ao≠M k->au gQ≠M k:=fun k d h e=>by
  rcases f with g | g
  . rw[g] at e;exact h e
  . rw[g] at e;injection e with e;omega
 refine⟨c++ps2,by simp,?_,fun a e=>?_,fun p b=>?_,fun p b=>(dm.1 b).elim (x p) (y p)⟩
 . rw[tW];simpa using t
 . subst e;rcases f with g | g
   . cases ao with
     | none=>simp[au] at g
     | some l=>simp only[au,iV] at g;rw[g];exact A (m l rfl)
   . simp only[au,iV] at g;exact R (R g)
 . rcases dm.1 b with b | b
   . exact((q p b).a (S':=fun k=>(S k∧au ao≠M k)∧k<w.heap.size) (fun k d e=>⟨e,d⟩)).d o (fun k e=>e.1.2) |>.a (fun k _ e=>⟨A e.1.1,i k e.2 e.1.2⟩)
   . have j:∀k,N k->au ao≠M k:=fun k d e=>by
      cases ao with
      | none=>simp[au] at e
      | some l=>simp only[au,iV] at e;exact s _ (m l rfl) (e▸d)
     exact((r p b).a (S':=fun k=>N k∧k<w.heap.size) (fun k d e=>⟨e,d⟩)).d o (fun k e=>j k e.1) |>.a (fun k _ e=>⟨R (A e.1),i k e.2 (j k e.1)⟩)
end
abbrev dC:=X->(Nat->Prop)->Prop
structure bQ (aaw:dC):Prop where
 b:∀{w w':X} {S S':Nat->Prop},aaw w S->al S' w w'->(∀k,S k->¬S' k)->aaw w' S
 c:∀{w:X} {S S':Nat->Prop},aaw w S->(∀k,k<w.heap.size->S k->S' k)->aaw w S'
theorem bQ.a:bQ (fun _ _=>True):=⟨fun _ _ _=>trivial,fun _ _=>trivial⟩
section
variable {C:Type} {κ:Nat->C} {w w':X} {aaw X':C->dC} {c:C}
def cA (κ:Nat->C)(n:Nat)(c:C):Nat->C:=fun k=>if k<n then κ k else c
theorem fF {n k:Nat}(h:k<n):cA κ n c k=κ k:=if_pos h
theorem qz {n k:Nat}(h:n<=k):cA κ n c k=c:=if_neg (by omega)
def fm (aaw:C->dC)(κ:Nat->C)(w:X):Prop:=∀d,aaw d w (fun k=>κ k=d)
theorem fm.d (L:∀d,bQ (aaw d))(h:fm aaw κ w)(a:Below w.heap.size w w'):fm aaw κ w':=fun d=>(L d).b (h d) (al.d (S:=fun _=>False) a) (fun _ _ e=>e)
theorem fm.a (L:∀d,bQ (aaw d))(h:fm aaw κ w){T N:Nat->Prop}(f:al T w w')(g:∀k,T k->κ k=c)(i:bQ (X' c))(j:X' c w' N)(l:∀k,N k->κ k=c∨w.heap.size<=k)(m:∀d,d≠c->X' d=aaw d):fm X' (cA κ w.heap.size c) w':=by
 intro d;by_cases b:d=c
 . subst b;refine i.c j (fun k _ e=>?_);show cA κ w.heap.size d k=d;rcases fe k w.heap.size with a | a
   . rw[fF a];rcases l k e with e | e
     . exact e
     . omega
   . exact qz a
 . rw[m d b];have n:=(L d).c (h d) (S':=fun k=>κ k=d∧k<w.heap.size) (fun k a e=>⟨e,a⟩);have o:=(L d).b n f (fun k e p=>b (e.1.symm.trans (g k p)));exact(L d).c o (fun k _ e=>by show cA κ w.heap.size c k=d;rw[fF e.2];exact e.1)
open Classical in
theorem fm.e (L:∀d,bQ (aaw d))(h:fm aaw κ w){p e:C}(q:p≠e){T P E:Nat->Prop}(r:al T w w')(s:∀k,T k->κ k=p)(t:X' p w' P)(u:bQ (X' p))(hd:∀k,P k->¬E k)(v:∀k,P k->κ k=p∨w.heap.size<=k)(l:∀k,E k->κ k=p∨w.heap.size<=k)
 (b:∀S:Nat->Prop,aaw e w' (fun k=>κ k=e∧k<w.heap.size)->(∀k,κ k=e∧k<w.heap.size->S k)->(∀k,E k->S k)->X' e w' S) (x:∀d,d≠p->d≠e->X' d=aaw d) :
 ∃f,fm X' f w'∧(∀k,k<w.heap.size->f k=κ k∨(κ k=p∧f k=e))∧∀k,w.heap.size<=k->f k=p∨f k=e:=by
 refine⟨fun k=>if E k then e else cA κ w.heap.size p k,fun d=>?_,fun k a=>?_,fun k a=>?_⟩
 . by_cases g:d=p
   . subst g;refine u.c t (fun k _ a=>?_);show(if E k then e else cA κ w.heap.size d k)=d;rw[if_neg (hd k a)];rcases fe k w.heap.size with j | j
     . rw[fF j];rcases v k a with i | i
       . exact i
       . omega
     . exact qz j
   . have m:∀k,κ k=d∧k<w.heap.size->(if E k then e else cA κ w.heap.size p k)=d:=fun k a=>by
      have y:¬E k:=fun i=>by
       rcases l k i with i | i
       . exact g (a.1.symm.trans i)
       . omega
      rw[if_neg y,fF a.2];exact a.1
     have n:=(L d).b ((L d).c (h d) (S':=fun k=>κ k=d∧k<w.heap.size) (fun k a e=>⟨e,a⟩)) r (fun k e z=>g (e.1.symm.trans (s k z)));by_cases o:d=e
     . subst o;exact b _ n m (fun k a=>if_pos a)
     . rw[x d g o];exact(L d).c n (fun k _ a=>m k a)
 . show(if E k then e else cA κ w.heap.size p k)=κ k∨_∧(if E k then e else cA κ w.heap.size p k)=e;by_cases b:E k
   . rcases l k b with i | i
     . exact R ⟨i,if_pos b⟩
     . omega
   . exact A (by rw[if_neg b,fF a])
 . show(if E k then e else cA κ w.heap.size p k)=p∨(if E k then e else cA κ w.heap.size p k)=e;by_cases b:E k
   . exact R (if_pos b)
   . exact A (by rw[if_neg b,qz a])
end
structure nM where
 a:ai
 b:Nat
def mc (u:aK)(s:nM):List Value:=[I J u.b,I J u.a,I J u.n,Z s.a u.c.length s.b]
def lm (us:List (aK×nM)):List Value:=us.flatMap fun x=>mc x.1 x.2
theorem Ox (a b:List (aK×nM)):lm (a++b)=lm a++lm b:=by simp[lm]
theorem Uc (u:aK)(s:nM):lm [(u,s)]=mc u s:=by simp[lm]
theorem Oy (a:List (aK×nM)):(lm a).length=a.length*4:=by
 induction a with
 | nil=>rfl
 | cons p t b =>
   have e:(mc p.1 p.2).length=4:=rfl;simp only[lm,oA,aF,bO] at b ⊢;rw[b,e];omega
theorem Ud (u:aK)(s:nM):∀v∈mc u s,v.oneCell'=true:=by
 intro v a;simp only[mc,fr,List.not_mem_nil,or_false] at a;rcases a with rfl | rfl | rfl | rfl <;> rfl
theorem uT:∀(a:List (aK×nM)) (i:Nat) (b:i<a.length) (j:Nat),j<4->(lm a)[i*4+j]? = (mc a[i].1 a[i].2)[j]?
 | p :: t, 0, _, j, hj => by
   show(mc p.1 p.2++lm t)[0*4+j]? = _;rw[ql (by rw[show(mc p.1 p.2).length=4 from rfl];omega),pj,dV];rfl
 | p :: t, i + 1, b, j, hj => by
   show(mc p.1 p.2++lm t)[(i+1)*4+j]? = _;rw[qq (by rw[show(mc p.1 p.2).length=4 from rfl];omega),show(mc p.1 p.2).length=4 from rfl,show(i+1)*4+j-4=i*4+j by omega];exact uT t i (by simpa using b) j hj
def sB (w:X)(ao:ai)(cap:Nat)(l:List aK):Prop:=∃us:List (aK×nM),us.map (·.1)=l∧bx w ao cap l.length (lm us)∧∀x∈us,ay w x.2.a x.2.b x.1.c
theorem sB.d {w w':X}{ao:ai}{cap:Nat}{l:List aK}(h:sB w ao cap l)(a:Below w.heap.size w w'):sB w' ao cap l:=by
 obtain⟨b,c,d,e⟩:=h;exact⟨b,c,d.a a,fun x f=>(e x f).a a⟩
theorem sB.a {w:X}{ao:ai}{cap:Nat}{l:List aK}(h:sB w ao cap l)(k:Nat)(f:k<l.length):∃(b o:Nat) (s:nM),ao=M ⟨b,o,U⟩∧w.cell? ⟨b,o+k*4,U⟩=M (I J l[k].b)∧w.cell? ⟨b,o+k*4+1,U⟩=M (I J l[k].a)∧w.cell? ⟨b,o+k*4+2,U⟩=M (I J l[k].n)∧w.cell? ⟨b,o+k*4+3,U⟩=M (Z s.a l[k].c.length s.b)∧ay w s.a s.b l[k].c:=by
 obtain⟨c,rfl,g,i⟩:=h;have a:k<c.length:=by simpa using f
 obtain⟨b,o,rfl,d⟩:=g.e (by rw[Oy];omega);have j:=i _ (dG a);have e:=uT c k a 0 (by decide);have m:=uT c k a 1 (by decide);have p:=uT c k a 2 (by decide);have q:=uT c k a 3 (by decide);refine⟨b,o,c[k].2,rfl,?_,?_,?_,?_,?_⟩
 . rw[dH];exact d _ _ (by rw[lC] at e;exact e)
 . rw[dH,fC];exact d _ _ m
 . rw[dH,fC];exact d _ _ p
 . rw[dH,fC];exact d _ _ q
 . rw[dH];exact j
def lM (w:X)(S:Nat->Prop)(tU:Nat)(ao:ai)(cap:Nat)(l:List aK):Prop :=
 ∃us:List (aK×nM),us.map (·.1)=l∧aG w 0 tU 4 ao cap l.length (lm us)∧(∀a,ao=M a->S a.block)∧∀x∈us,dO w (fun k=>S k∧au ao≠M k) x.2.a x.2.b x.1.c
section
variable {w w':X} {S S':Nat->Prop} {tU:Nat} {ao:ai} {cap:Nat} {l:List aK}
theorem lM.j (w:X)(S:Nat->Prop)(tU:Nat):lM w S tU U 0 []:=⟨[],rfl,aG.f _ _ _ _,fun a e=>(by cases e),fun p b=>(by cases b)⟩
theorem lM.f (h:lM w S tU ao cap l):sB w ao cap l:=by
 obtain⟨a,b,c,_,d⟩:=h;exact⟨a,b,c.a,fun x e=>(d x e).b⟩
theorem lM.e (h:lM w S tU ao cap l)(b:al S' w w')(c:∀k,S k->¬S' k):lM w' S tU ao cap l:=by
 obtain⟨f,g,i,d,j⟩:=h;exact⟨f,g,i.e b (fun a e=>c _ (d a e)),d,fun x m=>(j x m).d b (fun k e=>c k e.1)⟩
theorem lM.a (h:lM w S tU ao cap l)(b:∀k,k<w.heap.size->S k->S' k):lM w S' tU ao cap l:=by
 obtain⟨d,f,c,g,i⟩:=h;exact⟨d,f,c,fun a e=>b _ (c.d a e).2 (g a e),fun x j=>(i x j).a (fun k m e=>⟨b k m e.1,e.2⟩)⟩
theorem lM.d (h:lM w S tU ao cap l)(a:Below w.heap.size w w'):lM w' S tU ao cap l:=h.e (al.d (S:=fun _=>False) a) (fun _ _ e=>e)
theorem lM.q {W:X}(h:lM W S tU ao cap l)(m:Obj):∃xs,aG (W.alloc m) 0 tU 4 ao cap l.length xs ∧
 ∀gQ b w' (u:aK) (s:nM) (N:Nat->Prop),dO W N s.a s.b u.c->(∀k,S k->¬N k)->aG w' 0 tU 4 gQ b (l.length+1) (xs++mc u s)->(W.alloc m).grownBy w' (au ao)->(au gQ=au ao∨au gQ=M (W.alloc m).heap.size)->lM w' (fun k=>S k∨N k∨W.heap.size<=k) tU gQ b (l++[u])∧al S W w':=by
 obtain⟨p,r,t,v,y⟩:=h;have q:Below W.heap.size W (W.alloc m):=(aq _ _).alloc (ak _) _;have n:∀k,au ao=M k->S k:=fun k e=>by
  cases ao with
  | none=>cases e
  | some a=>injection e with e;subst e;exact v a rfl
 refine⟨lm p,t.r q,fun gQ b w' u s N z B C D d=>?_⟩;have o:=(al.d q).a (al.q D (fun k e=>e)) (fun _ e _=>e);have f:∀k,k<W.heap.size->au ao≠M k->au gQ≠M k:=fun k c h e=>by
  rcases d with g | g
  . rw[g] at e;exact h e
  . rw[g,ch] at e;injection e with e;omega
 refine⟨⟨p++[(u,s)],by simp[r],by rw[Ox,Uc,aF];exact C,fun a e=>?_,fun x i=>?_⟩,o.e (fun k e=>n k e)⟩
 . subst e;rcases d with g | g
   . exact A (n _ (g.symm.trans rfl))
   . rw[ch] at g;injection g with g;exact R (R (by omega))
 . rcases dm.1 i with i | i
   . exact(((y x i).a (S':=fun k=>(S k∧au ao≠M k)∧k<W.heap.size) (fun k c e=>⟨e,c⟩)).d o (fun k e=>e.1.2)).a (fun k _ e=>⟨A e.1.1,f k e.2 e.1.2⟩)
   . rw[cD.1 i];have j:∀k,N k->au ao≠M k:=fun k c e=>B k (n k e) c;exact((z.a (S':=fun k=>N k∧k<W.heap.size) (fun k c e=>⟨e,c⟩)).d o (fun k e=>j k e.1)).a (fun k _ e=>⟨R (A e.1),f k e.2 (j k e.1)⟩)
end
theorem qN {W:X}{g t:Nat}{f i j l:Value}(h:W.heap[g]? = M (K #[f,i,j,l] t (0,0)))(a b c d:Value):
 ((((W.setCell ⟨g,0,U⟩ a).setCell ⟨g,1,U⟩ b).setCell ⟨g,2,U⟩ c).setCell ⟨g,3,U⟩ d).heap[g]? = M (K #[a,b,c,d] t (0,0))∧al (fun k=>k=g) W ((((W.setCell ⟨g,0,U⟩ a).setCell ⟨g,1,U⟩ b).setCell ⟨g,2,U⟩ c).setCell ⟨g,3,U⟩ d):=by
 have m:=aQ W g 0 _ _ a h;have n:=aQ _ g 1 _ _ b m;have o:=aQ _ g 2 _ _ c n;have p:=aQ _ g 3 _ _ d o;have q:=al.f (fun k=>k=g) W ⟨g,0,U⟩ a rfl;have r:=al.f (fun k=>k=g) (W.setCell ⟨g,0,U⟩ a) ⟨g,1,U⟩ b rfl;have s:=al.f (fun k=>k=g) ((W.setCell ⟨g,0,U⟩ a).setCell ⟨g,1,U⟩ b) ⟨g,2,U⟩ c rfl;have u:=al.f (fun k=>k=g) (((W.setCell ⟨g,0,U⟩ a).setCell ⟨g,1,U⟩ b).setCell ⟨g,2,U⟩ c) ⟨g,3,U⟩ d rfl;exact⟨p,((q.a r (fun _ e _=>e)).a s (fun _ e _=>e)).a u (fun _ e _=>e)⟩
theorem iZ {W:X}{g t:Nat}{a b c d:Value}(h:W.heap[g]? = M (K #[a,b,c,d] t (0,0))):(W.cell? ⟨g,0,U⟩=M a∧W.cell? ⟨g,1,U⟩=M b∧W.cell? ⟨g,2,U⟩=M c∧W.cell? ⟨g,3,U⟩=M d)∧(W.frozen? ⟨g,0,U⟩=F∧W.frozen? ⟨g,1,U⟩=F∧W.frozen? ⟨g,2,U⟩=F∧W.frozen? ⟨g,3,U⟩=F) :=
 ⟨⟨am W g 0 _ _ _ h,am W g 1 _ _ _ h,am W g 2 _ _ _ h,am W g 3 _ _ _ h⟩,aD W g 0 _ _ h,aD W g 1 _ _ h,aD W g 2 _ _ h,aD W g 3 _ _ h⟩
theorem wk {W:X}{g t:Nat}{a b c:Value}(h:W.heap[g]? = M (K #[a,b,c] t (0,0))):(W.cell? ⟨g,0,U⟩=M a∧W.cell? ⟨g,1,U⟩=M b∧W.cell? ⟨g,2,U⟩=M c)∧(W.frozen? ⟨g,0,U⟩=F∧W.frozen? ⟨g,1,U⟩=F∧W.frozen? ⟨g,2,U⟩=F) :=
 ⟨⟨am W g 0 _ _ _ h,am W g 1 _ _ _ h,am W g 2 _ _ _ h⟩,aD W g 0 _ _ h,aD W g 1 _ _ h,aD W g 2 _ _ h⟩
