import Derived.Test.YtodmelffkfbalaaGreatDoorPk1
import Derived.Deep.OwnRows
import Derived.Test.YtodmelffkfbalaaGreatDoorPk6
open Go.Value renaming int->I,string->V,slice->Z
open Go.IntKind renaming i64->J
open Go.Obj renaming cells->K
open Option renaming none->U,some->M
open Bool renaming false->F
open Or renaming inl->A,inr->R
open Go renaming World->X
namespace Go.Proofs.YtodmelffkfbalaaGreatDoor
open Go.RowKit
theorem gH {w:X}{g:Nat}{d:Array Value}{t:Nat}{f:Nat×Nat}{b e size:Nat}{v:Value}{n:Nat}{xs:List Value}(i:w.heap[g]? = M (K d t f))(h:w.ownsRow b e size v n xs)(c:t≠e):v.ownBlock≠M g:=by
 rcases h.2 with ⟨rfl,_⟩ | ⟨l,j,k,rfl,_,a,_⟩
 . simp[Value.ownBlock]
 . intro e;simp[Value.ownBlock] at e;subst e;rw[i] at a;injection a with a;injection a with _ e _;exact c e
theorem Eo {w:X}{g b:Nat}{i:Array Value}{t e:Nat}{j:Nat×Nat}{n:Nat}{f:Nat->Value}(k:w.heap[g]? = M (K i t j))(h:w.rowIs b e n f)(d:t≠e):b≠g:=by
 rintro rfl;obtain⟨c,a,_⟩:=h;rw[k] at a;injection a with a;injection a with _ l _;exact d l
structure am (S:Nat->Prop)(w w':X):Prop where
 d:w'.os=w.os
 g:w'.tape=w.tape
 e:w'.output=w.output
 b:w.heap.size<=w'.heap.size
 c:∀k,k<w.heap.size->¬S k->w'.heap[k]? = w.heap[k]?
def ay (S:Nat->Prop)(w:X):Nat->Prop:=fun k=>S k∨w.heap.size<=k
section
variable {S S':Nat->Prop} {w w1 w':X}
theorem am.B (S:Nat->Prop)(w:X):am S w w:=⟨rfl,rfl,rfl,ak _,fun _ _ _=>rfl⟩
theorem am.j (h:am S w w')(a:∀k,S k->S' k):am S' w w':=⟨h.d,h.g,h.e,h.b,fun k b c=>h.c k b (fun e=>c (a k e))⟩
theorem am.a (h:am S w w1)(k:am S' w1 w')(c:∀i,S' i->i<w.heap.size->S i):am S w w' :=
 ⟨k.d.trans h.d,k.g.trans h.g,k.e.trans h.e,cq h.b k.b,fun i a b=>(k.c i (mC a h.b) (fun e=>b (c i e a))).trans (h.c i a b)⟩
theorem am.jK (h:am S w w1)(k:am (ay S w) w1 w'):am S w w':=h.a k (fun i e a=>by
 rcases e with e | e
 . exact e
 . omega)
theorem am.G {row:Option Nat}(h:w.grownBy w' row)(a:∀k,row=M k->S k):am S w w':=⟨h.os,h.tape,h.output,h.size,fun k b c=>h.block k b (fun e=>c (a k e.symm))⟩
theorem am.f (h:Below w.heap.size w w'):am S w w':=⟨h.os,h.tape,h.output,h.size,fun k a _=>h.block k a⟩
theorem am.H (S:Nat->Prop)(w:X)(n:Nat):am S w (w.drewN n):=⟨rfl,rfl,rfl,ak _,fun _ _ _=>rfl⟩
theorem am.r (S:Nat->Prop)(w:X)(a:Addr)(v:Value)(h:S a.block):am S w (w.setCell a v):=⟨rfl,rfl,rfl,by simp[World.setCell],fun k _ b=>pP w a k v (fun e=>b (by rw[e];exact h))⟩
theorem am.below {B:Nat}(h:am S w w')(a:∀k,S k->B<=k)(b:B<=w.heap.size):Below B w w':=⟨h.d,h.g,h.e,h.b,fun k c=>h.c k (by omega) (fun e=>by have:=a k e;omega)⟩
theorem am.y (h:am S w w'){k:Nat}{o:Obj}(a:w.heap[k]? = M o)(b:¬S k):w'.heap[k]? = M o:=(h.c k (bO.1 a).1 b).trans a
theorem bl.j {b t:Nat}{ao:ag}{cap:Nat}{l:ab}(h:bl w b t ao cap l)(f:am S w w')(ha:∀a,ao=M a->¬S a.block):bl w' b t ao cap l:=by
 refine⟨h.1,?_⟩;rcases h.2 with i | ⟨g,c,d,e,j,k,r⟩
 . exact A i
 . refine R ⟨g,c,d,e,j,?_,r⟩;injection e with m n o;exact f.y k (ha _ m)
theorem aK.j {b t k:Nat}{ao:ag}{cap n:Nat}{xs:List Value}(h:aK w b t k ao cap n xs)(f:am S w w')(ha:∀a,ao=M a->¬S a.block):aK w' b t k ao cap n xs:=by
 refine⟨h.1,?_⟩;rcases h.2 with i | ⟨g,c,d,e,j,l,r⟩
 . exact A i
 . refine R ⟨g,c,d,e,j,?_,r⟩;injection e with m o p;exact f.y l (ha _ m)
theorem aB.y {ao:ag}{cap:Nat}{l:ab}(h:aB w ao cap l)(c:am S w w')(ha:∀a,ao=M a->¬S a.block):aB w' ao cap l :=
 h.mI fun a e v j b=>by
  have d:=c.c (a.add j).block (bY w _ b) (by rw[oc];exact ha a e);rw[vw d];exact b
theorem bq.B {ao:ag}{cap n:Nat}{xs:List Value}(h:bq w ao cap n xs)(c:am S w w')(ha:∀a,ao=M a->¬S a.block):bq w' ao cap n xs :=
 h.G fun a e v j b=>by
  have d:=c.c (a.add j).block (bY w _ b) (by rw[oc];exact ha a e);rw[vw d];exact b
end
structure js (w:X)(S:Nat->Prop)(ao:ag)(cap n:Nat)(xs:List Value):Prop where
 b:bq w ao cap n xs
 c:xs≠[]->∀a,ao=M a->S a.block
structure dL (w:X)(S:Nat->Prop)(ao:ag)(cap:Nat)(l:ab):Prop where
 b:aB w ao cap l
 c:l≠[]->∀a,ao=M a->S a.block
def bK (w:X)(S:Nat->Prop)(t:Nat)(ao:ag)(cap:Nat)(l:ab):Prop :=
 (l≠[]∧bl w 0 t ao cap l∧∀a,ao=M a->S a.block)∨(l=[]∧cap=0)
section
variable {w w':X} {S S':Nat->Prop} {t:Nat} {ao:ag} {cap n:Nat} {xs:List Value} {l:ab}
theorem js.a (w:X)(S:Nat->Prop):js w S U 0 0 []:=⟨bq.r w,fun e=>absurd rfl e⟩
theorem dL.j (w:X)(S:Nat->Prop):dL w S U 0 []:=⟨aB.f w,fun e=>absurd rfl e⟩
theorem bK.f (w:X)(S:Nat->Prop)(t:Nat):bK w S t U 0 []:=R ⟨rfl,rfl⟩
theorem js.j (h:js w S ao cap n xs)(c:∀k,k<w.heap.size->S k->S' k):js w S' ao cap n xs:=⟨h.b,fun b a e=>by
 refine c _ ?_ (h.c b a e);subst e;cases xs with
 | nil=>exact absurd rfl b
 | cons u r =>
   have:=bY w _ (h.b.y (j:=0) rfl);rwa[oc] at this⟩
theorem dL.a (h:dL w S ao cap l)(c:∀k,k<w.heap.size->S k->S' k):dL w S' ao cap l:=⟨h.b,fun b a e=>by
 refine c _ ?_ (h.c b a e);subst e;cases l with
 | nil=>exact absurd rfl b
 | cons u r =>
   have:=bY w _ (h.b.j 0 (by simp));rwa[oc] at this⟩
theorem bK.j (h:bK w S t ao cap l)(c:∀k,k<w.heap.size->S k->S' k):bK w S' t ao cap l:=by
 rcases h with ⟨d,b,f⟩ | h
 . exact A ⟨d,b,fun a e=>c _ (b.a a e).2 (f a e)⟩
 . exact R h
theorem bq.kU (w:X)(h:bq w' ao cap n []):bq w ao cap n []:=⟨h.1,h.2.1,fun j u a=>by simp at a⟩
theorem aB.kU (w:X)(h:aB w' ao cap []):aB w ao cap []:=⟨h.1,h.2.1,fun j a=>by simp at a⟩
theorem js.f (h:js w S ao cap n xs)(c:am S' w w')(d:∀k,S k->¬S' k):js w' S ao cap n xs:=by
 refine⟨?_,h.c⟩;by_cases b:xs=[]
 . subst b;exact bq.kU w' h.b
 . exact h.b.B c (fun a e=>d _ (h.c b a e))
theorem dL.f (h:dL w S ao cap l)(c:am S' w w')(d:∀k,S k->¬S' k):dL w' S ao cap l:=by
 refine⟨?_,h.c⟩;by_cases b:l=[]
 . subst b;exact aB.kU w' h.b
 . exact h.b.y c (fun a e=>d _ (h.c b a e))
theorem bK.a (h:bK w S t ao cap l)(c:am S' w w')(d:∀k,S k->¬S' k):bK w' S t ao cap l:=by
 rcases h with ⟨f,g,b⟩ | h
 . exact A ⟨f,g.j c (fun a e=>d _ (b a e)),b⟩
 . exact R h
theorem bK.B (h:bK w S t ao cap l):aB w ao cap l:=by
 rcases h with ⟨_,a,_⟩ | ⟨rfl,rfl⟩
 . exact a.f
 . exact⟨ak _,fun _=>rfl,fun j b=>by simp at b⟩
theorem bK.G (h:bK w S t ao cap l):dL w S ao cap l:=⟨h.B,fun b a e=>by
 rcases h with ⟨_,_,c⟩ | ⟨d,_⟩
 . exact c a e
 . exact absurd d b⟩
end
structure fX (w:X)(S:Nat->Prop)(e:az)(s:cU):Prop where
 c:js w S s.e s.f e.d.length (aI e.d)
 b:dL w S s.a s.d e.a
 d:dL w S s.c s.b e.c
theorem fX.a {w:X}{S S':Nat->Prop}{e:az}{s:cU}(h:fX w S e s)(a:∀k,k<w.heap.size->S k->S' k):fX w S' e s:=⟨h.c.j a,h.b.a a,h.d.a a⟩
theorem fX.f {w w':X}{S S':Nat->Prop}{e:az}{s:cU}(h:fX w S e s)(a:am S' w w')(b:∀k,S k->¬S' k):fX w' S e s:=⟨h.c.f a b,h.b.f a b,h.d.f a b⟩
def cT (ps:List (az×cU)):List Value:=ps.flatMap fun p=>p.1.f p.2
theorem vA (a:List (az×cU)):(cT a).length=a.length*12:=by
 induction a with
 | nil=>rfl
 | cons p t b =>
   have e:(p.1.f p.2).length=12:=rfl;simp only[cT,ob,aD,bG] at b ⊢;rw[b,e];omega
theorem vB (a b:List (az×cU)):cT (a++b)=cT a++cT b:=by simp[cT]
theorem sC (e:az)(s:cU):∀u∈e.f s,u.oneCell'=true:=by
 intro u a;simp only[az.f,fS,List.not_mem_nil,or_false] at a;rcases a with rfl | rfl | rfl | rfl | rfl | rfl | rfl | rfl | rfl | rfl | rfl | rfl <;> rfl
theorem tq:∀(a:List (az×cU)) (i:Nat) (b:i<a.length) (j:Nat),j<12->(cT a)[i*12+j]? = (a[i].1.f a[i].2)[j]?
 | p :: t, 0, _, j, hj => by
   show(p.1.f p.2++cT t)[0*12+j]? = _;rw[qS (by rw[show(p.1.f p.2).length=12 from rfl];omega),pJ,ee];rfl
 | p :: t, i + 1, b, j, hj => by
   show(p.1.f p.2++cT t)[(i+1)*12+j]? = _;rw[qW (by rw[show(p.1.f p.2).length=12 from rfl];omega),show(p.1.f p.2).length=12 from rfl,show(i+1)*12+j-12=i*12+j by omega];exact tq t i (by simpa using b) j hj
theorem az.r (e:az)(s:cU)(W:X)(t:Nat)(a:Nat×Nat){k:Nat}(b:W.heap.size=k):bq (W.alloc (K #[I J e.b,V e.i,V e.j,I J e.m,Z s.e e.d.length s.f,I J e.l,Z s.a e.a.length s.d,V e.g,V e.e,V e.h,Z s.c e.c.length s.b,I J e.k] t a)) (M ⟨k,0,U⟩) 1 1 (e.f s):=by
 subst b;exact bq.j W _ 1 t a
def eh (e:az)(s:cU):Option Nat:=if e.a=[] then U else aw s.a
inductive gg (w:X)(S:Nat->Prop)(tE tb:Nat):ag->Nat->List az->Prop
 | bare:gg w S tE tb U 0 []
 | laid (q:List (az×cU)) (e:az) (s:cU) (g cap:Nat) (own:aK w 0 tE 12 (M ⟨g,0,U⟩) cap (q.length+1) (cT (q++[(e,s)]))) (mem:S g)
  (ahead:∀p∈q,fX w (fun k=>(S k∧k≠g)∧eh e s≠M k) p.1 p.2)
  (fields:js w (fun k=>(S k∧k≠g)∧eh e s≠M k) s.e s.f e.d.length (aI e.d))
  (gW:dL w (fun k=>(S k∧k≠g)∧eh e s≠M k) s.c s.b e.c)
  (bytes:bK w (fun k=>S k∧k≠g) tb s.a s.d e.a):gg w S tE tb (M ⟨g,0,U⟩) cap (q.map (·.1)++[e])
section
variable {w w':X} {S S':Nat->Prop} {tE tb:Nat} {ao:ag} {cap:Nat} {es:List az}
theorem gg.a (h:gg w S tE tb ao cap es)(d:am S' w w')(f:∀k,S k->¬S' k):gg w' S tE tb ao cap es:=by
 cases h with
 | bare=>exact .bare
 | laid q e s g cap own i ahead b j c =>
   exact .laid q e s g cap (own.j d (fun a e=>by injection e with e;subst e;exact f _ i)) i (fun p l=>(ahead p l).f d (fun k e=>f k e.1.1)) (b.f d (fun k e=>f k e.1.1)) (j.f d (fun k e=>f k e.1.1)) (c.a d (fun k e=>f k e.1))
theorem gg.f (h:gg w S tE tb ao cap es)(d:∀k,k<w.heap.size->S k->S' k):gg w S' tE tb ao cap es:=by
 cases h with
 | bare=>exact .bare
 | laid q e s g cap own f ahead a j b =>
   have c:∀k,k<w.heap.size->((S k∧k≠g)∧eh e s≠M k)->((S' k∧k≠g)∧eh e s≠M k):=fun k i e=>⟨⟨d k i e.1.1,e.1.2⟩,e.2⟩;exact .laid q e s g cap own (d g (own.f _ rfl).2 f) (fun p l=>(ahead p l).a c) (a.j c) (j.a c) (b.j (fun k i e=>⟨d k i e.1,e.2⟩))
theorem gg.r (h:gg w S tE tb ao cap es)(a:Below w.heap.size w w'):gg w' S tE tb ao cap es:=h.a (am.f (S:=fun _=>False) a) (fun _ _ e=>e)
theorem gg.j (h:gg w S tE tb ao cap es):∃i:List (az×cU),i.map (·.1)=es∧aK w 0 tE 12 ao cap es.length (cT i)∧(∀a,ao=M a->S a.block)∧∀p∈i,fX w (fun k=>S k∧aw ao≠M k) p.1 p.2:=by
 cases h with
 | bare=>exact⟨[],rfl,aK.y _ _ _ _,fun a e=>(by cases e),fun p c=>(by cases c)⟩
 | laid q e s g cap own j ahead b m d =>
   refine⟨q++[(e,s)],by simp,by simpa using own,fun a e=>(by injection e with e;subst e;exact j),fun p c=>?_⟩;have l:∀k,k<w.heap.size->((S k∧k≠g)∧eh e s≠M k)->(S k∧aw (M ⟨g,0,U⟩)≠M k):=fun k _ e=>⟨e.1.1,fun f=>by injection f with f;exact e.1.2 f.symm⟩;rcases eC.1 c with c | c
   . exact(ahead p c).a l
   . simp at c;subst c;exact⟨b.j l,d.G.a (fun k _ e=>⟨e.1,fun f=>by injection f with f;exact e.2 f.symm⟩),m.a l⟩
theorem gg.B {q:List az}{x:az}(h:gg w S tE tb ao cap es)(d:es=q++[x]):∃(a:List (az×cU)) (s:cU) (g:Nat),a.map (·.1)=q∧ao=M ⟨g,0,U⟩ ∧
 aK w 0 tE 12 (M ⟨g,0,U⟩) cap (a.length+1) (cT (a++[(x,s)]))∧S g∧(∀p∈a,fX w (fun k=>(S k∧k≠g)∧eh x s≠M k) p.1 p.2) ∧
 js w (fun k=>(S k∧k≠g)∧eh x s≠M k) s.e s.f x.d.length (aI x.d)∧dL w (fun k=>(S k∧k≠g)∧eh x s≠M k) s.c s.b x.c∧bK w (fun k=>S k∧k≠g) tb s.a s.d x.a:=by
 cases h with
 | bare=>simp at d
 | laid a e s g cap own b ahead fields f bytes =>
   obtain⟨i,c⟩:=vg d rfl;injection c with c _;subst c;exact⟨a,s,g,i,rfl,own,b,ahead,fields,f,bytes⟩
theorem gg.G {N:Nat->Prop}{j:List (az×cU)}{gL:ag}{b n:Nat}{e:az}{s:cU}
 (B:∀a,ao=M a->S a.block) (C:∀p∈j,fX w (fun k=>S k∧aw ao≠M k) p.1 p.2)
 (D:js w (fun k=>N k∧eh e s≠M k) s.e s.f e.d.length (aI e.d)) (q:dL w (fun k=>N k∧eh e s≠M k) s.c s.b e.c) (x:bK w N tb s.a s.d e.a)
 (l:∀k,S k->¬N k) (y:aK w' 0 tE 12 gL b n (cT (j++[(e,s)]))) (G:n=j.length+1)
 (H:w.grownBy w' (aw ao)) (r:aw gL=aw ao∨aw gL=M w.heap.size) :
 gg w' (fun k=>S k∨N k∨k=w.heap.size) tE tb gL b (j.map (·.1)++[e]):=by
 subst G;have o:=am.G H (fun k e=>e);have m:∀k,aw ao=M k->S k:=fun k e=>by
  cases ao with
  | none=>cases e
  | some a=>injection e with e;subst e;exact B a rfl
 obtain⟨g,rfl⟩:∃g,gL=M ⟨g,0,U⟩:=by
  rcases y.2 with ⟨_,h⟩ | ⟨g,cap,L,h,_⟩
  . omega
  . injection h with h _ _;exact⟨g,h⟩
 have t:aw ao=M g∨g=w.heap.size:=by
  rcases r with h | h
  . exact A h.symm
  . injection h with h;exact R h
 have c:∀k,eh e s=M k->N k:=fun k h=>by
  unfold eh at h;split at h
  . cases h
  . rcases x with ⟨_,_,T⟩ | ⟨W,_⟩
    . cases u:s.a with
      | none=>rw[u] at h;cases h
      | some a=>rw[u] at h;injection h with h;subst h;exact T a u
    . contradiction
 have d:∀k,k<w.heap.size->N k->k≠g:=fun k f v e=>by
  subst e;rcases t with h | h
  . exact l k (m k h) v
  . omega
 refine .laid j e s g b y ?_ (fun p q=>?_) ?_ ?_ ?_
 . rcases t with h | h
   . exact A (m g h)
   . exact R (R h)
 . refine((C p q).a (S':=fun k=>((S k∨N k∨k=w.heap.size)∧k≠g)∧eh e s≠M k∧aw ao≠M k) (fun k f h=>⟨⟨A h.1,fun e=>?_⟩,fun i=>l k h.1 (c k i),h.2⟩) |>.f o (fun k h=>h.2.2)).a (fun k _ h=>⟨h.1,h.2.1⟩);subst e;rcases t with z | z
   . exact h.2 z
   . omega
 . exact(D.j (S':=fun k=>((S k∨N k∨k=w.heap.size)∧k≠g)∧eh e s≠M k∧N k) (fun k f h=>⟨⟨R (A h.1),d k f h.1⟩,h.2,h.1⟩) |>.f o (fun k h i=>l k (m k i) h.2.2)).j (fun k _ h=>⟨h.1,h.2.1⟩)
 . exact(q.a (S':=fun k=>((S k∨N k∨k=w.heap.size)∧k≠g)∧eh e s≠M k∧N k) (fun k f h=>⟨⟨R (A h.1),d k f h.1⟩,h.2,h.1⟩) |>.f o (fun k h i=>l k (m k i) h.2.2)).a (fun k _ h=>⟨h.1,h.2.1⟩)
 . exact(x.j (S':=fun k=>((S k∨N k∨k=w.heap.size)∧k≠g)∧N k) (fun k f h=>⟨⟨R (A h),d k f h⟩,h⟩) |>.a o (fun k h i=>l k (m k i) h.2)).j (fun k _ h=>h.1)
end
def lR (w:X)(S:Nat->Prop)(tE:Nat)(ao:ag)(cap:Nat)(es:List az):Prop :=
 ∃ps:List (az×cU),ps.map (·.1)=es∧aK w 0 tE 12 ao cap es.length (cT ps)∧(∀a,ao=M a->S a.block)∧∀p∈ps,fX w (fun k=>S k∧aw ao≠M k) p.1 p.2
section
variable {w w':X} {S S' N:Nat->Prop} {tE tb:Nat} {ao jZ gL:ag} {cap cap2 cap' n:Nat} {es es2:List az}
theorem gg.y (h:gg w S tE tb ao cap es):lR w S tE ao cap es:=h.j
theorem lR.y (h:lR w S tE ao cap es)(b:am S' w w')(c:∀k,S k->¬S' k):lR w' S tE ao cap es:=by
 obtain⟨f,g,i,d,j⟩:=h;exact⟨f,g,i.j b (fun a e=>c _ (d a e)),d,fun p l=>(j p l).f b (fun k e=>c k e.1)⟩
theorem lR.a (h:lR w S tE ao cap es)(b:∀k,k<w.heap.size->S k->S' k):lR w S' tE ao cap es:=by
 obtain⟨d,f,c,g,i⟩:=h;exact⟨d,f,c,fun a e=>b _ (c.f a e).2 (g a e),fun p j=>(i p j).a (fun k l e=>⟨b k l e.1,e.2⟩)⟩
theorem lR.j (h:lR w S tE ao cap es):Tz w ao cap es:=by
 obtain⟨d,rfl,g,_,k⟩:=h;have e:=g.a;refine⟨e.1,e.2.1,fun j l=>?_⟩;have c:j<d.length:=by simpa using l
 have m:0<(cT d).length:=by rw[vA];omega
 obtain⟨b,o,rfl,p⟩:=e.f m;refine⟨b,o,d[j].2,rfl,?_⟩;rw[eu];have a:=k _ (fb c);refine⟨fun i u f=>?_,a.c.b,a.b.b,a.d.b⟩;have q:i<12:=(fe.1 f).1;rw[<-tq _ j c i q] at f;have:=p _ _ f;rw[gE];exact this
theorem lR.B {c ps2:List (az×cU)}(m:∀a,ao=M a->S a.block)(q:∀p∈c,fX w (fun k=>S k∧aw ao≠M k) p.1 p.2)(r:∀p∈ps2,fX w N p.1 p.2)(s:∀k,S k->¬N k)
 (t:aK w' 0 tE 12 gL cap' n (cT c++cT ps2)) (u:n=c.length+ps2.length) (v:w.grownBy w' (aw ao)) (d:aw gL=aw ao∨aw gL=M w.heap.size) :
 lR w' (fun k=>S k∨N k∨k=w.heap.size) tE gL cap' (c.map (·.1)++ps2.map (·.1)):=by
 subst u;have o:=am.G v (fun k e=>e);have f:∀k,k<w.heap.size->aw ao≠M k->aw gL≠M k:=fun k b h e=>by
  rcases d with g | g
  . rw[g] at e;exact h e
  . rw[g] at e;injection e with e;omega
 refine⟨c++ps2,by simp,?_,fun a e=>?_,fun p i=>?_⟩
 . rw[vB];simpa using t
 . subst e;rcases d with g | g
   . cases ao with
     | none=>simp[aw] at g
     | some l=>simp only[aw,jq] at g;rw[g];exact A (m l rfl)
   . simp only[aw,jq] at g;exact R (R g)
 . rcases eC.1 i with i | i
   . exact((q p i).a (S':=fun k=>(S k∧aw ao≠M k)∧k<w.heap.size) (fun k b e=>⟨e,b⟩)).f o (fun k e=>e.1.2) |>.a (fun k _ e=>⟨A e.1.1,f k e.2 e.1.2⟩)
   . have j:∀k,N k->aw ao≠M k:=fun k b e=>by
      cases ao with
      | none=>simp[aw] at e
      | some l=>simp only[aw,jq] at e;exact s _ (m l rfl) (e▸b)
     exact((r p i).a (S':=fun k=>N k∧k<w.heap.size) (fun k b e=>⟨e,b⟩)).f o (fun k e=>j k e.1) |>.a (fun k _ e=>⟨R (A e.1),f k e.2 (j k e.1)⟩)
end
def jt (w:X)(S:Nat->Prop)(tE:Nat)(ao:ag)(cap:Nat)(es:List az):Prop :=
 ∃ps:List (az×cU),ps.map (·.1)=es∧aK w 0 tE 12 ao cap es.length (cT ps)∧(∀a,ao=M a->S a.block)∧(∀p∈ps,fX w (fun k=>S k∧aw ao≠M k) p.1 p.2)∧∀p∈ps,p.2.c=U∧p.2.b=0
section
variable {w w':X} {S S' N:Nat->Prop} {tE:Nat} {ao gL:ag} {cap cap' n:Nat} {es:List az}
theorem jt.r (h:jt w S tE ao cap es):lR w S tE ao cap es:=by grind [jt,lR]
theorem jt.B (w:X)(S:Nat->Prop)(tE:Nat):jt w S tE U 0 []:=⟨[],rfl,aK.y _ _ _ _,fun a e=>(by cases e),fun p b=>(by cases b),fun p b=>(by cases b)⟩
theorem jt.f (h:jt w S tE ao cap es)(b:am S' w w')(c:∀k,S k->¬S' k):jt w' S tE ao cap es:=by
 obtain⟨f,g,i,d,j,l⟩:=h;exact⟨f,g,i.j b (fun a e=>c _ (d a e)),d,fun p m=>(j p m).f b (fun k e=>c k e.1),l⟩
theorem jt.a (h:jt w S tE ao cap es)(b:∀k,k<w.heap.size->S k->S' k):jt w S' tE ao cap es:=by
 obtain⟨d,f,c,g,i,j⟩:=h;exact⟨d,f,c,fun a e=>b _ (c.f a e).2 (g a e),fun p l=>(i p l).a (fun k m e=>⟨b k m e.1,e.2⟩),j⟩
theorem jt.j {c ps2:List (az×cU)}(m:∀a,ao=M a->S a.block)(q:∀p∈c,fX w (fun k=>S k∧aw ao≠M k) p.1 p.2)(r:∀p∈ps2,fX w N p.1 p.2)(s:∀k,S k->¬N k)
 (t:aK w' 0 tE 12 gL cap' n (cT c++cT ps2)) (u:n=c.length+ps2.length) (v:w.grownBy w' (aw ao)) (f:aw gL=aw ao∨aw gL=M w.heap.size) (x:∀p∈c,p.2.c=U∧p.2.b=0) (y:∀p∈ps2,p.2.c=U∧p.2.b=0) :
 jt w' (fun k=>S k∨N k∨k=w.heap.size) tE gL cap' (c.map (·.1)++ps2.map (·.1)):=by
 subst u;have o:=am.G v (fun k e=>e);have i:∀k,k<w.heap.size->aw ao≠M k->aw gL≠M k:=fun k d h e=>by
  rcases f with g | g
  . rw[g] at e;exact h e
  . rw[g] at e;injection e with e;omega
 refine⟨c++ps2,by simp,?_,fun a e=>?_,fun p b=>?_,fun p b=>(eC.1 b).elim (x p) (y p)⟩
 . rw[vB];simpa using t
 . subst e;rcases f with g | g
   . cases ao with
     | none=>simp[aw] at g
     | some l=>simp only[aw,jq] at g;rw[g];exact A (m l rfl)
   . simp only[aw,jq] at g;exact R (R g)
 . rcases eC.1 b with b | b
   . exact((q p b).a (S':=fun k=>(S k∧aw ao≠M k)∧k<w.heap.size) (fun k d e=>⟨e,d⟩)).f o (fun k e=>e.1.2) |>.a (fun k _ e=>⟨A e.1.1,i k e.2 e.1.2⟩)
   . have j:∀k,N k->aw ao≠M k:=fun k d e=>by
      cases ao with
      | none=>simp[aw] at e
      | some l=>simp only[aw,jq] at e;exact s _ (m l rfl) (e▸d)
     exact((r p b).a (S':=fun k=>N k∧k<w.heap.size) (fun k d e=>⟨e,d⟩)).f o (fun k e=>j k e.1) |>.a (fun k _ e=>⟨R (A e.1),i k e.2 (j k e.1)⟩)
end
abbrev dC:=X->(Nat->Prop)->Prop
structure bM (aaO:dC):Prop where
 c:∀{w w':X} {S S':Nat->Prop},aaO w S->am S' w w'->(∀k,S k->¬S' k)->aaO w' S
 b:∀{w:X} {S S':Nat->Prop},aaO w S->(∀k,k<w.heap.size->S k->S' k)->aaO w S'
theorem bM.a:bM (fun _ _=>True):=⟨fun _ _ _=>trivial,fun _ _=>trivial⟩
section
variable {C:Type} {κ:Nat->C} {w w':X} {aaO X':C->dC} {c:C}
def cA (κ:Nat->C)(n:Nat)(c:C):Nat->C:=fun k=>if k<n then κ k else c
theorem fg {n k:Nat}(h:k<n):cA κ n c k=κ k:=if_pos h
theorem pR {n k:Nat}(h:n<=k):cA κ n c k=c:=if_neg (by omega)
def eJ (aaO:C->dC)(κ:Nat->C)(w:X):Prop:=∀d,aaO d w (fun k=>κ k=d)
theorem eJ.f (L:∀d,bM (aaO d))(h:eJ aaO κ w)(a:Below w.heap.size w w'):eJ aaO κ w':=fun d=>(L d).c (h d) (am.f (S:=fun _=>False) a) (fun _ _ e=>e)
theorem eJ.a (L:∀d,bM (aaO d))(h:eJ aaO κ w){T N:Nat->Prop}(f:am T w w')(g:∀k,T k->κ k=c)(i:bM (X' c))(j:X' c w' N)(l:∀k,N k->κ k=c∨w.heap.size<=k)(m:∀d,d≠c->X' d=aaO d):eJ X' (cA κ w.heap.size c) w':=by
 intro d;by_cases b:d=c
 . subst b;refine i.b j (fun k _ e=>?_);show cA κ w.heap.size d k=d;rcases eN k w.heap.size with a | a
   . rw[fg a];rcases l k e with e | e
     . exact e
     . omega
   . exact pR a
 . rw[m d b];have n:=(L d).b (h d) (S':=fun k=>κ k=d∧k<w.heap.size) (fun k a e=>⟨e,a⟩);have o:=(L d).c n f (fun k e p=>b (e.1.symm.trans (g k p)));exact(L d).b o (fun k _ e=>by show cA κ w.heap.size c k=d;rw[fg e.2];exact e.1)
open Classical in
theorem eJ.j (L:∀d,bM (aaO d))(h:eJ aaO κ w){p e:C}(q:p≠e){T P E:Nat->Prop}(r:am T w w')(s:∀k,T k->κ k=p)(t:X' p w' P)(u:bM (X' p))(hd:∀k,P k->¬E k)(v:∀k,P k->κ k=p∨w.heap.size<=k)(l:∀k,E k->κ k=p∨w.heap.size<=k)
 (b:∀S:Nat->Prop,aaO e w' (fun k=>κ k=e∧k<w.heap.size)->(∀k,κ k=e∧k<w.heap.size->S k)->(∀k,E k->S k)->X' e w' S) (x:∀d,d≠p->d≠e->X' d=aaO d) :
 ∃f,eJ X' f w'∧(∀k,k<w.heap.size->f k=κ k∨(κ k=p∧f k=e))∧∀k,w.heap.size<=k->f k=p∨f k=e:=by
 refine⟨fun k=>if E k then e else cA κ w.heap.size p k,fun d=>?_,fun k a=>?_,fun k a=>?_⟩
 . by_cases g:d=p
   . subst g;refine u.b t (fun k _ a=>?_);show(if E k then e else cA κ w.heap.size d k)=d;rw[if_neg (hd k a)];rcases eN k w.heap.size with j | j
     . rw[fg j];rcases v k a with i | i
       . exact i
       . omega
     . exact pR j
   . have m:∀k,κ k=d∧k<w.heap.size->(if E k then e else cA κ w.heap.size p k)=d:=fun k a=>by
      have y:¬E k:=fun i=>by
       rcases l k i with i | i
       . exact g (a.1.symm.trans i)
       . omega
      rw[if_neg y,fg a.2];exact a.1
     have n:=(L d).c ((L d).b (h d) (S':=fun k=>κ k=d∧k<w.heap.size) (fun k a e=>⟨e,a⟩)) r (fun k e z=>g (e.1.symm.trans (s k z)));by_cases o:d=e
     . subst o;exact b _ n m (fun k a=>if_pos a)
     . rw[x d g o];exact(L d).b n (fun k _ a=>m k a)
 . show(if E k then e else cA κ w.heap.size p k)=κ k∨_∧(if E k then e else cA κ w.heap.size p k)=e;by_cases b:E k
   . rcases l k b with i | i
     . exact R ⟨i,if_pos b⟩
     . omega
   . exact A (by rw[if_neg b,fg a])
 . show(if E k then e else cA κ w.heap.size p k)=p∨(if E k then e else cA κ w.heap.size p k)=e;by_cases b:E k
   . exact R (if_pos b)
   . exact A (by rw[if_neg b,pR a])
end
structure ns where
 a:ag
 b:Nat
def lG (u:aH)(s:ns):List Value:=[I J u.b,I J u.a,I J u.n,Z s.a u.c.length s.b]
def kQ (us:List (aH×ns)):List Value:=us.flatMap fun x=>lG x.1 x.2
theorem M3 (a b:List (aH×ns)):kQ (a++b)=kQ a++kQ b:=by simp[kQ]
theorem SP (u:aH)(s:ns):kQ [(u,s)]=lG u s:=by simp[kQ]
theorem M4 (a:List (aH×ns)):(kQ a).length=a.length*4:=by
 induction a with
 | nil=>rfl
 | cons p t b =>
   have e:(lG p.1 p.2).length=4:=rfl;simp only[kQ,ob,aD,bG] at b ⊢;rw[b,e];omega
theorem SQ (u:aH)(s:ns):∀v∈lG u s,v.oneCell'=true:=by
 intro v a;simp only[lG,fS,List.not_mem_nil,or_false] at a;rcases a with rfl | rfl | rfl | rfl <;> rfl
theorem tR:∀(a:List (aH×ns)) (i:Nat) (b:i<a.length) (j:Nat),j<4->(kQ a)[i*4+j]? = (lG a[i].1 a[i].2)[j]?
 | p :: t, 0, _, j, hj => by
   show(lG p.1 p.2++kQ t)[0*4+j]? = _;rw[qS (by rw[show(lG p.1 p.2).length=4 from rfl];omega),pJ,ee];rfl
 | p :: t, i + 1, b, j, hj => by
   show(lG p.1 p.2++kQ t)[(i+1)*4+j]? = _;rw[qW (by rw[show(lG p.1 p.2).length=4 from rfl];omega),show(lG p.1 p.2).length=4 from rfl,show(i+1)*4+j-4=i*4+j by omega];exact tR t i (by simpa using b) j hj
def rG (w:X)(ao:ag)(cap:Nat)(l:List aH):Prop:=∃us:List (aH×ns),us.map (·.1)=l∧bq w ao cap l.length (kQ us)∧∀x∈us,aB w x.2.a x.2.b x.1.c
theorem rG.f {w w':X}{ao:ag}{cap:Nat}{l:List aH}(h:rG w ao cap l)(a:Below w.heap.size w w'):rG w' ao cap l:=by
 obtain⟨b,c,d,e⟩:=h;exact⟨b,c,d.a a,fun x f=>(e x f).a a⟩
theorem rG.a {w:X}{ao:ag}{cap:Nat}{l:List aH}(h:rG w ao cap l)(k:Nat)(f:k<l.length):∃(b o:Nat) (s:ns),ao=M ⟨b,o,U⟩∧w.cell? ⟨b,o+k*4,U⟩=M (I J l[k].b)∧w.cell? ⟨b,o+k*4+1,U⟩=M (I J l[k].a)∧w.cell? ⟨b,o+k*4+2,U⟩=M (I J l[k].n)∧w.cell? ⟨b,o+k*4+3,U⟩=M (Z s.a l[k].c.length s.b)∧aB w s.a s.b l[k].c:=by
 obtain⟨c,rfl,g,i⟩:=h;have a:k<c.length:=by simpa using f
 obtain⟨b,o,rfl,d⟩:=g.f (by rw[M4];omega);have j:=i _ (fb a);have e:=tR c k a 0 (by decide);have m:=tR c k a 1 (by decide);have p:=tR c k a 2 (by decide);have q:=tR c k a 3 (by decide);refine⟨b,o,c[k].2,rfl,?_,?_,?_,?_,?_⟩
 . rw[eu];exact d _ _ (by rw[mA] at e;exact e)
 . rw[eu,gE];exact d _ _ m
 . rw[eu,gE];exact d _ _ p
 . rw[eu,gE];exact d _ _ q
 . rw[eu];exact j
def lj (w:X)(S:Nat->Prop)(tU:Nat)(ao:ag)(cap:Nat)(l:List aH):Prop :=
 ∃us:List (aH×ns),us.map (·.1)=l∧aK w 0 tU 4 ao cap l.length (kQ us)∧(∀a,ao=M a->S a.block)∧∀x∈us,dL w (fun k=>S k∧aw ao≠M k) x.2.a x.2.b x.1.c
section
variable {w w':X} {S S':Nat->Prop} {tU:Nat} {ao:ag} {cap:Nat} {l:List aH}
theorem lj.y (w:X)(S:Nat->Prop)(tU:Nat):lj w S tU U 0 []:=⟨[],rfl,aK.y _ _ _ _,fun a e=>(by cases e),fun p b=>(by cases b)⟩
theorem lj.r (h:lj w S tU ao cap l):rG w ao cap l:=by
 obtain⟨a,b,c,_,d⟩:=h;exact⟨a,b,c.a,fun x e=>(d x e).b⟩
theorem lj.j (h:lj w S tU ao cap l)(b:am S' w w')(c:∀k,S k->¬S' k):lj w' S tU ao cap l:=by
 obtain⟨f,g,i,d,j⟩:=h;exact⟨f,g,i.j b (fun a e=>c _ (d a e)),d,fun x m=>(j x m).f b (fun k e=>c k e.1)⟩
theorem lj.a (h:lj w S tU ao cap l)(b:∀k,k<w.heap.size->S k->S' k):lj w S' tU ao cap l:=by
 obtain⟨d,f,c,g,i⟩:=h;exact⟨d,f,c,fun a e=>b _ (c.f a e).2 (g a e),fun x j=>(i x j).a (fun k m e=>⟨b k m e.1,e.2⟩)⟩
theorem lj.f (h:lj w S tU ao cap l)(a:Below w.heap.size w w'):lj w' S tU ao cap l:=h.j (am.f (S:=fun _=>False) a) (fun _ _ e=>e)
theorem lj.B {W:X}(h:lj W S tU ao cap l)(m:Obj):∃xs,aK (W.alloc m) 0 tU 4 ao cap l.length xs ∧
 ∀gL b w' (u:aH) (s:ns) (N:Nat->Prop),dL W N s.a s.b u.c->(∀k,S k->¬N k)->aK w' 0 tU 4 gL b (l.length+1) (xs++lG u s)->(W.alloc m).grownBy w' (aw ao)->(aw gL=aw ao∨aw gL=M (W.alloc m).heap.size)->lj w' (fun k=>S k∨N k∨W.heap.size<=k) tU gL b (l++[u])∧am S W w':=by
 obtain⟨p,r,t,v,y⟩:=h;have q:Below W.heap.size W (W.alloc m):=(ar _ _).alloc (ak _) _;have n:∀k,aw ao=M k->S k:=fun k e=>by
  cases ao with
  | none=>cases e
  | some a=>injection e with e;subst e;exact v a rfl
 refine⟨kQ p,t.B q,fun gL b w' u s N z B C D d=>?_⟩;have o:=(am.f q).a (am.G D (fun k e=>e)) (fun _ e _=>e);have f:∀k,k<W.heap.size->aw ao≠M k->aw gL≠M k:=fun k c h e=>by
  rcases d with g | g
  . rw[g] at e;exact h e
  . rw[g,bF] at e;injection e with e;omega
 refine⟨⟨p++[(u,s)],by simp[r],by rw[M3,SP,aD];exact C,fun a e=>?_,fun x i=>?_⟩,o.j (fun k e=>n k e)⟩
 . subst e;rcases d with g | g
   . exact A (n _ (g.symm.trans rfl))
   . rw[bF] at g;injection g with g;exact R (R (by omega))
 . rcases eC.1 i with i | i
   . exact(((y x i).a (S':=fun k=>(S k∧aw ao≠M k)∧k<W.heap.size) (fun k c e=>⟨e,c⟩)).f o (fun k e=>e.1.2)).a (fun k _ e=>⟨A e.1.1,f k e.2 e.1.2⟩)
   . rw[cY.1 i];have j:∀k,N k->aw ao≠M k:=fun k c e=>B k (n k e) c;exact((z.a (S':=fun k=>N k∧k<W.heap.size) (fun k c e=>⟨e,c⟩)).f o (fun k e=>j k e.1)).a (fun k _ e=>⟨R (A e.1),f k e.2 (j k e.1)⟩)
end
theorem lT {W:X}{g t:Nat}{f i j l:Value}(h:W.heap[g]? = M (K #[f,i,j,l] t (0,0)))(a b c d:Value):
 ((((W.setCell ⟨g,0,U⟩ a).setCell ⟨g,1,U⟩ b).setCell ⟨g,2,U⟩ c).setCell ⟨g,3,U⟩ d).heap[g]? = M (K #[a,b,c,d] t (0,0))∧am (fun k=>k=g) W ((((W.setCell ⟨g,0,U⟩ a).setCell ⟨g,1,U⟩ b).setCell ⟨g,2,U⟩ c).setCell ⟨g,3,U⟩ d):=by
 have m:=aP W g 0 _ _ a h;have n:=aP _ g 1 _ _ b m;have o:=aP _ g 2 _ _ c n;have p:=aP _ g 3 _ _ d o;have q:=am.r (fun k=>k=g) W ⟨g,0,U⟩ a rfl;have r:=am.r (fun k=>k=g) (W.setCell ⟨g,0,U⟩ a) ⟨g,1,U⟩ b rfl;have s:=am.r (fun k=>k=g) ((W.setCell ⟨g,0,U⟩ a).setCell ⟨g,1,U⟩ b) ⟨g,2,U⟩ c rfl;have u:=am.r (fun k=>k=g) (((W.setCell ⟨g,0,U⟩ a).setCell ⟨g,1,U⟩ b).setCell ⟨g,2,U⟩ c) ⟨g,3,U⟩ d rfl;exact⟨p,((q.a r (fun _ e _=>e)).a s (fun _ e _=>e)).a u (fun _ e _=>e)⟩
theorem dU {W:X}{g t:Nat}{a b c d:Value}(h:W.heap[g]? = M (K #[a,b,c,d] t (0,0))):(W.cell? ⟨g,0,U⟩=M a∧W.cell? ⟨g,1,U⟩=M b∧W.cell? ⟨g,2,U⟩=M c∧W.cell? ⟨g,3,U⟩=M d)∧(W.frozen? ⟨g,0,U⟩=F∧W.frozen? ⟨g,1,U⟩=F∧W.frozen? ⟨g,2,U⟩=F∧W.frozen? ⟨g,3,U⟩=F) :=
 ⟨⟨aq W g 0 _ _ _ h,aq W g 1 _ _ _ h,aq W g 2 _ _ _ h,aq W g 3 _ _ _ h⟩,aN W g 0 _ _ h,aN W g 1 _ _ h,aN W g 2 _ _ h,aN W g 3 _ _ h⟩
theorem si {W:X}{g t:Nat}{a b c:Value}(h:W.heap[g]? = M (K #[a,b,c] t (0,0))):(W.cell? ⟨g,0,U⟩=M a∧W.cell? ⟨g,1,U⟩=M b∧W.cell? ⟨g,2,U⟩=M c)∧(W.frozen? ⟨g,0,U⟩=F∧W.frozen? ⟨g,1,U⟩=F∧W.frozen? ⟨g,2,U⟩=F) :=
 ⟨⟨aq W g 0 _ _ _ h,aq W g 1 _ _ _ h,aq W g 2 _ _ _ h⟩,aN W g 0 _ _ h,aN W g 1 _ _ h,aN W g 2 _ _ h⟩
