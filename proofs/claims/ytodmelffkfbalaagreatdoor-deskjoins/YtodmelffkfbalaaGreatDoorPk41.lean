import Derived.Test.YtodmelffkfbalaaGreatDoorPk24
import Derived.Deep.RegionLaw
import Derived.Test.YtodmelffkfbalaaGreatDoorPk33
open Go.Value renaming int->I,string->V,slice->Z
open Go.IntKind renaming i64->J
open Go.Obj renaming cells->K
open Option renaming none->U,some->M
open Go renaming World->X
set_option maxHeartbeats 4000000
set_option maxRecDepth 100000
open Go.Proofs.Tryz
namespace Go.Proofs.YtodmelffkfbalaaGreatDoor
open Go.RowKit
theorem zr {w:X}{g cap m:Nat}{xs:List Value}(h:aK w 0 98 12 (M ⟨g,0,U⟩) cap (m+1) xs)(j:Nat)(b:j<12){u:Value}(a:xs[m*12+j]? = M u):w.cell? ⟨g,m*12+j,U⟩=M u∧w.frozen? ⟨g,m*12+j,U⟩=false :=
 ⟨(qZ h (m*12+j) (by omega)).trans a,sK h _⟩
theorem Rd {w c:X}{S:Nat->Prop}{d:List (az×cU)}{x:az}{b:cU}{l2:ab}{g cap m:Nat}{a:ag}{e f:Nat}{i:Obj}
 (own:aK w 0 98 12 (M ⟨g,0,U⟩) cap (m+1) (cT (d++[(x,b)]))) (j:S g)
 (ahead:∀p∈d,fX w (fun k=>(S k∧k≠g)∧eh x b≠M k) p.1 p.2)
 (bytes:bK w (fun k=>S k∧k≠g) 5 b.a b.d x.a) (n:d.length=m)
 (o:am (fun k=>cw x.a b.a=M k) (w.alloc i).drew c) (q:bK c (fun k=>cw x.a b.a=M k∨(w.alloc i).drew.heap.size<=k) 5 a e (x.a++l2)) (r:f=(x.a++l2).length) :
 gg (c.setCells g (m*12) [I J 2,V ⟨#[]⟩,V ⟨#[]⟩,I J 0,Z U 0 0,I J 0,Z a f e,V ⟨#[]⟩,V ⟨#[]⟩,V ⟨#[]⟩,Z U 0 0,I J 0]) (ay S w) 98 5 (M ⟨g,0,U⟩) cap (d.map (·.1)++[dS (x.a++l2)])∧am S w (c.setCells g (m*12) [I J 2,V ⟨#[]⟩,V ⟨#[]⟩,I J 0,Z U 0 0,I J 0,Z a f e,V ⟨#[]⟩,V ⟨#[]⟩,V ⟨#[]⟩,Z U 0 0,I J 0]):=by
 subst n;subst r;have l:Below w.heap.size w (w.alloc i).drew:=((ar _ w).alloc (ak _) _).trans (bj _ _);refine gg.H own j ahead bytes (q.j (fun k _ h=>?_)) ((am.f l).a o (fun _ h _=>h));rcases h with h | h
 . exact Or.inl h
 . exact Or.inr (cq l.size h)
theorem Re (w:X)(S:Nat->Prop)(ao:ag)(cap m:Nat)(q:List az)(x:az)(e:az)(s:cU)(h:gg w S 98 5 ao cap (q++[x]))(hE:aB w s.a s.d e.a)(hm:q.length=m)(hl:m<=1000000)(hk:e.b=2)(hx:x.b=2)(hz:x.a.length+e.a.length<=140737488355328):
 Calls prog 169 #[Z ao (m+1) cap,.agg #[I J e.b,V e.i,V e.j,I J e.m,Z s.e e.d.length s.f,I J e.l,Z s.a e.a.length s.d,V e.g,V e.e,V e.h,Z s.c e.c.length s.b,I J e.k]] w fun v w'=>v=.returned (Z ao (m+1) cap)∧gg w' (ay S w) 98 5 ao cap (q++[dS (x.a++e.a)])∧am S w w':=by
 have k2:=cR.2 hk;obtain⟨qs,f,g,rfl,rfl,own,n,ahead,_,_,bytes⟩:=h.B rfl;have l:qs.length=m:=by simpa using hm
 rw[l] at own;have hcap:=own.a.1;have C:Below w.heap.size w (w.alloc (K #[I J e.b,V e.i,V e.j,I J e.m,Z s.e e.d.length s.f,I J e.l,Z s.a e.a.length s.d,V e.g,V e.e,V e.h,Z s.c e.c.length s.b,I J e.k] 98)):=(ar _ w).alloc (ak _) _;have i:∀k,cw x.a f.a=M k->S k∧k≠g:=fun k h=>by
  unfold cw at h;split at h
  . cases h
  . rcases bytes with ⟨_,_,N⟩ | ⟨h1,_⟩
    . cases T:f.a with
      | none=>rw[T] at h;cases h
      | some a=>rw[T] at h;injection h with h;subst h;exact N a T
    . contradiction
 have D:∀j,j<12->(cT (qs++[(x,f)]))[m*12+j]? = (x.f f)[j]?:=fun j p=>by
  rw[tq _ m (by simp[l]) j p];simp[<-l]
 have G:=own.B C;have c0:(w.alloc (K #[I J e.b,V e.i,V e.j,I J e.m,Z s.e e.d.length s.f,I J e.l,Z s.a e.a.length s.d,V e.g,V e.e,V e.h,Z s.c e.c.length s.b,I J e.k] 98)).cell? ⟨g,m*12+0,U⟩=M (I J 2):=(zr G 0 (by omega) ((D 0 (by omega)).trans (by show M (Value.int J x.b)=_;rw[hx]))).1;have c6:(w.alloc (K #[I J e.b,V e.i,V e.j,I J e.m,Z s.e e.d.length s.f,I J e.l,Z s.a e.a.length s.d,V e.g,V e.e,V e.h,Z s.c e.c.length s.b,I J e.k] 98)).cell? ⟨g,m*12+6,U⟩=M (Z f.a x.a.length f.d):=(zr G 6 (by omega) (D 6 (by omega))).1;rw[mA] at c0;have HB:bK (w.alloc (K #[I J e.b,V e.i,V e.j,I J e.m,Z s.e e.d.length s.f,I J e.l,Z s.a e.a.length s.d,V e.g,V e.e,V e.h,Z s.c e.c.length s.b,I J e.k] 98)).drew (fun k=>S k∧k≠g) 5 f.a f.d x.a:=(bytes.a (am.f (S:=fun _=>False) (C.trans (bj _ _))) (fun _ _ e=>e));have HN:aB (w.alloc (K #[I J e.b,V e.i,V e.j,I J e.m,Z s.e e.d.length s.f,I J e.l,Z s.a e.a.length s.d,V e.g,V e.e,V e.h,Z s.c e.c.length s.b,I J e.k] 98)).drew s.a s.d e.a:=hE.a (C.trans (bj _ _));have c:∀H:X,am (fun k=>cw x.a f.a=M k) (w.alloc (K #[I J e.b,V e.i,V e.j,I J e.m,Z s.e e.d.length s.f,I J e.l,Z s.a e.a.length s.d,V e.g,V e.e,V e.h,Z s.c e.c.length s.b,I J e.k] 98)).drew H->∀j,j<12->∃u,H.cell? ⟨g,m*12+j,U⟩=M u∧H.frozen? ⟨g,m*12+j,U⟩=false:=fun H hT j p=>by
  have h1:=(G.B (bj _ _)).j hT (fun a ha W=>by injection ha with ha;subst ha;exact(i _ W).2 rfl);have h2:=D j p;have N:(x.f f)[j]? = M ((x.f f)[j]'(by show j<12;exact p)):=iz _;have h4:=zr h1 j p (h2.trans N);exact⟨_,h4.1,h4.2⟩
 have L:=And.intro own (And.intro n (And.intro ahead bytes));obtain⟨i0,r,t,y,z⟩:=info_parts gG;have Hi:=r;have lg:=aa t;have kZ:=aa y;have lq:=aa z
 have m0:(0:Int)<=(m:Int):=by omega
 have m1:(m:Int)<(m:Int)+1:=by omega
 have m2:((m+1:Nat):Int)-1=(m:Int):=by omega
 clear r t y z h hk hx own G n ahead bytes i D C  hm  hE;go_enter func169,ntmps169;go_wp2;go_region_law
  ((refine Bz (by rfl) _ _ _ (by rfl) 5 i0 underlying31 Hi lg.o kZ.o lq.o (by rfl) (by rfl) HB rfl HN rfl hz ?_;intro bo3 iy d B b;have sP:=aa B;have HT3:=aa b;obtain⟨v0,d0,f0⟩:=c d b 0 (by decide);obtain⟨v1,d1,f1⟩:=c d b 1 (by decide);obtain⟨v2,d2,f2⟩:=c d b 2 (by decide);obtain⟨v3,d3,f3⟩:=c d b 3 (by decide);obtain⟨v4,d4,f4⟩:=c d b 4 (by decide);obtain⟨v5,d5,f5⟩:=c d b 5 (by decide);obtain⟨v6,d6,f6⟩:=c d b 6 (by decide);obtain⟨v7,d7,f7⟩:=c d b 7 (by decide);obtain⟨v8,d8,f8⟩:=c d b 8 (by decide);obtain⟨v9,d9,f9⟩:=c d b 9 (by decide);obtain⟨v10,d10,f10⟩:=c d b 10 (by decide);obtain⟨v11,d11,f11⟩:=c d b 11 (by decide);rw[mA] at d0 f0;clear B b))
 all_goals (go_wp2;go_ret;refine⟨rfl,?_⟩;exact Rd L.1 L.2.1 L.2.2.1 L.2.2.2 l HT3.o sP.o (by rw[aD]))
inductive Hf (w:X)(S N:Nat->Prop)(es:List az)(e:az)(v:Ending)(w':X):Prop
 | mk (ao:ag) (cap n:Nat) (hv:v=.returned (Z ao n cap)) (hn:n=(iE es e).length) (hO:gg w' (fun k=>S k∨N k∨w.heap.size<=k) 98 5 ao cap (iE es e)) (hT:am S w w')
theorem Ja {w:X}{S:Nat->Prop}{a tb:Nat}{ao:ag}{cap:Nat}{es:List az}(h:gg w S a tb ao cap es)(b:es=[]):ao=U∧cap=0:=by
 cases h with
 | bare=>exact⟨rfl,rfl⟩
 | laid q e s g cap own=>simp at b
theorem RY (w:X)(S N:Nat->Prop)(ao:ag)(cap n:Nat)(es:List az)(e:az)(s:cU)(h:gg w S 98 5 ao cap es)(g:pu w S N e s)(c:es.length=n)(z:n<=1000000)(r:(ti es).length+e.a.length<=140737488355328):
 Calls prog 169 #[Z ao n cap,.agg #[I J e.b,V e.i,V e.j,I J e.m,Z s.e e.d.length s.f,I J e.l,Z s.a e.a.length s.d,V e.g,V e.e,V e.h,Z s.c e.c.length s.b,I J e.k]] w fun v w'=>Hf w S N es e v w':=by
 by_cases i:e.b=2∧jw es=true
 . obtain⟨q,x,rfl,t⟩:=yh i.2;rw[BA] at r;obtain⟨m,rfl⟩:∃m,n=m+1:=⟨q.length,by rw[<-c];simp⟩;refine(Re w S ao cap m q x e s h g.a.B (by simpa using c) (by omega) i.1 t r).mono ?_;rintro v w' ⟨rfl,j,l⟩;have d:=sY q x e t i.1;refine .mk ao cap (m+1) rfl (by rw[d];simp at c ⊢;omega) ?_ l;rw[d];refine j.f (fun k _ b=>?_);rcases b with b | b
   . exact Or.inl b
   . exact Or.inr (Or.inr b)
 . have u:e.b=2->jw es=false:=fun k=>by
    cases B:jw es
    . rfl
    . exact absurd ⟨k,B⟩ i
   have d:=rg es e u;have fin:∀{v w'},vP w S N es e v w'->Hf w S N es e v w':=by
    rintro v w' ⟨C,f,D,j,l⟩;exact .mk C f _ D (by rw[d];simp) (by rw[d];exact j) l
   by_cases b:e.b=2
   . rcases mz es with a | ⟨q,x,a⟩
     . subst a;subst c;obtain⟨rfl,rfl⟩:=Ja h rfl;exact(Rc w S N e s g b).mono (fun v w' k=>fin k)
     . rw[kW] at a;obtain⟨m,rfl⟩:∃m,n=m+1:=⟨q.length,by rw[<-c,a];simp⟩;refine(Oi w S N ao cap m es e s h g c (by omega) b (fun y o k=>?_)).mono (fun v w' k=>fin k);have p:=u b;rw[a,vK] at p;rw[a,sG] at o;simp at o;rw[o] at p;exact of_decide_eq_false p k
   . subst c;exact(Rb w S N ao cap es e s h g z b).mono (fun v w' k=>fin k)
abbrev iD (w:X)(S:Nat->Prop)(ao:ag)(cap:Nat)(es:List aU):Prop:=gg w S 98 5 ao cap (es.map aU.d)
inductive ux (w:X)(S N:Nat->Prop)(es:List aU)(e:aU)(v:Ending)(w':X):Prop
 | mk (ao:ag) (cap n:Nat) (hv:v=.returned (Z ao n cap)) (hn:n=(aE (es++[e])).length) (hO:iD w' (fun k=>S k∨N k∨w.heap.size<=k) ao cap (aE (es++[e]))) (hT:am S w w')
theorem yu (w:World)(S N:Nat->Prop)(ao:ag)(cap n:Nat)(es:List aU)(e:aU)(s:cU)(h:iD w S ao cap es)(hE:pu w S N e.d s)(hn:es.length=n)(hl:n<=100000)(hj:ey es)(_hf:et es)(hb:∀a,e=.body a->a≠[]∧a.length<=100000)(hz:bQ es<=100000):
 Calls prog 169 #[.slice ao n cap,.agg #[.int .i64 e.d.b,.string e.d.i,.string e.d.j,.int .i64 e.d.m,.slice s.e e.d.d.length s.f,.int .i64 e.d.l,.slice s.a e.d.a.length s.d,.string e.d.g,.string e.d.e,.string e.d.h,.slice s.c e.d.c.length s.b,.int .i64 e.d.k]] w fun v w'=>ux w S N es e v w':=by
 have hm:(es.map aU.d).length=n:=by rw[gD];exact hn
 have hs1:(ti (es.map aU.d)).length<=100000:=by
  have:=LH (es.map aU.d);rw[tT] at this;omega
 have hs2:e.d.a.length<=100000:=by
  cases e with
  | body a=>exact(hb a rfl).2
  | head _=>exact ax _
  | fin=>exact ax _
  | fail _=>exact ax _
 refine(RY w S N ao cap n (es.map aU.d) e.d s h hE hm (by omega) (by omega)).mono ?_;rintro v w' ⟨gL,cap',n',hv,hn',hO,hT⟩;rw[Th hj] at hn' hO;exact .mk gL cap' n' hv (by rw[hn',gD]) hO hT
theorem Ai (w:X)(S:Nat->Prop)(ao:ag)(cap n:Nat)(es:List aU)(h:iD w S ao cap es)(b:es.length=n)(c:n<=100000)(d:ey es)(f:et es)(g:bQ es<=100000):
 Calls prog 169 #[Z ao n cap,.agg #[I J 3,V ⟨#[]⟩,V ⟨#[]⟩,I J 0,Z U 0 0,I J 0,Z U 0 0,V ⟨#[]⟩,V ⟨#[]⟩,V ⟨#[]⟩,Z U 0 0,I J 0]] w fun v w'=>ux w S (fun _=>False) es .fin v w' :=
 yu w S (fun _=>False) ao cap n es .fin ⟨U,0,U,0,U,0⟩ h ⟨js.a _ _,dL.j _ _,bK.f _ _ _,fun _ _ e=>e⟩ b c d f (fun a e=>by cases e) g
theorem R1 (w:X)(S:Nat->Prop)(ao:ag)(cap n c:Nat)(es:List aU)(h:iD w S ao cap es)(b:es.length=n)(d:n<=100000)(f:ey es)(g:et es)(i:bQ es<=100000):
 Calls prog 169 #[Z ao n cap,.agg #[I J 4,V ⟨#[]⟩,V ⟨#[]⟩,I J 0,Z U 0 0,I J 0,Z U 0 0,V ⟨#[]⟩,V ⟨#[]⟩,V ⟨#[]⟩,Z U 0 0,I J (c:Int)]] w fun v w'=>ux w S (fun _=>False) es (.fail c) v w' :=
 yu w S (fun _=>False) ao cap n es (.fail c) ⟨U,0,U,0,U,0⟩ h ⟨js.a _ _,dL.j _ _,bK.f _ _ _,fun _ _ e=>e⟩ b d f g (fun a e=>by cases e) i
theorem zt (w:X)(S N:Nat->Prop)(ao bo:ag)(cap n c m:Nat)(b:ab)(es:List aU)(h:iD w S ao cap es)(f:bK w N 5 bo c b)(g:b≠[])(i:b.length=m)(d:m<=100000)(j:∀k,S k->¬N k)(l:es.length=n)(o:n<=100000)(p:ey es)(q:et es)(r:bQ es<=100000):
 Calls prog 169 #[Z ao n cap,.agg #[I J 2,V ⟨#[]⟩,V ⟨#[]⟩,I J 0,Z U 0 0,I J 0,Z bo m c,V ⟨#[]⟩,V ⟨#[]⟩,V ⟨#[]⟩,Z U 0 0,I J 0]] w fun v w'=>ux w S N es (.body b) v w':=by
 subst i;exact yu w S N ao cap n es (.body b) ⟨U,0,bo,c,U,0⟩ h ⟨js.a _ _,dL.j _ _,f,j⟩ l o p q (fun a e=>by injection e with e;subst e;exact⟨g,d⟩) r
theorem R2 (w:X)(S N:Nat->Prop)(ao fo:ag)(cap n b m:Nat)(hd:dg)(es:List aU)(h:iD w S ao cap es)(f:js w N fo b m (aI (co hd.a)))(g:hd.a.length=m)(i:∀k,S k->¬N k)(j:es.length=n)(l:n<=100000)(o:ey es)(p:et es)(q:bQ es<=100000):
 Calls prog 169 #[Z ao n cap,.agg #[I J 1,V ⟨hd.e.toArray⟩,V ⟨hd.b.toArray⟩,I J (hd.d:Int),Z fo m b,I J hd.c,Z U 0 0,V ⟨#[]⟩,V ⟨#[]⟩,V ⟨#[]⟩,Z U 0 0,I J 0]] w fun v w'=>ux w S N es (.head hd) v w':=by
 have c:(co hd.a).length=m:=by rw[uM];exact g
 subst c;exact yu w S N ao cap n es (.head hd) ⟨fo,b,U,0,U,0⟩ h ⟨f.j (fun k _ e=>⟨e,by simp[eh,aU.d]⟩),dL.j _ _,bK.f _ _ _,i⟩ j l o p (fun a e=>by cases e) q
