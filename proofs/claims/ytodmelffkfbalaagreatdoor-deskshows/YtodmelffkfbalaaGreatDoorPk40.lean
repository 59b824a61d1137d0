import Derived.Test.YtodmelffkfbalaaGreatDoorPk25
import Derived.Deep.RegionLaw
import Derived.Test.YtodmelffkfbalaaGreatDoorPk34
open Go.Value renaming int->I,string->V,slice->Z
open Go.IntKind renaming i64->J
open Go.Obj renaming cells->K
open Option renaming none->U,some->M
open Go renaming World->X
set_option maxHeartbeats 4000000
set_option maxRecDepth 100000
open Go.Proofs.Tryz
namespace Go.Proofs.YtodmelffkfbalaaGreatDoor
open Go.RowKit
theorem zp {w:X}{g cap m:Nat}{xs:List Value}(h:aL w 0 98 12 (M ⟨g,0,U⟩) cap (m+1) xs)(j:Nat)(b:j<12){u:Value}(a:xs[m*12+j]? = M u):w.cell? ⟨g,m*12+j,U⟩=M u∧w.frozen? ⟨g,m*12+j,U⟩=false :=
 ⟨(rh h (m*12+j) (by omega)).trans a,sO h _⟩
theorem Rk {w c:X}{S:Nat->Prop}{d:List (aA×cS)}{x:aA}{b:cS}{l2:ab}{g cap m:Nat}{a:ag}{e f:Nat}{i:Obj}
 (own:aL w 0 98 12 (M ⟨g,0,U⟩) cap (m+1) (cR (d++[(x,b)]))) (j:S g)
 (ahead:∀p∈d,fY w (fun k=>(S k∧k≠g)∧ep x b≠M k) p.1 p.2)
 (bytes:bI w (fun k=>S k∧k≠g) 5 b.a b.d x.a) (n:d.length=m)
 (o:ak (fun k=>cq x.a b.a=M k) (w.alloc i).drew c) (q:bI c (fun k=>cq x.a b.a=M k∨(w.alloc i).drew.heap.size<=k) 5 a e (x.a++l2)) (r:f=(x.a++l2).length) :
 gi (c.setCells g (m*12) [I J 2,V ⟨#[]⟩,V ⟨#[]⟩,I J 0,Z U 0 0,I J 0,Z a f e,V ⟨#[]⟩,V ⟨#[]⟩,V ⟨#[]⟩,Z U 0 0,I J 0]) (ay S w) 98 5 (M ⟨g,0,U⟩) cap (d.map (·.1)++[dU (x.a++l2)])∧ak S w (c.setCells g (m*12) [I J 2,V ⟨#[]⟩,V ⟨#[]⟩,I J 0,Z U 0 0,I J 0,Z a f e,V ⟨#[]⟩,V ⟨#[]⟩,V ⟨#[]⟩,Z U 0 0,I J 0]):=by
 subst n;subst r;have l:Below w.heap.size w (w.alloc i).drew:=((ar _ w).alloc (am _) _).trans (bg _ _);refine gi.B own j ahead bytes (q.f (fun k _ h=>?_)) ((ak.e l).a o (fun _ h _=>h));rcases h with h | h
 . exact Or.inl h
 . exact Or.inr (co l.size h)
theorem Rl (w:X)(S:Nat->Prop)(ao:ag)(cap m:Nat)(q:List aA)(x:aA)(e:aA)(s:cS)(h:gi w S 98 5 ao cap (q++[x]))(hE:az w s.a s.d e.a)(hm:q.length=m)(hl:m<=1000000)(hk:e.b=2)(hx:x.b=2)(hz:x.a.length+e.a.length<=140737488355328):
 Calls prog 169 #[Z ao (m+1) cap,.agg #[I J e.b,V e.i,V e.j,I J e.m,Z s.f e.d.length s.e,I J e.l,Z s.a e.a.length s.d,V e.g,V e.f,V e.h,Z s.c e.c.length s.b,I J e.k]] w fun v w'=>v=.returned (Z ao (m+1) cap)∧gi w' (ay S w) 98 5 ao cap (q++[dU (x.a++e.a)])∧ak S w w':=by
 have k2:=cJ.2 hk;obtain⟨qs,f,g,rfl,rfl,own,n,ahead,_,_,bytes⟩:=h.r rfl;have l:qs.length=m:=by simpa using hm
 rw[l] at own;have hcap:=own.a.1;have C:Below w.heap.size w (w.alloc (K #[I J e.b,V e.i,V e.j,I J e.m,Z s.f e.d.length s.e,I J e.l,Z s.a e.a.length s.d,V e.g,V e.f,V e.h,Z s.c e.c.length s.b,I J e.k] 98)):=(ar _ w).alloc (am _) _;have i:∀k,cq x.a f.a=M k->S k∧k≠g:=fun k h=>by
  unfold cq at h;split at h
  . cases h
  . rcases bytes with ⟨_,_,N⟩ | ⟨h1,_⟩
    . cases T:f.a with
      | none=>rw[T] at h;cases h
      | some a=>rw[T] at h;injection h with h;subst h;exact N a T
    . contradiction
 have D:∀j,j<12->(cR (qs++[(x,f)]))[m*12+j]? = (x.e f)[j]?:=fun j p=>by
  rw[tC _ m (by simp[l]) j p];simp[<-l]
 have G:=own.r C;have c0:(w.alloc (K #[I J e.b,V e.i,V e.j,I J e.m,Z s.f e.d.length s.e,I J e.l,Z s.a e.a.length s.d,V e.g,V e.f,V e.h,Z s.c e.c.length s.b,I J e.k] 98)).cell? ⟨g,m*12+0,U⟩=M (I J 2):=(zp G 0 (by omega) ((D 0 (by omega)).trans (by show M (Value.int J x.b)=_;rw[hx]))).1;have c6:(w.alloc (K #[I J e.b,V e.i,V e.j,I J e.m,Z s.f e.d.length s.e,I J e.l,Z s.a e.a.length s.d,V e.g,V e.f,V e.h,Z s.c e.c.length s.b,I J e.k] 98)).cell? ⟨g,m*12+6,U⟩=M (Z f.a x.a.length f.d):=(zp G 6 (by omega) (D 6 (by omega))).1;rw[mA] at c0;have HB:bI (w.alloc (K #[I J e.b,V e.i,V e.j,I J e.m,Z s.f e.d.length s.e,I J e.l,Z s.a e.a.length s.d,V e.g,V e.f,V e.h,Z s.c e.c.length s.b,I J e.k] 98)).drew (fun k=>S k∧k≠g) 5 f.a f.d x.a:=(bytes.a (ak.e (S:=fun _=>False) (C.trans (bg _ _))) (fun _ _ e=>e));have HN:az (w.alloc (K #[I J e.b,V e.i,V e.j,I J e.m,Z s.f e.d.length s.e,I J e.l,Z s.a e.a.length s.d,V e.g,V e.f,V e.h,Z s.c e.c.length s.b,I J e.k] 98)).drew s.a s.d e.a:=hE.a (C.trans (bg _ _));have c:∀H:X,ak (fun k=>cq x.a f.a=M k) (w.alloc (K #[I J e.b,V e.i,V e.j,I J e.m,Z s.f e.d.length s.e,I J e.l,Z s.a e.a.length s.d,V e.g,V e.f,V e.h,Z s.c e.c.length s.b,I J e.k] 98)).drew H->∀j,j<12->∃u,H.cell? ⟨g,m*12+j,U⟩=M u∧H.frozen? ⟨g,m*12+j,U⟩=false:=fun H hT j p=>by
  have h1:=(G.r (bg _ _)).f hT (fun a ha W=>by injection ha with ha;subst ha;exact(i _ W).2 rfl);have h2:=D j p;have N:(x.e f)[j]? = M ((x.e f)[j]'(by show j<12;exact p)):=iA _;have h4:=zp h1 j p (h2.trans N);exact⟨_,h4.1,h4.2⟩
 have L:=And.intro own (And.intro n (And.intro ahead bytes));obtain⟨i0,r,t,y,z⟩:=info_parts gm;have Hi:=r;have kS:=aa t;have kM:=aa y;have kT:=aa z
 have m0:(0:Int)<=(m:Int):=by omega
 have m1:(m:Int)<(m:Int)+1:=by omega
 have m2:((m+1:Nat):Int)-1=(m:Int):=by omega
 clear r t y z h hk hx own G n ahead bytes i D C  hm  hE;go_enter func169,ntmps169;go_wp2;go_region_law
  ((refine Bz (by rfl) _ _ _ (by rfl) 5 i0 underlying31 Hi kS.o kM.o kT.o (by rfl) (by rfl) HB rfl HN rfl hz ?_;intro bo3 iw d B b;have sW:=aa B;have HT3:=aa b;obtain⟨v0,d0,f0⟩:=c d b 0 (by decide);obtain⟨v1,d1,f1⟩:=c d b 1 (by decide);obtain⟨v2,d2,f2⟩:=c d b 2 (by decide);obtain⟨v3,d3,f3⟩:=c d b 3 (by decide);obtain⟨v4,d4,f4⟩:=c d b 4 (by decide);obtain⟨v5,d5,f5⟩:=c d b 5 (by decide);obtain⟨v6,d6,f6⟩:=c d b 6 (by decide);obtain⟨v7,d7,f7⟩:=c d b 7 (by decide);obtain⟨v8,d8,f8⟩:=c d b 8 (by decide);obtain⟨v9,d9,f9⟩:=c d b 9 (by decide);obtain⟨v10,d10,f10⟩:=c d b 10 (by decide);obtain⟨v11,d11,f11⟩:=c d b 11 (by decide);rw[mA] at d0 f0;clear B b))
 all_goals (go_wp2;go_ret;refine⟨rfl,?_⟩;exact Rk L.1 L.2.1 L.2.2.1 L.2.2.2 l HT3.o sW.o (by rw[aD]))
inductive Hm (w:X)(S N:Nat->Prop)(es:List aA)(e:aA)(v:Ending)(w':X):Prop
 | mk (ao:ag) (cap n:Nat) (hv:v=.returned (Z ao n cap)) (hn:n=(iF es e).length) (hO:gi w' (fun k=>S k∨N k∨w.heap.size<=k) 98 5 ao cap (iF es e)) (hT:ak S w w')
theorem Jp {w:X}{S:Nat->Prop}{a tb:Nat}{ao:ag}{cap:Nat}{es:List aA}(h:gi w S a tb ao cap es)(b:es=[]):ao=U∧cap=0:=by
 cases h with
 | bare=>exact⟨rfl,rfl⟩
 | laid q e s g cap own=>simp at b
theorem RP (w:X)(S N:Nat->Prop)(ao:ag)(cap n:Nat)(es:List aA)(e:aA)(s:cS)(h:gi w S 98 5 ao cap es)(g:pB w S N e s)(c:es.length=n)(z:n<=1000000)(r:(to es).length+e.a.length<=140737488355328):
 Calls prog 169 #[Z ao n cap,.agg #[I J e.b,V e.i,V e.j,I J e.m,Z s.f e.d.length s.e,I J e.l,Z s.a e.a.length s.d,V e.g,V e.f,V e.h,Z s.c e.c.length s.b,I J e.k]] w fun v w'=>Hm w S N es e v w':=by
 by_cases i:e.b=2∧jx es=true
 . obtain⟨q,x,rfl,t⟩:=yf i.2;rw[BA] at r;obtain⟨m,rfl⟩:∃m,n=m+1:=⟨q.length,by rw[<-c];simp⟩;refine(Rl w S ao cap m q x e s h g.a.r (by simpa using c) (by omega) i.1 t r).mono ?_;rintro v w' ⟨rfl,j,l⟩;have d:=te q x e t i.1;refine .mk ao cap (m+1) rfl (by rw[d];simp at c ⊢;omega) ?_ l;rw[d];refine j.e (fun k _ b=>?_);rcases b with b | b
   . exact Or.inl b
   . exact Or.inr (Or.inr b)
 . have u:e.b=2->jx es=false:=fun k=>by
    cases B:jx es
    . rfl
    . exact absurd ⟨k,B⟩ i
   have d:=rk es e u;have fin:∀{v w'},vO w S N es e v w'->Hm w S N es e v w':=by
    rintro v w' ⟨C,f,D,j,l⟩;exact .mk C f _ D (by rw[d];simp) (by rw[d];exact j) l
   by_cases b:e.b=2
   . rcases mz es with a | ⟨q,x,a⟩
     . subst a;subst c;obtain⟨rfl,rfl⟩:=Jp h rfl;exact(Rj w S N e s g b).mono (fun v w' k=>fin k)
     . rw[lb] at a;obtain⟨m,rfl⟩:∃m,n=m+1:=⟨q.length,by rw[<-c,a];simp⟩;refine(Ot w S N ao cap m es e s h g c (by omega) b (fun y o k=>?_)).mono (fun v w' k=>fin k);have p:=u b;rw[a,vL] at p;rw[a,sK] at o;simp at o;rw[o] at p;exact of_decide_eq_false p k
   . subst c;exact(Ri w S N ao cap es e s h g z b).mono (fun v w' k=>fin k)
abbrev iE (w:X)(S:Nat->Prop)(ao:ag)(cap:Nat)(es:List aU):Prop:=gi w S 98 5 ao cap (es.map aU.d)
inductive uC (w:X)(S N:Nat->Prop)(es:List aU)(e:aU)(v:Ending)(w':X):Prop
 | mk (ao:ag) (cap n:Nat) (hv:v=.returned (Z ao n cap)) (hn:n=(aE (es++[e])).length) (hO:iE w' (fun k=>S k∨N k∨w.heap.size<=k) ao cap (aE (es++[e]))) (hT:ak S w w')
theorem yx (w:World)(S N:Nat->Prop)(ao:ag)(cap n:Nat)(es:List aU)(e:aU)(s:cS)(h:iE w S ao cap es)(hE:pB w S N e.d s)(hn:es.length=n)(hl:n<=100000)(hj:eC es)(_hf:ey es)(hb:∀a,e=.body a->a≠[]∧a.length<=100000)(hz:bP es<=100000):
 Calls prog 169 #[.slice ao n cap,.agg #[.int .i64 e.d.b,.string e.d.i,.string e.d.j,.int .i64 e.d.m,.slice s.f e.d.d.length s.e,.int .i64 e.d.l,.slice s.a e.d.a.length s.d,.string e.d.g,.string e.d.f,.string e.d.h,.slice s.c e.d.c.length s.b,.int .i64 e.d.k]] w fun v w'=>uC w S N es e v w':=by
 have hm:(es.map aU.d).length=n:=by rw[iv];exact hn
 have hs1:(to (es.map aU.d)).length<=100000:=by
  have:=LV (es.map aU.d);rw[tY] at this;omega
 have hs2:e.d.a.length<=100000:=by
  cases e with
  | body a=>exact(hb a rfl).2
  | head _=>exact ax _
  | fin=>exact ax _
  | fail _=>exact ax _
 refine(RP w S N ao cap n (es.map aU.d) e.d s h hE hm (by omega) (by omega)).mono ?_;rintro v w' ⟨gL,cap',n',hv,hn',hO,hT⟩;rw[Tk hj] at hn' hO;exact .mk gL cap' n' hv (by rw[hn',iv]) hO hT
theorem Ag (w:X)(S:Nat->Prop)(ao:ag)(cap n:Nat)(es:List aU)(h:iE w S ao cap es)(b:es.length=n)(c:n<=100000)(d:eC es)(f:ey es)(g:bP es<=100000):
 Calls prog 169 #[Z ao n cap,.agg #[I J 3,V ⟨#[]⟩,V ⟨#[]⟩,I J 0,Z U 0 0,I J 0,Z U 0 0,V ⟨#[]⟩,V ⟨#[]⟩,V ⟨#[]⟩,Z U 0 0,I J 0]] w fun v w'=>uC w S (fun _=>False) es .fin v w' :=
 yx w S (fun _=>False) ao cap n es .fin ⟨U,0,U,0,U,0⟩ h ⟨jt.a _ _,dM.f _ _,bI.e _ _ _,fun _ _ e=>e⟩ b c d f (fun a e=>by cases e) g
theorem RQ (w:X)(S:Nat->Prop)(ao:ag)(cap n c:Nat)(es:List aU)(h:iE w S ao cap es)(b:es.length=n)(d:n<=100000)(f:eC es)(g:ey es)(i:bP es<=100000):
 Calls prog 169 #[Z ao n cap,.agg #[I J 4,V ⟨#[]⟩,V ⟨#[]⟩,I J 0,Z U 0 0,I J 0,Z U 0 0,V ⟨#[]⟩,V ⟨#[]⟩,V ⟨#[]⟩,Z U 0 0,I J (c:Int)]] w fun v w'=>uC w S (fun _=>False) es (.fail c) v w' :=
 yx w S (fun _=>False) ao cap n es (.fail c) ⟨U,0,U,0,U,0⟩ h ⟨jt.a _ _,dM.f _ _,bI.e _ _ _,fun _ _ e=>e⟩ b d f g (fun a e=>by cases e) i
theorem zq (w:X)(S N:Nat->Prop)(ao bo:ag)(cap n c m:Nat)(b:ab)(es:List aU)(h:iE w S ao cap es)(f:bI w N 5 bo c b)(g:b≠[])(i:b.length=m)(d:m<=100000)(j:∀k,S k->¬N k)(l:es.length=n)(o:n<=100000)(p:eC es)(q:ey es)(r:bP es<=100000):
 Calls prog 169 #[Z ao n cap,.agg #[I J 2,V ⟨#[]⟩,V ⟨#[]⟩,I J 0,Z U 0 0,I J 0,Z bo m c,V ⟨#[]⟩,V ⟨#[]⟩,V ⟨#[]⟩,Z U 0 0,I J 0]] w fun v w'=>uC w S N es (.body b) v w':=by
 subst i;exact yx w S N ao cap n es (.body b) ⟨U,0,bo,c,U,0⟩ h ⟨jt.a _ _,dM.f _ _,f,j⟩ l o p q (fun a e=>by injection e with e;subst e;exact⟨g,d⟩) r
theorem RR (w:X)(S N:Nat->Prop)(ao fo:ag)(cap n b m:Nat)(hd:df)(es:List aU)(h:iE w S ao cap es)(f:jt w N fo b m (aJ (cf hd.a)))(g:hd.a.length=m)(i:∀k,S k->¬N k)(j:es.length=n)(l:n<=100000)(o:eC es)(p:ey es)(q:bP es<=100000):
 Calls prog 169 #[Z ao n cap,.agg #[I J 1,V ⟨hd.e.toArray⟩,V ⟨hd.b.toArray⟩,I J (hd.d:Int),Z fo m b,I J hd.c,Z U 0 0,V ⟨#[]⟩,V ⟨#[]⟩,V ⟨#[]⟩,Z U 0 0,I J 0]] w fun v w'=>uC w S N es (.head hd) v w':=by
 have c:(cf hd.a).length=m:=by rw[uO];exact g
 subst c;exact yx w S N ao cap n es (.head hd) ⟨fo,b,U,0,U,0⟩ h ⟨f.f (fun k _ e=>⟨e,by simp[ep,aU.d]⟩),dM.f _ _,bI.e _ _ _,i⟩ j l o p (fun a e=>by cases e) q
