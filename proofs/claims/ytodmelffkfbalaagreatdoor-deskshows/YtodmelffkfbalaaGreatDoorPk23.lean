import Derived.Test.YtodmelffkfbalaaGreatDoorPk11
import Derived.Test.YtodmelffkfbalaaGreatDoorPk17
import Derived.Test.YtodmelffkfbalaaGreatDoorPk15
open Go.Value renaming string->V,slice->Z
open Go.Obj renaming cells->K
open Option renaming none->U,some->M
open Go renaming World->X
open Go.Proofs.Tryz
namespace Go.Proofs.YtodmelffkfbalaaGreatDoor
open Go.RowKit
structure jS (w:X)(cs:Array Value)(t:Nat)(W:X):Prop where
 b:W.heap[w.heap.size]? = M (K cs t (0,0))
 below:Below w.heap.size w W
section
variable {w W W':X} {cs:Array Value} {t:Nat}
theorem jS.a (h:jS w cs t W)(a:Below W.heap.size W W'):jS w cs t W':=⟨(a.block _ (bM.1 h.b).1).trans h.b,au h.below a⟩
theorem jS.q {S:Nat->Prop}(h:jS w cs t W)(a:ak S W W')(b:∀k,S k->w.heap.size<k):jS w cs t W':=⟨a.q h.b (fun e=>by have:=b _ e;omega),h.below.trans (a.below (fun k e=>by have:=b k e;omega) h.below.size)⟩
theorem jS.f (w:X)(cs:Array Value)(t:Nat):jS w cs t (w.alloc (K cs t)):=⟨be w _,(ar _ _).alloc (am _) _⟩
theorem jS.e (h:jS w cs t W)(j:Nat):W.cell? ⟨w.heap.size,j,U⟩=cs[j]?:=aq W w.heap.size j _ _ _ h.b
theorem jS.j (h:jS w cs t W):w.heap.size<W.heap.size:=(bM.1 h.b).1
end
theorem GY (n:ae)(l:aC):aH n l=aQ n l:=rfl
theorem GZ (a:List ae):iI a=ba a:=by
 rcases a with _ | ⟨v,_ | ⟨b,t⟩⟩ <;> rfl
theorem Qa (l:aC)(n:ae)(B:Nat)(h:∀p∈l,p.2.size<=B):(ba (aQ n l)).1.length<=B:=by
 have a:∀v∈aQ n l,v.size<=B:=fun v a=>by
  unfold aQ at a;obtain⟨p,b,rfl⟩:=oh.1 a;exact h p (List.mem_filter.1 b).1
 unfold ba;split
 . simp
 . rename_i v c;have:=a v (by rw[c];simp);rw[cI];exact this
 . simp
theorem dX.B {w:X}{b g cap:Nat}{l:ab}(h:dX w b g cap l)(j:Nat)(c:UInt8):dX (w.setCell ⟨g,j,U⟩ (.int .u8 (c.toNat:Int))) b g cap (l.set j c)∧ak (fun k=>k=g) w (w.setCell ⟨g,j,U⟩ (.int .u8 (c.toNat:Int))):=by
 refine⟨⟨h.c,by simpa using h.b,by rw[pP];exact h.e,h.f,fun i u f=>?_,fun i n=>?_⟩,ak.j (fun k=>k=g) w ⟨g,j,U⟩ _ rfl⟩
 . have d:i<l.length:=by
    have:=(fw.1 f).1;rwa[dq,pP] at this
   rw[jO _ i (by rw[pP];exact d)] at f;by_cases e:i=j
   . subst e;have o:=h.d i _ (jO l i d);rw[sM w _ _ o,<-f,List.getElem_set_self]
   . rw[sN (h:=by intro a;injection a with _ a;exact e a.symm),<-f];rw[List.getElem_set_ne (fun a=>e a.symm)];exact h.d i _ (jO l i d)
 . obtain⟨m,p⟩:=h.a i n;refine⟨?_,by rw[World.frozen?_setCell];exact p⟩;by_cases e:i=j
   . subst e;obtain⟨v,q⟩:=Option.isSome_iff_exists.1 m;rw[sM w _ _ q];rfl
   . rw[sN (h:=by intro a;injection a with _ a;exact e a.symm)];exact m
theorem QZ {l:ab}{a b:Int}(ha:rG 47 l a)(f:rG 92 l b):-1<=max a b∧max a b<l.length∧l.drop (max a b+1).toNat=mT l:=by
 have m:∀c:UInt8,nO c=false<->c≠47∧c≠92:=fun c=>by
  unfold nO;rw[Bool.or_eq_false_iff,aO,aO]
 have o:∀c:UInt8,(c=47∨c=92)->nO c=true:=fun c h=>by
  unfold nO;rw[Bool.or_eq_true,cJ,cJ];exact h
 rcases ha with ⟨ha,g⟩ | ⟨i,q,ha,t,g⟩
 . rcases f with ⟨f,nb⟩ | ⟨k,n,f,r,nb⟩
   . have e:max a b=-1:=by omega
     rw[e];exact⟨by omega,by omega,(uf (p:=0) (ax _) (fun j d _=>(m _).2 ⟨g j d,nb j d⟩) (Or.inl rfl)).symm⟩
   . have e:max a b=k:=by omega
     rw[e];refine⟨by omega,by omega,?_⟩;rw[show((k:Int)+1).toNat=k+1 by omega];exact(uf (p:=k+1) n (fun j d h=>(m _).2 ⟨g j d,nb j d h⟩) (Or.inr ⟨by simpa using n,by omega,o _ (Or.inr (by simpa using r))⟩)).symm
 . rcases f with ⟨f,nb⟩ | ⟨k,n,f,r,nb⟩
   . have e:max a b=i:=by omega
     rw[e];refine⟨by omega,by omega,?_⟩;rw[show((i:Int)+1).toNat=i+1 by omega];exact(uf (p:=i+1) q (fun j d h=>(m _).2 ⟨g j d h,nb j d⟩) (Or.inr ⟨by simpa using q,by omega,o _ (Or.inl (by simpa using t))⟩)).symm
   . rcases eI i k with h | h
     . have e:max a b=k:=by omega
       rw[e];refine⟨by omega,by omega,?_⟩;rw[show((k:Int)+1).toNat=k+1 by omega];exact(uf (p:=k+1) n (fun j d s=>(m _).2 ⟨g j d (by omega),nb j d s⟩) (Or.inr ⟨by simpa using n,by omega,o _ (Or.inr (by simpa using r))⟩)).symm
     . have e:max a b=i:=by omega
       rw[e];refine⟨by omega,by omega,?_⟩;rw[show((i:Int)+1).toNat=i+1 by omega];exact(uf (p:=i+1) q (fun j d s=>(m _).2 ⟨g j d s,nb j d (by omega)⟩) (Or.inr ⟨by simpa using q,by omega,o _ (Or.inl (by simpa using t))⟩)).symm
theorem Q1:(prog.info? 96).map (fun i=>(i.zero,i.size,i.bytes))=M (M (.agg #[V ⟨#[]⟩,V ⟨#[]⟩,V ⟨#[]⟩,Z U 0 0]),4,72):=by kernel_rfl
structure my where
 a:ag
 b:Nat
def lK (p:bT)(s:my):List Value:=[V p.c,V p.b,V p.d,Z s.a p.a.length s.b]
def iG (ps:List (bT×my)):List Value:=ps.flatMap fun p=>lK p.1 p.2
theorem BJ (a b:List (bT×my)):iG (a++b)=iG a++iG b:=by simp[iG]
theorem zI (p:bT)(s:my):iG [(p,s)]=lK p s:=by simp[iG]
theorem vN (a:List (bT×my)):(iG a).length=a.length*4:=by
 induction a with
 | nil=>rfl
 | cons p t b =>
   have e:(lK p.1 p.2).length=4:=rfl;simp only[iG,oi,aD,bF] at b ⊢;rw[b,e];omega
theorem oz:∀(a:List (bT×my)) (i:Nat) (b:i<a.length) (j:Nat),j<4->(iG a)[i*4+j]? = (lK a[i].1 a[i].2)[j]?
 | p :: t, 0, _, j, hj => by
   show(lK p.1 p.2++iG t)[0*4+j]? = _;rw[qV (by rw[show(lK p.1 p.2).length=4 from rfl];omega),qW,eh];rfl
 | p :: t, i + 1, b, j, hj => by
   show(lK p.1 p.2++iG t)[(i+1)*4+j]? = _;rw[qZ (by rw[show(lK p.1 p.2).length=4 from rfl];omega),show(lK p.1 p.2).length=4 from rfl,show(i+1)*4+j-4=i*4+j by omega];exact oz t i (by simpa using b) j hj
structure nG (w:X)(D:Nat->Prop)(ps:List bT)(ao:ag)(cap n:Nat)(wr:X):Prop where
 b:∃qs:List (bT×my),qs.map (·.1)=ps∧aL wr w.heap.size 96 4 ao cap n (iG qs)∧∀q∈qs,dM w D q.2.a q.2.b q.1.a
 a:n=ps.length
 below:Below w.heap.size w wr
theorem nG.r (w:X)(D:Nat->Prop):nG w D [] U 0 0 w:=⟨⟨[],rfl,aL.q _ _ _ _,fun q a=>(by cases a)⟩,rfl,ar _ _⟩
theorem nG.e {D:Nat->Prop}{w wr w':X}{a:List bT}{ao:ag}{cap n:Nat}(h:nG w D a ao cap n wr)(b:Below wr.heap.size wr w'):nG w D a ao cap n w':=by
 obtain⟨c,d,e,f⟩:=h.b;exact⟨⟨c,d,e.r b,f⟩,h.a,au h.below b⟩
theorem nG.q {D:Nat->Prop}{w W:X}{d:List bT}{ao:ag}{cap n:Nat}(h:nG w D d ao cap n W):∃xs,aL W w.heap.size 96 4 ao cap n xs ∧
 ∀gL b w' (p:bT) (s:my),dM w D s.a s.b p.a->aL w' w.heap.size 96 4 gL b (n+1) (xs++lK p s)->W.grownBy w' (aw ao)->nG w D (d++[p]) gL b (n+1) w':=by
 obtain⟨f,i,g,j⟩:=h.b;refine⟨iG f,g,fun gL b w' p s l m o=>⟨⟨f++[(p,s)],by simp[i],by rw[BJ,zI];exact m,fun q c=>?_⟩,by rw[aD,h.a];rfl,h.below.grown o h.below.size (fun k e=>?_)⟩⟩
 . rcases eJ.1 c with c | c
   . exact j q c
   . rw[cW.1 c];exact l
 . cases ao with
   | none=>cases e
   | some a=>injection e with e;subst e;exact(g.e a rfl).1
theorem nG.j {D:Nat->Prop}{w wr:X}{r:List bT}{p:bT}{ao:ag}{cap n:Nat}(h:nG w D (r++[p]) ao cap (n+1) wr):∃g,ao=M ⟨g,0,U⟩∧(∃v,wr.cell? ⟨g,n*4+3,U⟩=M v)∧wr.frozen? ⟨g,n*4+3,U⟩=false∧n+1<=cap ∧
 ∀(l:ab) (bo:ag) (c m:Nat),dM w D bo c l->m=l.length->nG w D (r++[{ p with a:=l }]) ao cap (n+1) (wr.setCell ⟨g,n*4+3,U⟩ (Z bo m c)):=by
 obtain⟨C,u,d,L⟩:=h.b;have N:n=r.length:=by have:=h.a;rw[aD] at this;simpa using this
 obtain⟨b,s,rfl,j,i⟩:∃b s,C=b++[s]∧b.map (·.1)=r∧s.1=p:=by
  rcases mz C with rfl | ⟨q,x,rfl⟩
  . have:=lL List.length u;simp at this
  . rw[lb,lM] at u;obtain⟨y,S⟩:=vk u rfl;exact⟨q,x,by rw[lb],y,by simpa using S⟩
 obtain⟨f,k⟩:=s;have i:f=p:=i;subst i;have t:b.length=n:=by have:=lL List.length j;rw[iv] at this;omega
 have hv:=d.a;have G:0<(iG (b++[(f,k)])).length:=by rw[vN,aD];simp
 obtain⟨a,rfl⟩:∃a,ao=M a:=by
  cases ao with
  | none=>have:=d.a.2.1 rfl;have:=d.a.1;omega
  | some a=>exact⟨a,rfl⟩
 obtain⟨g,rfl⟩:∃g,a=⟨g,0,U⟩:=by
  rcases d.2 with ⟨e,_⟩ | ⟨g,H,T,e,_⟩
  . injection e with e;cases e
  . injection e with e;injection e with e;exact⟨g,e⟩
 have z:(iG (b++[(f,k)]))[n*4+3]? = M (Z k.a f.a.length k.b):=by
  rw[oz _ n (by rw[aD,t];simp) 3 (by omega)];simp[<-t,lK]
 refine⟨g,rfl,⟨_,(rh d (n*4+3) (by omega)).trans z⟩,sO d _,d.a.1,fun l bo c m W hm=>?_⟩;subst hm;have hS:=(om d (n*4+3) (Z bo l.length c)).1;have y:(iG (b++[(f,k)])).set (n*4+3) (Z bo l.length c)=iG (b++[({ f with a:=l },⟨bo,c⟩)]):=by
  rw[BJ,BJ,zI,zI,sD _ _ (by rw[vN,t];omega),vN,t,show n*4+3-n*4=3 by omega];rfl
 have B:aL (wr.setCell ⟨g,n*4+3,U⟩ (Z bo l.length c)) w.heap.size 96 4 (M ⟨g,0,U⟩) cap (n+1) (iG (b++[({ f with a:=l },⟨bo,c⟩)])):=by rw[<-y];exact hS
 have hb:w.heap.size<=(⟨g,n*4+3,U⟩:Addr).block:=(d.e _ rfl).1;refine⟨⟨b++[({ f with a:=l },⟨bo,c⟩)],by simp[j],B,fun q o=>?_⟩,by rw[aD,N];rfl,h.below.setCell hb _⟩;rcases eJ.1 o with o | o
 . exact L q (vm _ o)
 . rw[cW.1 o];exact W
def ug (w:X)(ao:ag)(cap:Nat)(ps:List bT):Prop:=∃qs:List (bT×my),qs.map (·.1)=ps∧bx w ao cap ps.length (iG qs)∧∀q∈qs,az w q.2.a q.2.b q.1.a
theorem ug.a {w w':X}{ao:ag}{cap:Nat}{a:List bT}(h:ug w ao cap a)(b:Below w.heap.size w w'):ug w' ao cap a:=by
 obtain⟨c,d,e,f⟩:=h;exact⟨c,d,e.a b,fun q g=>(f q g).a b⟩
theorem ug.e {w:X}{ao:ag}{cap:Nat}{c:List bT}(h:ug w ao cap c)(k:Nat)(g:k<c.length):∃(b o:Nat) (s:my),ao=M ⟨b,o,U⟩∧w.cell? ⟨b,o+k*4,U⟩=M (V c[k].c)∧w.cell? ⟨b,o+k*4+1,U⟩=M (V c[k].b)∧w.cell? ⟨b,o+k*4+2,U⟩=M (V c[k].d)∧w.cell? ⟨b,o+k*4+3,U⟩=M (Z s.a c[k].a.length s.b)∧az w s.a s.b c[k].a:=by
 obtain⟨d,rfl,i,j⟩:=h;have a:k<d.length:=by simpa using g
 obtain⟨b,o,rfl,e⟩:=i.f (by rw[vN];omega);have l:=j _ (eX a);have f:=oz d k a 0 (by decide);have m:=oz d k a 1 (by decide);have n:=oz d k a 2 (by decide);have p:=oz d k a 3 (by decide);refine⟨b,o,d[k].2,rfl,?_,?_,?_,?_,?_⟩
 . rw[ej];exact e _ _ (by rw[mA] at f;exact f)
 . rw[ej,gE];exact e _ _ m
 . rw[ej,gE];exact e _ _ n
 . rw[ej,gE];exact e _ _ p
 . rw[ej];exact l
structure kw (w:X)(r1 r2:Obj)(W:X):Prop where
 b:W.heap[w.heap.size]? = M r1
 c:W.heap[w.heap.size+1]? = M r2
 below:Below w.heap.size w W
theorem kw.r {w W W':X}{b c:Obj}(h:kw w b c W)(a:Below W.heap.size W W'):kw w b c W' :=
 ⟨(a.block _ (bM.1 h.b).1).trans h.b,(a.block _ (bM.1 h.c).1).trans h.c,au h.below a⟩
theorem kw.e {w W:X}{a:Array Value}{t:Nat}{b:Obj}(h:kw w (K a t (0,0)) b W)(j:Nat):W.cell? ⟨w.heap.size,j,U⟩=a[j]?:=aq W w.heap.size j _ _ _ h.b
theorem kw.q {w W:X}{a:Array Value}{t:Nat}{b:Obj}(h:kw w (K a t (0,0)) b W)(j:Nat):W.frozen? ⟨w.heap.size,j,U⟩=false:=aP W w.heap.size j _ _ h.b
theorem kw.E {w W:X}{a:Array Value}{t:Nat}{b:Obj}(h:kw w (K a t (0,0)) b W)(j:Nat)(v:Value)(d:a.setIfInBounds j v=a):kw w (K a t (0,0)) b (W.setCell ⟨w.heap.size,j,U⟩ v):=by
 have c:=js w.heap.size [v] j W;refine⟨by rw[aR W w.heap.size j _ _ _ h.b,d],c.q h.c (by omega),h.below.trans (c.below (fun k e=>by omega) h.below.size)⟩
theorem kw.a {w W:X}{a:Array Value}{t:Nat}{b:Obj}(h:kw w b (K a t (0,0)) W)(j:Nat):W.cell? ⟨w.heap.size+1,j,U⟩=a[j]?:=aq W _ j _ _ _ h.c
theorem kw.j {w W:X}{a:Array Value}{t:Nat}{b:Obj}(h:kw w b (K a t (0,0)) W)(j:Nat):W.frozen? ⟨w.heap.size+1,j,U⟩=false:=aP W _ j _ _ h.c
theorem kw.y {w W:X}{a:Array Value}{t:Nat}{b:Obj}(h:kw w (K a t (0,0)) b W)(j:Nat)(v:Value):kw w (K (a.setIfInBounds j v) t (0,0)) b (W.setCell ⟨w.heap.size,j,U⟩ v)∧ak (fun k=>w.heap.size<=k∧k<w.heap.size+2) W (W.setCell ⟨w.heap.size,j,U⟩ v):=by
 have c:=js w.heap.size [v] j W;exact⟨⟨by rw[aR W w.heap.size j _ _ _ h.b],c.q h.c (by omega),h.below.trans (c.below (fun k e=>by omega) h.below.size)⟩,ak.j _ W _ _ ⟨am _,by show w.heap.size<_;omega⟩⟩
theorem kw.f {w W:X}{a:Array Value}{t:Nat}{b:Obj}(h:kw w b (K a t (0,0)) W)(j:Nat)(v:Value):kw w b (K (a.setIfInBounds j v) t (0,0)) (W.setCell ⟨w.heap.size+1,j,U⟩ v)∧ak (fun k=>w.heap.size<=k∧k<w.heap.size+2) W (W.setCell ⟨w.heap.size+1,j,U⟩ v):=by
 have c:=js (w.heap.size+1) [v] j W;exact⟨⟨c.q h.b (by omega),by rw[aR W (w.heap.size+1) j _ _ _ h.c],h.below.trans (c.below (fun k e=>by omega) h.below.size)⟩,ak.j _ W _ _ ⟨by show w.heap.size<=w.heap.size+1;omega,by show w.heap.size+1<_;omega⟩⟩
theorem kw.B (w:X)(a b:Array Value)(t u:Nat):kw w (K a t (0,0)) (K b u (0,0)) ((w.alloc (K a t)).alloc (K b u)):=by
 have d:Below w.heap.size w (w.alloc (K a t)):=(ar _ _).alloc (am _) _;have c:Below (w.alloc (K a t)).heap.size (w.alloc (K a t)) ((w.alloc (K a t)).alloc (K b u)):=(ar _ _).alloc (am _) _;refine⟨(c.block w.heap.size (by simp)).trans (be w _),?_,au d c⟩;have:=be (w.alloc (K a t)) (K b u);rw[bu] at this;exact this
