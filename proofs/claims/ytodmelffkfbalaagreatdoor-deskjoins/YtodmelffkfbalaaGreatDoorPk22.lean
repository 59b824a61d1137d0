import Derived.Test.YtodmelffkfbalaaGreatDoorPk11
import Derived.Test.YtodmelffkfbalaaGreatDoorPk17
import Derived.Test.YtodmelffkfbalaaGreatDoorPk15
open Go.Value renaming string->V,slice->Z
open Go.Obj renaming cells->K
open Option renaming none->U,some->M
open Go renaming World->X
open Go.Proofs.Tryz
namespace Go.Proofs.YtodmelffkfbalaaGreatDoor
open Go.RowKit
structure jO (w:X)(cs:Array Value)(t:Nat)(W:X):Prop where
 b:W.heap[w.heap.size]? = M (K cs t (0,0))
 below:Below w.heap.size w W
section
variable {w W W':X} {cs:Array Value} {t:Nat}
theorem jO.a (h:jO w cs t W)(a:Below W.heap.size W W'):jO w cs t W':=⟨(a.block _ (bO.1 h.b).1).trans h.b,au h.below a⟩
theorem jO.y {S:Nat->Prop}(h:jO w cs t W)(a:am S W W')(b:∀k,S k->w.heap.size<k):jO w cs t W':=⟨a.y h.b (fun e=>by have:=b _ e;omega),h.below.trans (a.below (fun k e=>by have:=b k e;omega) h.below.size)⟩
theorem jO.j (w:X)(cs:Array Value)(t:Nat):jO w cs t (w.alloc (K cs t)):=⟨aX w _,(ar _ _).alloc (ak _) _⟩
theorem jO.f (h:jO w cs t W)(j:Nat):W.cell? ⟨w.heap.size,j,U⟩=cs[j]?:=aq W w.heap.size j _ _ _ h.b
theorem jO.r (h:jO w cs t W):w.heap.size<W.heap.size:=(bO.1 h.b).1
end
theorem GV (n:ae)(l:aC):aG n l=aO n l:=rfl
theorem GW (a:List ae):iH a=aZ a:=by
 rcases a with _ | ⟨v,_ | ⟨b,t⟩⟩ <;> rfl
theorem PU (l:aC)(n:ae)(B:Nat)(h:∀p∈l,p.2.size<=B):(aZ (aO n l)).1.length<=B:=by
 have a:∀v∈aO n l,v.size<=B:=fun v a=>by
  unfold aO at a;obtain⟨p,b,rfl⟩:=my.1 a;exact h p (List.mem_filter.1 b).1
 unfold aZ;split
 . simp
 . rename_i v c;have:=a v (by rw[c];simp);rw[cJ];exact this
 . simp
theorem dV.G {w:X}{b g cap:Nat}{l:ab}(h:dV w b g cap l)(j:Nat)(c:UInt8):dV (w.setCell ⟨g,j,U⟩ (.int .u8 (c.toNat:Int))) b g cap (l.set j c)∧am (fun k=>k=g) w (w.setCell ⟨g,j,U⟩ (.int .u8 (c.toNat:Int))):=by
 refine⟨⟨h.c,by simpa using h.b,by rw[pI];exact h.e,h.f,fun i u f=>?_,fun i n=>?_⟩,am.r (fun k=>k=g) w ⟨g,j,U⟩ _ rfl⟩
 . have d:i<l.length:=by
    have:=(fe.1 f).1;rwa[dr,pI] at this
   rw[jM _ i (by rw[pI];exact d)] at f;by_cases e:i=j
   . subst e;have o:=h.d i _ (jM l i d);rw[sI w _ _ o,<-f,List.getElem_set_self]
   . rw[sJ (h:=by intro a;injection a with _ a;exact e a.symm),<-f];rw[List.getElem_set_ne (fun a=>e a.symm)];exact h.d i _ (jM l i d)
 . obtain⟨m,p⟩:=h.a i n;refine⟨?_,by rw[World.frozen?_setCell];exact p⟩;by_cases e:i=j
   . subst e;obtain⟨v,q⟩:=Option.isSome_iff_exists.1 m;rw[sI w _ _ q];rfl
   . rw[sJ (h:=by intro a;injection a with _ a;exact e a.symm)];exact m
theorem QS {l:ab}{a b:Int}(ha:rC 47 l a)(f:rC 92 l b):-1<=max a b∧max a b<l.length∧l.drop (max a b+1).toNat=mP l:=by
 have m:∀c:UInt8,nJ c=false<->c≠47∧c≠92:=fun c=>by
  unfold nJ;rw[Bool.or_eq_false_iff,aQ,aQ]
 have o:∀c:UInt8,(c=47∨c=92)->nJ c=true:=fun c h=>by
  unfold nJ;rw[Bool.or_eq_true,cR,cR];exact h
 rcases ha with ⟨ha,g⟩ | ⟨i,q,ha,t,g⟩
 . rcases f with ⟨f,nb⟩ | ⟨k,n,f,r,nb⟩
   . have e:max a b=-1:=by omega
     rw[e];exact⟨by omega,by omega,(uc (p:=0) (ax _) (fun j d _=>(m _).2 ⟨g j d,nb j d⟩) (Or.inl rfl)).symm⟩
   . have e:max a b=k:=by omega
     rw[e];refine⟨by omega,by omega,?_⟩;rw[show((k:Int)+1).toNat=k+1 by omega];exact(uc (p:=k+1) n (fun j d h=>(m _).2 ⟨g j d,nb j d h⟩) (Or.inr ⟨by simpa using n,by omega,o _ (Or.inr (by simpa using r))⟩)).symm
 . rcases f with ⟨f,nb⟩ | ⟨k,n,f,r,nb⟩
   . have e:max a b=i:=by omega
     rw[e];refine⟨by omega,by omega,?_⟩;rw[show((i:Int)+1).toNat=i+1 by omega];exact(uc (p:=i+1) q (fun j d h=>(m _).2 ⟨g j d h,nb j d⟩) (Or.inr ⟨by simpa using q,by omega,o _ (Or.inl (by simpa using t))⟩)).symm
   . rcases eN i k with h | h
     . have e:max a b=k:=by omega
       rw[e];refine⟨by omega,by omega,?_⟩;rw[show((k:Int)+1).toNat=k+1 by omega];exact(uc (p:=k+1) n (fun j d s=>(m _).2 ⟨g j d (by omega),nb j d s⟩) (Or.inr ⟨by simpa using n,by omega,o _ (Or.inr (by simpa using r))⟩)).symm
     . have e:max a b=i:=by omega
       rw[e];refine⟨by omega,by omega,?_⟩;rw[show((i:Int)+1).toNat=i+1 by omega];exact(uc (p:=i+1) q (fun j d s=>(m _).2 ⟨g j d s,nb j d (by omega)⟩) (Or.inr ⟨by simpa using q,by omega,o _ (Or.inl (by simpa using t))⟩)).symm
theorem QU:(prog.info? 96).map (fun i=>(i.zero,i.size,i.bytes))=M (M (.agg #[V ⟨#[]⟩,V ⟨#[]⟩,V ⟨#[]⟩,Z U 0 0]),4,72):=by kernel_rfl
structure mw where
 a:ag
 b:Nat
def lK (p:bW)(s:mw):List Value:=[V p.c,V p.b,V p.d,Z s.a p.a.length s.b]
def iF (ps:List (bW×mw)):List Value:=ps.flatMap fun p=>lK p.1 p.2
theorem BK (a b:List (bW×mw)):iF (a++b)=iF a++iF b:=by simp[iF]
theorem zz (p:bW)(s:mw):iF [(p,s)]=lK p s:=by simp[iF]
theorem vM (a:List (bW×mw)):(iF a).length=a.length*4:=by
 induction a with
 | nil=>rfl
 | cons p t b =>
   have e:(lK p.1 p.2).length=4:=rfl;simp only[iF,ob,aD,bG] at b ⊢;rw[b,e];omega
theorem ou:∀(a:List (bW×mw)) (i:Nat) (b:i<a.length) (j:Nat),j<4->(iF a)[i*4+j]? = (lK a[i].1 a[i].2)[j]?
 | p :: t, 0, _, j, hj => by
   show(lK p.1 p.2++iF t)[0*4+j]? = _;rw[qS (by rw[show(lK p.1 p.2).length=4 from rfl];omega),pJ,ee];rfl
 | p :: t, i + 1, b, j, hj => by
   show(lK p.1 p.2++iF t)[(i+1)*4+j]? = _;rw[qW (by rw[show(lK p.1 p.2).length=4 from rfl];omega),show(lK p.1 p.2).length=4 from rfl,show(i+1)*4+j-4=i*4+j by omega];exact ou t i (by simpa using b) j hj
structure nA (w:X)(D:Nat->Prop)(ps:List bW)(ao:ag)(cap n:Nat)(wr:X):Prop where
 b:∃qs:List (bW×mw),qs.map (·.1)=ps∧aK wr w.heap.size 96 4 ao cap n (iF qs)∧∀q∈qs,dL w D q.2.a q.2.b q.1.a
 a:n=ps.length
 below:Below w.heap.size w wr
theorem nA.B (w:X)(D:Nat->Prop):nA w D [] U 0 0 w:=⟨⟨[],rfl,aK.y _ _ _ _,fun q a=>(by cases a)⟩,rfl,ar _ _⟩
theorem nA.f {D:Nat->Prop}{w wr w':X}{a:List bW}{ao:ag}{cap n:Nat}(h:nA w D a ao cap n wr)(b:Below wr.heap.size wr w'):nA w D a ao cap n w':=by
 obtain⟨c,d,e,f⟩:=h.b;exact⟨⟨c,d,e.B b,f⟩,h.a,au h.below b⟩
theorem nA.y {D:Nat->Prop}{w W:X}{d:List bW}{ao:ag}{cap n:Nat}(h:nA w D d ao cap n W):∃xs,aK W w.heap.size 96 4 ao cap n xs ∧
 ∀gL b w' (p:bW) (s:mw),dL w D s.a s.b p.a->aK w' w.heap.size 96 4 gL b (n+1) (xs++lK p s)->W.grownBy w' (aw ao)->nA w D (d++[p]) gL b (n+1) w':=by
 obtain⟨f,i,g,j⟩:=h.b;refine⟨iF f,g,fun gL b w' p s l m o=>⟨⟨f++[(p,s)],by simp[i],by rw[BK,zz];exact m,fun q c=>?_⟩,by rw[aD,h.a];rfl,h.below.grown o h.below.size (fun k e=>?_)⟩⟩
 . rcases eC.1 c with c | c
   . exact j q c
   . rw[cY.1 c];exact l
 . cases ao with
   | none=>cases e
   | some a=>injection e with e;subst e;exact(g.f a rfl).1
theorem nA.r {D:Nat->Prop}{w wr:X}{r:List bW}{p:bW}{ao:ag}{cap n:Nat}(h:nA w D (r++[p]) ao cap (n+1) wr):∃g,ao=M ⟨g,0,U⟩∧(∃v,wr.cell? ⟨g,n*4+3,U⟩=M v)∧wr.frozen? ⟨g,n*4+3,U⟩=false∧n+1<=cap ∧
 ∀(l:ab) (bo:ag) (c m:Nat),dL w D bo c l->m=l.length->nA w D (r++[{ p with a:=l }]) ao cap (n+1) (wr.setCell ⟨g,n*4+3,U⟩ (Z bo m c)):=by
 obtain⟨C,u,d,L⟩:=h.b;have N:n=r.length:=by have:=h.a;rw[aD] at this;simpa using this
 obtain⟨b,s,rfl,j,i⟩:∃b s,C=b++[s]∧b.map (·.1)=r∧s.1=p:=by
  rcases mz C with rfl | ⟨q,x,rfl⟩
  . have:=lL List.length u;simp at this
  . rw[kW,ku] at u;obtain⟨y,S⟩:=vg u rfl;exact⟨q,x,by rw[kW],y,by simpa using S⟩
 obtain⟨f,k⟩:=s;have i:f=p:=i;subst i;have t:b.length=n:=by have:=lL List.length j;rw[gD] at this;omega
 have hv:=d.a;have G:0<(iF (b++[(f,k)])).length:=by rw[vM,aD];simp
 obtain⟨a,rfl⟩:∃a,ao=M a:=by
  cases ao with
  | none=>have:=d.a.2.1 rfl;have:=d.a.1;omega
  | some a=>exact⟨a,rfl⟩
 obtain⟨g,rfl⟩:∃g,a=⟨g,0,U⟩:=by
  rcases d.2 with ⟨e,_⟩ | ⟨g,H,T,e,_⟩
  . injection e with e;cases e
  . injection e with e;injection e with e;exact⟨g,e⟩
 have z:(iF (b++[(f,k)]))[n*4+3]? = M (Z k.a f.a.length k.b):=by
  rw[ou _ n (by rw[aD,t];simp) 3 (by omega)];simp[<-t,lK]
 refine⟨g,rfl,⟨_,(qZ d (n*4+3) (by omega)).trans z⟩,sK d _,d.a.1,fun l bo c m W hm=>?_⟩;subst hm;have hS:=(od d (n*4+3) (Z bo l.length c)).1;have y:(iF (b++[(f,k)])).set (n*4+3) (Z bo l.length c)=iF (b++[({ f with a:=l },⟨bo,c⟩)]):=by
  rw[BK,BK,zz,zz,sy _ _ (by rw[vM,t];omega),vM,t,show n*4+3-n*4=3 by omega];rfl
 have B:aK (wr.setCell ⟨g,n*4+3,U⟩ (Z bo l.length c)) w.heap.size 96 4 (M ⟨g,0,U⟩) cap (n+1) (iF (b++[({ f with a:=l },⟨bo,c⟩)])):=by rw[<-y];exact hS
 have hb:w.heap.size<=(⟨g,n*4+3,U⟩:Addr).block:=(d.f _ rfl).1;refine⟨⟨b++[({ f with a:=l },⟨bo,c⟩)],by simp[j],B,fun q o=>?_⟩,by rw[aD,N];rfl,h.below.setCell hb _⟩;rcases eC.1 o with o | o
 . exact L q (qT _ o)
 . rw[cY.1 o];exact W
def tW (w:X)(ao:ag)(cap:Nat)(ps:List bW):Prop:=∃qs:List (bW×mw),qs.map (·.1)=ps∧bq w ao cap ps.length (iF qs)∧∀q∈qs,aB w q.2.a q.2.b q.1.a
theorem tW.a {w w':X}{ao:ag}{cap:Nat}{a:List bW}(h:tW w ao cap a)(b:Below w.heap.size w w'):tW w' ao cap a:=by
 obtain⟨c,d,e,f⟩:=h;exact⟨c,d,e.a b,fun q g=>(f q g).a b⟩
theorem tW.f {w:X}{ao:ag}{cap:Nat}{c:List bW}(h:tW w ao cap c)(k:Nat)(g:k<c.length):∃(b o:Nat) (s:mw),ao=M ⟨b,o,U⟩∧w.cell? ⟨b,o+k*4,U⟩=M (V c[k].c)∧w.cell? ⟨b,o+k*4+1,U⟩=M (V c[k].b)∧w.cell? ⟨b,o+k*4+2,U⟩=M (V c[k].d)∧w.cell? ⟨b,o+k*4+3,U⟩=M (Z s.a c[k].a.length s.b)∧aB w s.a s.b c[k].a:=by
 obtain⟨d,rfl,i,j⟩:=h;have a:k<d.length:=by simpa using g
 obtain⟨b,o,rfl,e⟩:=i.f (by rw[vM];omega);have l:=j _ (fb a);have f:=ou d k a 0 (by decide);have m:=ou d k a 1 (by decide);have n:=ou d k a 2 (by decide);have p:=ou d k a 3 (by decide);refine⟨b,o,d[k].2,rfl,?_,?_,?_,?_,?_⟩
 . rw[eu];exact e _ _ (by rw[mA] at f;exact f)
 . rw[eu,gE];exact e _ _ m
 . rw[eu,gE];exact e _ _ n
 . rw[eu,gE];exact e _ _ p
 . rw[eu];exact l
structure kv (w:X)(r1 r2:Obj)(W:X):Prop where
 b:W.heap[w.heap.size]? = M r1
 c:W.heap[w.heap.size+1]? = M r2
 below:Below w.heap.size w W
theorem kv.B {w W W':X}{b c:Obj}(h:kv w b c W)(a:Below W.heap.size W W'):kv w b c W' :=
 ⟨(a.block _ (bO.1 h.b).1).trans h.b,(a.block _ (bO.1 h.c).1).trans h.c,au h.below a⟩
theorem kv.f {w W:X}{a:Array Value}{t:Nat}{b:Obj}(h:kv w (K a t (0,0)) b W)(j:Nat):W.cell? ⟨w.heap.size,j,U⟩=a[j]?:=aq W w.heap.size j _ _ _ h.b
theorem kv.y {w W:X}{a:Array Value}{t:Nat}{b:Obj}(h:kv w (K a t (0,0)) b W)(j:Nat):W.frozen? ⟨w.heap.size,j,U⟩=false:=aN W w.heap.size j _ _ h.b
theorem kv.jK {w W:X}{a:Array Value}{t:Nat}{b:Obj}(h:kv w (K a t (0,0)) b W)(j:Nat)(v:Value)(d:a.setIfInBounds j v=a):kv w (K a t (0,0)) b (W.setCell ⟨w.heap.size,j,U⟩ v):=by
 have c:=jr w.heap.size [v] j W;refine⟨by rw[aP W w.heap.size j _ _ _ h.b,d],c.y h.c (by omega),h.below.trans (c.below (fun k e=>by omega) h.below.size)⟩
theorem kv.a {w W:X}{a:Array Value}{t:Nat}{b:Obj}(h:kv w b (K a t (0,0)) W)(j:Nat):W.cell? ⟨w.heap.size+1,j,U⟩=a[j]?:=aq W _ j _ _ _ h.c
theorem kv.r {w W:X}{a:Array Value}{t:Nat}{b:Obj}(h:kv w b (K a t (0,0)) W)(j:Nat):W.frozen? ⟨w.heap.size+1,j,U⟩=false:=aN W _ j _ _ h.c
theorem kv.G {w W:X}{a:Array Value}{t:Nat}{b:Obj}(h:kv w (K a t (0,0)) b W)(j:Nat)(v:Value):kv w (K (a.setIfInBounds j v) t (0,0)) b (W.setCell ⟨w.heap.size,j,U⟩ v)∧am (fun k=>w.heap.size<=k∧k<w.heap.size+2) W (W.setCell ⟨w.heap.size,j,U⟩ v):=by
 have c:=jr w.heap.size [v] j W;exact⟨⟨by rw[aP W w.heap.size j _ _ _ h.b],c.y h.c (by omega),h.below.trans (c.below (fun k e=>by omega) h.below.size)⟩,am.r _ W _ _ ⟨ak _,by show w.heap.size<_;omega⟩⟩
theorem kv.j {w W:X}{a:Array Value}{t:Nat}{b:Obj}(h:kv w b (K a t (0,0)) W)(j:Nat)(v:Value):kv w b (K (a.setIfInBounds j v) t (0,0)) (W.setCell ⟨w.heap.size+1,j,U⟩ v)∧am (fun k=>w.heap.size<=k∧k<w.heap.size+2) W (W.setCell ⟨w.heap.size+1,j,U⟩ v):=by
 have c:=jr (w.heap.size+1) [v] j W;exact⟨⟨c.y h.b (by omega),by rw[aP W (w.heap.size+1) j _ _ _ h.c],h.below.trans (c.below (fun k e=>by omega) h.below.size)⟩,am.r _ W _ _ ⟨by show w.heap.size<=w.heap.size+1;omega,by show w.heap.size+1<_;omega⟩⟩
theorem kv.H (w:X)(a b:Array Value)(t u:Nat):kv w (K a t (0,0)) (K b u (0,0)) ((w.alloc (K a t)).alloc (K b u)):=by
 have d:Below w.heap.size w (w.alloc (K a t)):=(ar _ _).alloc (ak _) _;have c:Below (w.alloc (K a t)).heap.size (w.alloc (K a t)) ((w.alloc (K a t)).alloc (K b u)):=(ar _ _).alloc (ak _) _;refine⟨(c.block w.heap.size (by simp)).trans (aX w _),?_,au d c⟩;have:=aX (w.alloc (K a t)) (K b u);rw[bF] at this;exact this
