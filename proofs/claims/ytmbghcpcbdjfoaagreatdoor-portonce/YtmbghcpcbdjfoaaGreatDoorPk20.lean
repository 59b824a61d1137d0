import Derived.Test.YtmbghcpcbdjfoaaGreatDoorPk11
import Derived.Test.YtmbghcpcbdjfoaaGreatDoorPk15
import Derived.Test.YtmbghcpcbdjfoaaGreatDoorPk13
open Go.Value renaming string->V,slice->Z
open Go.Obj renaming cells->K
open Option renaming none->U,some->M
open Go renaming World->X
open Go.Proofs.Tryz
namespace Go.Proofs.YtmbghcpcbdjfoaaGreatDoor
open Go.RowKit
structure gx (w:X)(cs:Array Value)(t:Nat)(W:X):Prop where
 b:W.heap[w.heap.size]? = M (K cs t (0,0))
 below:Below w.heap.size w W
section
variable {w W W':X} {cs:Array Value} {t:Nat}
theorem gx.d (h:gx w cs t W)(a:Below W.heap.size W W'):gx w cs t W':=⟨(a.block _ (bH.1 h.b).1).trans h.b,ar h.below a⟩
theorem gx.r {S:Nat->Prop}(h:gx w cs t W)(a:al S W W')(b:∀k,S k->w.heap.size<k):gx w cs t W':=⟨a.j h.b (fun e=>by have:=b _ e;omega),h.below.trans (a.below (fun k e=>by have:=b k e;omega) h.below.size)⟩
theorem gx.j (w:X)(cs:Array Value)(t:Nat):gx w cs t (w.alloc (K cs t)):=⟨bw w _,(aq _ _).alloc (ak _) _⟩
theorem gx.a (h:gx w cs t W)(j:Nat):W.cell? ⟨w.heap.size,j,U⟩=cs[j]?:=am W w.heap.size j _ _ _ h.b
theorem gx.f (h:gx w cs t W)(j:Nat):W.frozen? ⟨w.heap.size,j,U⟩=false:=aD W w.heap.size j _ _ h.b
theorem gx.q (h:gx w cs t W)(j:Nat)(v:Value):gx w (cs.setIfInBounds j v) t (W.setCell ⟨w.heap.size,j,U⟩ v):=by
 have a:al (fun k=>k=w.heap.size) W (W.setCell ⟨w.heap.size,j,U⟩ v):=gX w.heap.size [v] j W;exact⟨by rw[aQ W w.heap.size j _ _ _ h.b],h.below.trans (a.below (fun k e=>by omega) h.below.size)⟩
theorem gx.e (h:gx w cs t W):w.heap.size<W.heap.size:=(bH.1 h.b).1
end
theorem If (n:ag)(l:aC):aE n l=aT n l:=rfl
theorem Ih (a:List ag):fw a=bj a:=by
 rcases a with _ | ⟨v,_ | ⟨b,t⟩⟩ <;> rfl
theorem QM (l:aC)(n:ag)(B:Nat)(h:∀p∈l,p.2.size<=B):(bj (aT n l)).1.length<=B:=by
 have a:∀v∈aT n l,v.size<=B:=fun v a=>by
  unfold aT at a;obtain⟨p,b,rfl⟩:=jT.1 a;exact h p (List.mem_filter.1 b).1
 unfold bj;split
 . simp
 . rename_i v c;have:=a v (by rw[c];simp);rw[cy];exact this
 . simp
theorem dZ.B {w:X}{b g cap:Nat}{l:ae}(h:dZ w b g cap l)(j:Nat)(c:UInt8):dZ (w.setCell ⟨g,j,U⟩ (.int .u8 (c.toNat:Int))) b g cap (l.set j c)∧al (fun k=>k=g) w (w.setCell ⟨g,j,U⟩ (.int .u8 (c.toNat:Int))):=by
 refine⟨⟨h.c,by simpa using h.b,by rw[qk];exact h.e,h.f,fun i u f=>?_,fun i n=>?_⟩,al.f (fun k=>k=g) w ⟨g,j,U⟩ _ rfl⟩
 . have d:i<l.length:=by
    have:=(fB.1 f).1;rwa[dN,qk] at this
   rw[lI _ i (by rw[qk];exact d)] at f;by_cases e:i=j
   . subst e;have o:=h.d i _ (lI l i d);rw[tJ w _ _ o,<-f,List.getElem_set_self]
   . rw[tL (h:=by intro a;injection a with _ a;exact e a.symm),<-f];rw[List.getElem_set_ne (fun a=>e a.symm)];exact h.d i _ (lI l i d)
 . obtain⟨m,p⟩:=h.a i n;refine⟨?_,by rw[World.frozen?_setCell];exact p⟩;by_cases e:i=j
   . subst e;obtain⟨v,q⟩:=Option.isSome_iff_exists.1 m;rw[tJ w _ _ q];rfl
   . rw[tL (h:=by intro a;injection a with _ a;exact e a.symm)];exact m
theorem Rg {l:ae}{a b:Int}(ha:se 47 l a)(f:se 92 l b):-1<=max a b∧max a b<l.length∧l.drop (max a b+1).toNat=nu l:=by
 have m:∀c:UInt8,oa c=false<->c≠47∧c≠92:=fun c=>by
  unfold oa;rw[yv,aO,aO]
 have o:∀c:UInt8,(c=47∨c=92)->oa c=true:=fun c h=>by
  unfold oa;rw[Bool.or_eq_true,cM,cM];exact h
 rcases ha with ⟨ha,g⟩ | ⟨i,q,ha,t,g⟩
 . rcases f with ⟨f,nb⟩ | ⟨k,n,f,r,nb⟩
   . have e:max a b=-1:=by omega
     rw[e];exact⟨by omega,by omega,(uS (p:=0) (ax _) (fun j d _=>(m _).2 ⟨g j d,nb j d⟩) (Or.inl rfl)).symm⟩
   . have e:max a b=k:=by omega
     rw[e];refine⟨by omega,by omega,?_⟩;rw[show((k:Int)+1).toNat=k+1 by omega];exact(uS (p:=k+1) n (fun j d h=>(m _).2 ⟨g j d,nb j d h⟩) (Or.inr ⟨by simpa using n,by omega,o _ (Or.inr (by simpa using r))⟩)).symm
 . rcases f with ⟨f,nb⟩ | ⟨k,n,f,r,nb⟩
   . have e:max a b=i:=by omega
     rw[e];refine⟨by omega,by omega,?_⟩;rw[show((i:Int)+1).toNat=i+1 by omega];exact(uS (p:=i+1) q (fun j d h=>(m _).2 ⟨g j d h,nb j d⟩) (Or.inr ⟨by simpa using q,by omega,o _ (Or.inl (by simpa using t))⟩)).symm
   . rcases fe i k with h | h
     . have e:max a b=k:=by omega
       rw[e];refine⟨by omega,by omega,?_⟩;rw[show((k:Int)+1).toNat=k+1 by omega];exact(uS (p:=k+1) n (fun j d s=>(m _).2 ⟨g j d (by omega),nb j d s⟩) (Or.inr ⟨by simpa using n,by omega,o _ (Or.inr (by simpa using r))⟩)).symm
     . have e:max a b=i:=by omega
       rw[e];refine⟨by omega,by omega,?_⟩;rw[show((i:Int)+1).toNat=i+1 by omega];exact(uS (p:=i+1) q (fun j d s=>(m _).2 ⟨g j d s,nb j d (by omega)⟩) (Or.inr ⟨by simpa using q,by omega,o _ (Or.inl (by simpa using t))⟩)).symm
theorem Rj:(prog.info? 96).map (fun i=>(i.zero,i.size,i.bytes))=M (M (.agg #[V ⟨#[]⟩,V ⟨#[]⟩,V ⟨#[]⟩,Z U 0 0]),4,72):=by kernel_rfl
structure mO where
 a:ai
 b:Nat
def ma (p:bW)(s:mO):List Value:=[V p.c,V p.b,V p.d,Z s.a p.a.length s.b]
def iO (ps:List (bW×mO)):List Value:=ps.flatMap fun p=>ma p.1 p.2
theorem Cy (a b:List (bW×mO)):iO (a++b)=iO a++iO b:=by simp[iO]
theorem zO (p:bW)(s:mO):iO [(p,s)]=ma p s:=by simp[iO]
theorem wL (a:List (bW×mO)):(iO a).length=a.length*4:=by
 induction a with
 | nil=>rfl
 | cons p t b =>
   have e:(ma p.1 p.2).length=4:=rfl;simp only[iO,oA,aF,bO] at b ⊢;rw[b,e];omega
theorem oN:∀(a:List (bW×mO)) (i:Nat) (b:i<a.length) (j:Nat),j<4->(iO a)[i*4+j]? = (ma a[i].1 a[i].2)[j]?
 | p :: t, 0, _, j, hj => by
   show(ma p.1 p.2++iO t)[0*4+j]? = _;rw[ql (by rw[show(ma p.1 p.2).length=4 from rfl];omega),pj,dV];rfl
 | p :: t, i + 1, b, j, hj => by
   show(ma p.1 p.2++iO t)[(i+1)*4+j]? = _;rw[qq (by rw[show(ma p.1 p.2).length=4 from rfl];omega),show(ma p.1 p.2).length=4 from rfl,show(i+1)*4+j-4=i*4+j by omega];exact oN t i (by simpa using b) j hj
structure nU (w:X)(D:Nat->Prop)(ps:List bW)(ao:ai)(cap n:Nat)(wr:X):Prop where
 b:∃qs:List (bW×mO),qs.map (·.1)=ps∧aG wr w.heap.size 96 4 ao cap n (iO qs)∧∀q∈qs,dO w D q.2.a q.2.b q.1.a
 a:n=ps.length
 below:Below w.heap.size w wr
theorem nU.q (w:X)(D:Nat->Prop):nU w D [] U 0 0 w:=⟨⟨[],rfl,aG.f _ _ _ _,fun q a=>(by cases a)⟩,rfl,aq _ _⟩
theorem nU.d {D:Nat->Prop}{w wr w':X}{a:List bW}{ao:ai}{cap n:Nat}(h:nU w D a ao cap n wr)(b:Below wr.heap.size wr w'):nU w D a ao cap n w':=by
 obtain⟨c,d,e,f⟩:=h.b;exact⟨⟨c,d,e.r b,f⟩,h.a,ar h.below b⟩
theorem nU.j {D:Nat->Prop}{w W:X}{d:List bW}{ao:ai}{cap n:Nat}(h:nU w D d ao cap n W):∃xs,aG W w.heap.size 96 4 ao cap n xs ∧
 ∀gQ b w' (p:bW) (s:mO),dO w D s.a s.b p.a->aG w' w.heap.size 96 4 gQ b (n+1) (xs++ma p s)->W.grownBy w' (au ao)->nU w D (d++[p]) gQ b (n+1) w':=by
 obtain⟨f,i,g,j⟩:=h.b;refine⟨iO f,g,fun gQ b w' p s l m o=>⟨⟨f++[(p,s)],by simp[i],by rw[Cy,zO];exact m,fun q c=>?_⟩,by rw[aF,h.a];rfl,h.below.grown o h.below.size (fun k e=>?_)⟩⟩
 . rcases dm.1 c with c | c
   . exact j q c
   . rw[cD.1 c];exact l
 . cases ao with
   | none=>cases e
   | some a=>injection e with e;subst e;exact(g.d a rfl).1
theorem nU.f {D:Nat->Prop}{w wr:X}{r:List bW}{p:bW}{ao:ai}{cap n:Nat}(h:nU w D (r++[p]) ao cap (n+1) wr):∃g,ao=M ⟨g,0,U⟩∧(∃v,wr.cell? ⟨g,n*4+3,U⟩=M v)∧wr.frozen? ⟨g,n*4+3,U⟩=false∧n+1<=cap ∧
 ∀(l:ae) (bo:ai) (c m:Nat),dO w D bo c l->m=l.length->nU w D (r++[{ p with a:=l }]) ao cap (n+1) (wr.setCell ⟨g,n*4+3,U⟩ (Z bo m c)):=by
 obtain⟨C,u,d,L⟩:=h.b;have N:n=r.length:=by have:=h.a;rw[aF] at this;simpa using this
 obtain⟨b,s,rfl,j,i⟩:∃b s,C=b++[s]∧b.map (·.1)=r∧s.1=p:=by
  rcases mQ C with rfl | ⟨q,x,rfl⟩
  . have:=mg List.length u;simp at this
  . rw[lA,lB] at u;obtain⟨y,S⟩:=wp u rfl;exact⟨q,x,by rw[lA],y,by simpa using S⟩
 obtain⟨f,k⟩:=s;have i:f=p:=i;subst i;have t:b.length=n:=by have:=mg List.length j;rw[ij] at this;omega
 have hv:=d.a;have G:0<(iO (b++[(f,k)])).length:=by rw[wL,aF];simp
 obtain⟨a,rfl⟩:∃a,ao=M a:=by
  cases ao with
  | none=>have:=d.a.2.1 rfl;have:=d.a.1;omega
  | some a=>exact⟨a,rfl⟩
 obtain⟨g,rfl⟩:∃g,a=⟨g,0,U⟩:=by
  rcases d.2 with ⟨e,_⟩ | ⟨g,H,T,e,_⟩
  . injection e with e;cases e
  . injection e with e;injection e with e;exact⟨g,e⟩
 have z:(iO (b++[(f,k)]))[n*4+3]? = M (Z k.a f.a.length k.b):=by
  rw[oN _ n (by rw[aF,t];simp) 3 (by omega)];simp[<-t,ma]
 refine⟨g,rfl,⟨_,(rG d (n*4+3) (by omega)).trans z⟩,tM d _,d.a.1,fun l bo c m W hm=>?_⟩;subst hm;have hS:=(oE d (n*4+3) (Z bo l.length c)).1;have y:(iO (b++[(f,k)])).set (n*4+3) (Z bo l.length c)=iO (b++[({ f with a:=l },⟨bo,c⟩)]):=by
  rw[Cy,Cy,zO,zO,tC _ _ (by rw[wL,t];omega),wL,t,show n*4+3-n*4=3 by omega];rfl
 have B:aG (wr.setCell ⟨g,n*4+3,U⟩ (Z bo l.length c)) w.heap.size 96 4 (M ⟨g,0,U⟩) cap (n+1) (iO (b++[({ f with a:=l },⟨bo,c⟩)])):=by rw[<-y];exact hS
 have hb:w.heap.size<=(⟨g,n*4+3,U⟩:Addr).block:=(d.d _ rfl).1;refine⟨⟨b++[({ f with a:=l },⟨bo,c⟩)],by simp[j],B,fun q o=>?_⟩,by rw[aF,N];rfl,h.below.setCell hb _⟩;rcases dm.1 o with o | o
 . exact L q (qm _ o)
 . rw[cD.1 o];exact W
def uK (w:X)(ao:ai)(cap:Nat)(ps:List bW):Prop:=∃qs:List (bW×mO),qs.map (·.1)=ps∧bx w ao cap ps.length (iO qs)∧∀q∈qs,ay w q.2.a q.2.b q.1.a
theorem uK.a {w w':X}{ao:ai}{cap:Nat}{a:List bW}(h:uK w ao cap a)(b:Below w.heap.size w w'):uK w' ao cap a:=by
 obtain⟨c,d,e,f⟩:=h;exact⟨c,d,e.a b,fun q g=>(f q g).a b⟩
theorem uK.d {w:X}{ao:ai}{cap:Nat}{c:List bW}(h:uK w ao cap c)(k:Nat)(g:k<c.length):∃(b o:Nat) (s:mO),ao=M ⟨b,o,U⟩∧w.cell? ⟨b,o+k*4,U⟩=M (V c[k].c)∧w.cell? ⟨b,o+k*4+1,U⟩=M (V c[k].b)∧w.cell? ⟨b,o+k*4+2,U⟩=M (V c[k].d)∧w.cell? ⟨b,o+k*4+3,U⟩=M (Z s.a c[k].a.length s.b)∧ay w s.a s.b c[k].a:=by
 obtain⟨d,rfl,i,j⟩:=h;have a:k<d.length:=by simpa using g
 obtain⟨b,o,rfl,e⟩:=i.e (by rw[wL];omega);have l:=j _ (dG a);have f:=oN d k a 0 (by decide);have m:=oN d k a 1 (by decide);have n:=oN d k a 2 (by decide);have p:=oN d k a 3 (by decide);refine⟨b,o,d[k].2,rfl,?_,?_,?_,?_,?_⟩
 . rw[dH];exact e _ _ (by rw[lC] at f;exact f)
 . rw[dH,fC];exact e _ _ m
 . rw[dH,fC];exact e _ _ n
 . rw[dH,fC];exact e _ _ p
 . rw[dH];exact l
structure kK (w:X)(r1 r2:Obj)(W:X):Prop where
 b:W.heap[w.heap.size]? = M r1
 c:W.heap[w.heap.size+1]? = M r2
 below:Below w.heap.size w W
theorem kK.q {w W W':X}{b c:Obj}(h:kK w b c W)(a:Below W.heap.size W W'):kK w b c W' :=
 ⟨(a.block _ (bH.1 h.b).1).trans h.b,(a.block _ (bH.1 h.c).1).trans h.c,ar h.below a⟩
theorem kK.d {w W:X}{a:Array Value}{t:Nat}{b:Obj}(h:kK w (K a t (0,0)) b W)(j:Nat):W.cell? ⟨w.heap.size,j,U⟩=a[j]?:=am W w.heap.size j _ _ _ h.b
theorem kK.j {w W:X}{a:Array Value}{t:Nat}{b:Obj}(h:kK w (K a t (0,0)) b W)(j:Nat):W.frozen? ⟨w.heap.size,j,U⟩=false:=aD W w.heap.size j _ _ h.b
theorem kK.B {w W:X}{a:Array Value}{t:Nat}{b:Obj}(h:kK w (K a t (0,0)) b W)(j:Nat)(v:Value)(d:a.setIfInBounds j v=a):kK w (K a t (0,0)) b (W.setCell ⟨w.heap.size,j,U⟩ v):=by
 have c:=gX w.heap.size [v] j W;refine⟨by rw[aQ W w.heap.size j _ _ _ h.b,d],c.j h.c (by omega),h.below.trans (c.below (fun k e=>by omega) h.below.size)⟩
theorem kK.a {w W:X}{a:Array Value}{t:Nat}{b:Obj}(h:kK w b (K a t (0,0)) W)(j:Nat):W.cell? ⟨w.heap.size+1,j,U⟩=a[j]?:=am W _ j _ _ _ h.c
theorem kK.f {w W:X}{a:Array Value}{t:Nat}{b:Obj}(h:kK w b (K a t (0,0)) W)(j:Nat):W.frozen? ⟨w.heap.size+1,j,U⟩=false:=aD W _ j _ _ h.c
theorem kK.r {w W:X}{a:Array Value}{t:Nat}{b:Obj}(h:kK w (K a t (0,0)) b W)(j:Nat)(v:Value):kK w (K (a.setIfInBounds j v) t (0,0)) b (W.setCell ⟨w.heap.size,j,U⟩ v)∧al (fun k=>w.heap.size<=k∧k<w.heap.size+2) W (W.setCell ⟨w.heap.size,j,U⟩ v):=by
 have c:=gX w.heap.size [v] j W;exact⟨⟨by rw[aQ W w.heap.size j _ _ _ h.b],c.j h.c (by omega),h.below.trans (c.below (fun k e=>by omega) h.below.size)⟩,al.f _ W _ _ ⟨ak _,by show w.heap.size<_;omega⟩⟩
theorem kK.e {w W:X}{a:Array Value}{t:Nat}{b:Obj}(h:kK w b (K a t (0,0)) W)(j:Nat)(v:Value):kK w b (K (a.setIfInBounds j v) t (0,0)) (W.setCell ⟨w.heap.size+1,j,U⟩ v)∧al (fun k=>w.heap.size<=k∧k<w.heap.size+2) W (W.setCell ⟨w.heap.size+1,j,U⟩ v):=by
 have c:=gX (w.heap.size+1) [v] j W;exact⟨⟨c.j h.b (by omega),by rw[aQ W (w.heap.size+1) j _ _ _ h.c],h.below.trans (c.below (fun k e=>by omega) h.below.size)⟩,al.f _ W _ _ ⟨by show w.heap.size<=w.heap.size+1;omega,by show w.heap.size+1<_;omega⟩⟩
theorem kK.y (w:X)(a b:Array Value)(t u:Nat):kK w (K a t (0,0)) (K b u (0,0)) ((w.alloc (K a t)).alloc (K b u)):=by
 have d:Below w.heap.size w (w.alloc (K a t)):=(aq _ _).alloc (ak _) _;have c:Below (w.alloc (K a t)).heap.size (w.alloc (K a t)) ((w.alloc (K a t)).alloc (K b u)):=(aq _ _).alloc (ak _) _;refine⟨(c.block w.heap.size (by simp)).trans (bw w _),?_,ar d c⟩;have:=bw (w.alloc (K a t)) (K b u);rw[ch] at this;exact this
