/- Small texts, one behind the other: MemK, TuNu, RfWord, FsB, PtA, PtB, TwoBl. -/
import Derived.Test.YthhklgjjnaeaoaaGreatDoorPk14
import Derived.Test.YthhklgjjnaeaoaaGreatDoorPk17
import Derived.Test.YthhklgjjnaeaoaaGreatDoorPk16
open Go.Value renaming string->V,slice->Z
open Go.Obj renaming cells->K
open Option renaming none->U,some->M
open Go renaming World->X
open Go.Proofs.Tryz
namespace Go.Proofs.YthhklgjjnaeaoaaGreatDoor
open Go.RowKit
structure lZ (w:X)(cs:Array Value)(t:Nat)(W:X):Prop where
 one:W.heap[w.heap.size]? = M (K cs t (0,0))
 below:Below w.heap.size w W
section
variable {w W W':X} {cs:Array Value} {t:Nat}
theorem lZ.stay (h:lZ w cs t W)(a:Below W.heap.size W W'):lZ w cs t W':=⟨(a.block _ (aL.1 h.one).1).trans h.one,then_ h.below a⟩
theorem lZ.turns {S:Nat->Prop}(h:lZ w cs t W)(a:Turns S W W')(b:∀k,S k->w.heap.size<k):lZ w cs t W':=⟨a.row h.one (fun e=>by have:=b _ e;omega),h.below.trans (a.below (fun k e=>by have:=b k e;omega) h.below.size)⟩
theorem lZ.made (w:X)(cs:Array Value)(t:Nat):lZ w cs t (w.alloc (K cs t)):=⟨eX w _,(eY _ _).alloc (aM _) _⟩
theorem lZ.cell (h:lZ w cs t W)(j:Nat):W.cell? ⟨w.heap.size,j,U⟩=cs[j]?:=eZ W w.heap.size j _ _ _ h.one
theorem lZ.lt (h:lZ w cs t W):w.heap.size<W.heap.size:=(aL.1 h.one).1
end
theorem Tu.Qq (n:ay)(l:au):Fd.vals n l=Tu.vals n l:=rfl
theorem Tu.Wo (a:List ay):Fd.one a=Tu.one a:=by
 rcases a with _ | ⟨v,_ | ⟨b,t⟩⟩ <;> rfl
theorem Tu.Wp (l:au)(n:ay)(B:Nat)(h:∀p∈l,p.2.size<=B):(Tu.one (Tu.vals n l)).1.length<=B:=by
 have a:∀v∈Tu.vals n l,v.size<=B:=fun v a=>by
  unfold Tu.vals at a;obtain⟨p,b,rfl⟩:=aN.1 a;exact h p (List.mem_filter.1 b).1
 unfold Tu.one;split
 . simp
 . rename_i v c;have:=a v (by rw[c];simp);rw[aO];exact this
 . simp
theorem Buf.set {w:X}{b g cap:Nat}{l:av}(h:Buf w b g cap l)(j:Nat)(c:UInt8):Buf (w.setCell ⟨g,j,U⟩ (.int .u8 (c.toNat:Int))) b g cap (l.set j c)∧Turns (fun k=>k=g) w (w.setCell ⟨g,j,U⟩ (.int .u8 (c.toNat:Int))):=by
 refine⟨⟨h.rD,by simpa using h.lt,by rw[aP];exact h.le,h.max,fun i u f=>?_,fun i n=>?_⟩,Turns.setCell (fun k=>k=g) w ⟨g,j,U⟩ _ rfl⟩
 . have d:i<l.length:=by
    have:=(aQ.1 f).1;rwa[gF,aP] at this
   rw[kF _ i (by rw[aP];exact d)] at f;by_cases e:i=j
   . subst e;have o:=h.holds i _ (kF l i d);rw[fA w _ _ o,<-f,List.getElem_set_self]
   . rw[fB (h:=by intro a;injection a with _ a;exact e a.symm),<-f];rw[List.getElem_set_ne (fun a=>e a.symm)];exact h.holds i _ (kF l i d)
 . obtain⟨m,p⟩:=h.there i n;refine⟨?_,by rw[World.frozen?_setCell];exact p⟩;by_cases e:i=j
   . subst e;obtain⟨v,q⟩:=Option.isSome_iff_exists.1 m;rw[fA w _ _ q];rfl
   . rw[fB (h:=by intro a;injection a with _ a;exact e a.symm)];exact m
theorem SB {l:av}{a b:Int}(ha:Aj 47 l a)(f:Aj 92 l b):-1<=max a b∧max a b<l.length∧l.drop (max a b+1).toNat=Fm.tail l:=by
 have m:∀c:UInt8,Fm.stroke c=false<->c≠47∧c≠92:=fun c=>by
  unfold Fm.stroke;rw[Bool.or_eq_false_iff,aR,aR]
 have o:∀c:UInt8,(c=47∨c=92)->Fm.stroke c=true:=fun c h=>by
  unfold Fm.stroke;rw[Bool.or_eq_true,aS,aS];exact h
 rcases ha with ⟨ha,g⟩ | ⟨i,q,ha,t,g⟩
 . rcases f with ⟨f,nb⟩ | ⟨k,n,f,r,nb⟩
   . have e:max a b=-1:=by omega
     rw[e];exact⟨by omega,by omega,(Fm.tail_at (p:=0) (aA _) (fun j d _=>(m _).2 ⟨g j d,nb j d⟩) (Or.inl rfl)).symm⟩
   . have e:max a b=k:=by omega
     rw[e];refine⟨by omega,by omega,?_⟩;rw[show((k:Int)+1).toNat=k+1 by omega];exact(Fm.tail_at (p:=k+1) n (fun j d h=>(m _).2 ⟨g j d,nb j d h⟩) (Or.inr ⟨by simpa using n,by omega,o _ (Or.inr (by simpa using r))⟩)).symm
 . rcases f with ⟨f,nb⟩ | ⟨k,n,f,r,nb⟩
   . have e:max a b=i:=by omega
     rw[e];refine⟨by omega,by omega,?_⟩;rw[show((i:Int)+1).toNat=i+1 by omega];exact(Fm.tail_at (p:=i+1) q (fun j d h=>(m _).2 ⟨g j d h,nb j d⟩) (Or.inr ⟨by simpa using q,by omega,o _ (Or.inl (by simpa using t))⟩)).symm
   . rcases aT i k with h | h
     . have e:max a b=k:=by omega
       rw[e];refine⟨by omega,by omega,?_⟩;rw[show((k:Int)+1).toNat=k+1 by omega];exact(Fm.tail_at (p:=k+1) n (fun j d s=>(m _).2 ⟨g j d (by omega),nb j d s⟩) (Or.inr ⟨by simpa using n,by omega,o _ (Or.inr (by simpa using r))⟩)).symm
     . have e:max a b=i:=by omega
       rw[e];refine⟨by omega,by omega,?_⟩;rw[show((i:Int)+1).toNat=i+1 by omega];exact(Fm.tail_at (p:=i+1) q (fun j d s=>(m _).2 ⟨g j d s,nb j d (by omega)⟩) (Or.inr ⟨by simpa using q,by omega,o _ (Or.inl (by simpa using t))⟩)).symm
theorem SH:(prog.info? 96).map (fun i=>(i.zero,i.size,i.bytes))=M (M (.agg #[V ⟨#[]⟩,V ⟨#[]⟩,V ⟨#[]⟩,Z U 0 0]),4,72):=by kernel_rfl
structure UG where
 bo:ak
 fU:Nat
def SI (p:Fm.Pt)(s:UG):List Value:=[V p.name,V p.file,V p.type,Z s.bo p.bytes.length s.fU]
def sW (ps:List (Fm.Pt×UG)):List Value:=ps.flatMap fun p=>SI p.1 p.2
theorem vZ (a b:List (Fm.Pt×UG)):sW (a++b)=sW a++sW b:=by simp[sW]
theorem Ed (p:Fm.Pt)(s:UG):sW [(p,s)]=SI p s:=by simp[sW]
theorem pG (a:List (Fm.Pt×UG)):(sW a).length=a.length*4:=by
 induction a with
 | nil=>rfl
 | cons p t b =>
   have e:(SI p.1 p.2).length=4:=rfl;simp only[sW,aU,aV,aW] at b ⊢;rw[b,e];omega
theorem oN:∀(a:List (Fm.Pt×UG)) (i:Nat) (b:i<a.length) (j:Nat),j<4->(sW a)[i*4+j]? = (SI a[i].1 a[i].2)[j]?
 | p :: t, 0, _, j, hj => by
   show(SI p.1 p.2++sW t)[0*4+j]? = _;rw[aX (by rw[show(SI p.1 p.2).length=4 from rfl];omega),aY,aZ];rfl
 | p :: t, i + 1, b, j, hj => by
   show(SI p.1 p.2++sW t)[(i+1)*4+j]? = _;rw[bg (by rw[show(SI p.1 p.2).length=4 from rfl];omega),show(SI p.1 p.2).length=4 from rfl,show(i+1)*4+j-4=i*4+j by omega];exact oN t i (by simpa using b) j hj
structure pI (w:X)(D:Nat->Prop)(ps:List Fm.Pt)(ao:ak)(cap n:Nat)(wr:X):Prop where
 own:∃qs:List (Fm.Pt×UG),qs.map (·.1)=ps∧gH wr w.heap.size 96 4 ao cap n (sW qs)∧∀q∈qs,jI w D q.2.bo q.2.fU q.1.bytes
 len:n=ps.length
 below:Below w.heap.size w wr
theorem pI.start (w:X)(D:Nat->Prop):pI w D [] U 0 0 w:=⟨⟨[],rfl,gH.nil _ _ _ _,fun q a=>(by cases a)⟩,rfl,eY _ _⟩
theorem pI.stay {D:Nat->Prop}{w wr w':X}{a:List Fm.Pt}{ao:ak}{cap n:Nat}(h:pI w D a ao cap n wr)(b:Below wr.heap.size wr w'):pI w D a ao cap n w':=by
 obtain⟨c,d,e,f⟩:=h.own;exact⟨⟨c,d,e.stay b,f⟩,h.len,then_ h.below b⟩
theorem pI.push {D:Nat->Prop}{w W:X}{d:List Fm.Pt}{ao:ak}{cap n:Nat}(h:pI w D d ao cap n W):∃xs,gH W w.heap.size 96 4 ao cap n xs ∧
 ∀gJ b w' (p:Fm.Pt) (s:UG),jI w D s.bo s.fU p.bytes->gH w' w.heap.size 96 4 gJ b (n+1) (xs++SI p s)->W.grownBy w' (fV ao)->pI w D (d++[p]) gJ b (n+1) w':=by
 obtain⟨f,i,g,j⟩:=h.own;refine⟨sW f,g,fun gJ b w' p s l m o=>⟨⟨f++[(p,s)],by simp[i],by rw[vZ,Ed];exact m,fun q c=>?_⟩,by rw[aV,h.len];rfl,h.below.grown o h.below.size (fun k e=>?_)⟩⟩
 . rcases bq.1 c with c | c
   . exact j q c
   . rw[bA.1 c];exact l
 . cases ao with
   | none=>cases e
   | some a=>injection e with e;subst e;exact(g.block a rfl).1
theorem pI.bytes {D:Nat->Prop}{w wr:X}{r:List Fm.Pt}{p:Fm.Pt}{ao:ak}{cap n:Nat}(h:pI w D (r++[p]) ao cap (n+1) wr):∃g,ao=M ⟨g,0,U⟩∧(∃v,wr.cell? ⟨g,n*4+3,U⟩=M v)∧wr.frozen? ⟨g,n*4+3,U⟩=false∧n+1<=cap ∧
 ∀(l:av) (bo:ak) (c m:Nat),jI w D bo c l->m=l.length->pI w D (r++[{ p with bytes:=l }]) ao cap (n+1) (wr.setCell ⟨g,n*4+3,U⟩ (Z bo m c)):=by
 obtain⟨C,u,d,L⟩:=h.own;have N:n=r.length:=by have:=h.len;rw[aV] at this;simpa using this
 obtain⟨b,s,rfl,j,i⟩:∃b s,C=b++[s]∧b.map (·.1)=r∧s.1=p:=by
  rcases bB C with rfl | ⟨q,x,rfl⟩
  . have:=bC List.length u;simp at this
  . rw[bD,bE] at u;obtain⟨y,S⟩:=bF u rfl;exact⟨q,x,by rw[bD],y,by simpa using S⟩
 obtain⟨f,k⟩:=s;have i:f=p:=i;subst i;have t:b.length=n:=by have:=bC List.length j;rw[aF] at this;omega
 have hv:=d.qE;have G:0<(sW (b++[(f,k)])).length:=by rw[pG,aV];simp
 obtain⟨a,rfl⟩:∃a,ao=M a:=by
  cases ao with
  | none=>have:=d.qE.2.1 rfl;have:=d.qE.1;omega
  | some a=>exact⟨a,rfl⟩
 obtain⟨g,rfl⟩:∃g,a=⟨g,0,U⟩:=by
  rcases d.2 with ⟨e,_⟩ | ⟨g,H,T,e,_⟩
  . injection e with e;cases e
  . injection e with e;injection e with e;exact⟨g,e⟩
 have z:(sW (b++[(f,k)]))[n*4+3]? = M (Z k.bo f.bytes.length k.fU):=by
  rw[oN _ n (by rw[aV,t];simp) 3 (by omega)];simp[<-t,SI]
 refine⟨g,rfl,⟨_,(fD d (n*4+3) (by omega)).trans z⟩,fE d _,d.qE.1,fun l bo c m W hm=>?_⟩;subst hm;have hS:=(fF d (n*4+3) (Z bo l.length c)).1;have y:(sW (b++[(f,k)])).set (n*4+3) (Z bo l.length c)=sW (b++[({ f with bytes:=l },⟨bo,c⟩)]):=by
  rw[vZ,vZ,Ed,Ed,bG _ _ (by rw[pG,t];omega),pG,t,show n*4+3-n*4=3 by omega];rfl
 have B:gH (wr.setCell ⟨g,n*4+3,U⟩ (Z bo l.length c)) w.heap.size 96 4 (M ⟨g,0,U⟩) cap (n+1) (sW (b++[({ f with bytes:=l },⟨bo,c⟩)])):=by rw[<-y];exact hS
 have hb:w.heap.size<=(⟨g,n*4+3,U⟩:Addr).block:=(d.block _ rfl).1;refine⟨⟨b++[({ f with bytes:=l },⟨bo,c⟩)],by simp[j],B,fun q o=>?_⟩,by rw[aV,N];rfl,h.below.setCell hb _⟩;rcases bq.1 o with o | o
 . exact L q (bH _ o)
 . rw[bA.1 o];exact W
def Ee (w:X)(ao:ak)(cap:Nat)(ps:List Fm.Pt):Prop:=∃qs:List (Fm.Pt×UG),qs.map (·.1)=ps∧ji w ao cap ps.length (sW qs)∧∀q∈qs,gN w q.2.bo q.2.fU q.1.bytes
theorem Ee.stay {w w':X}{ao:ak}{cap:Nat}{a:List Fm.Pt}(h:Ee w ao cap a)(b:Below w.heap.size w w'):Ee w' ao cap a:=by
 obtain⟨c,d,e,f⟩:=h;exact⟨c,d,e.stay b,fun q g=>(f q g).stay b⟩
theorem Ee.at_ {w:X}{ao:ak}{cap:Nat}{c:List Fm.Pt}(h:Ee w ao cap c)(k:Nat)(g:k<c.length):∃(b o:Nat) (s:UG),ao=M ⟨b,o,U⟩∧w.cell? ⟨b,o+k*4,U⟩=M (V c[k].name)∧w.cell? ⟨b,o+k*4+1,U⟩=M (V c[k].file)∧w.cell? ⟨b,o+k*4+2,U⟩=M (V c[k].type)∧w.cell? ⟨b,o+k*4+3,U⟩=M (Z s.bo c[k].bytes.length s.fU)∧gN w s.bo s.fU c[k].bytes:=by
 obtain⟨d,rfl,i,j⟩:=h;have a:k<d.length:=by simpa using g
 obtain⟨b,o,rfl,e⟩:=i.lit (by rw[pG];omega);have l:=j _ (aC a);have f:=oN d k a 0 (by decide);have m:=oN d k a 1 (by decide);have n:=oN d k a 2 (by decide);have p:=oN d k a 3 (by decide);refine⟨b,o,d[k].2,rfl,?_,?_,?_,?_,?_⟩
 . rw[aG];exact e _ _ (by rw[bI] at f;exact f)
 . rw[aG,bJ];exact e _ _ m
 . rw[aG,bJ];exact e _ _ n
 . rw[aG,bJ];exact e _ _ p
 . rw[aG];exact l
structure lq (w:X)(r1 r2:Obj)(W:X):Prop where
 one:W.heap[w.heap.size]? = M r1
 two:W.heap[w.heap.size+1]? = M r2
 below:Below w.heap.size w W
theorem lq.stay {w W W':X}{b c:Obj}(h:lq w b c W)(a:Below W.heap.size W W'):lq w b c W' :=
 ⟨(a.block _ (aL.1 h.one).1).trans h.one,(a.block _ (aL.1 h.two).1).trans h.two,then_ h.below a⟩
theorem lq.cell {w W:X}{a:Array Value}{t:Nat}{b:Obj}(h:lq w (K a t (0,0)) b W)(j:Nat):W.cell? ⟨w.heap.size,j,U⟩=a[j]?:=eZ W w.heap.size j _ _ _ h.one
theorem lq.fz {w W:X}{a:Array Value}{t:Nat}{b:Obj}(h:lq w (K a t (0,0)) b W)(j:Nat):W.frozen? ⟨w.heap.size,j,U⟩=false:=fq W w.heap.size j _ _ h.one
theorem lq.same {w W:X}{a:Array Value}{t:Nat}{b:Obj}(h:lq w (K a t (0,0)) b W)(j:Nat)(v:Value)(d:a.setIfInBounds j v=a):lq w (K a t (0,0)) b (W.setCell ⟨w.heap.size,j,U⟩ v):=by
 have c:=gY w.heap.size [v] j W;refine⟨by rw[fu W w.heap.size j _ _ _ h.one,d],c.row h.two (by omega),h.below.trans (c.below (fun k e=>by omega) h.below.size)⟩
theorem lq.xE {w W:X}{a:Array Value}{t:Nat}{b:Obj}(h:lq w b (K a t (0,0)) W)(j:Nat):W.cell? ⟨w.heap.size+1,j,U⟩=a[j]?:=eZ W _ j _ _ _ h.two
theorem lq.fz2 {w W:X}{a:Array Value}{t:Nat}{b:Obj}(h:lq w b (K a t (0,0)) W)(j:Nat):W.frozen? ⟨w.heap.size+1,j,U⟩=false:=fq W _ j _ _ h.two
theorem lq.abu {w W:X}{a:Array Value}{t:Nat}{b:Obj}(h:lq w (K a t (0,0)) b W)(j:Nat)(v:Value):lq w (K (a.setIfInBounds j v) t (0,0)) b (W.setCell ⟨w.heap.size,j,U⟩ v)∧Turns (fun k=>w.heap.size<=k∧k<w.heap.size+2) W (W.setCell ⟨w.heap.size,j,U⟩ v):=by
 have c:=gY w.heap.size [v] j W;exact⟨⟨by rw[fu W w.heap.size j _ _ _ h.one],c.row h.two (by omega),h.below.trans (c.below (fun k e=>by omega) h.below.size)⟩,Turns.setCell _ W _ _ ⟨aM _,by show w.heap.size<_;omega⟩⟩
theorem lq.Ns {w W:X}{a:Array Value}{t:Nat}{b:Obj}(h:lq w b (K a t (0,0)) W)(j:Nat)(v:Value):lq w b (K (a.setIfInBounds j v) t (0,0)) (W.setCell ⟨w.heap.size+1,j,U⟩ v)∧Turns (fun k=>w.heap.size<=k∧k<w.heap.size+2) W (W.setCell ⟨w.heap.size+1,j,U⟩ v):=by
 have c:=gY (w.heap.size+1) [v] j W;exact⟨⟨c.row h.one (by omega),by rw[fu W (w.heap.size+1) j _ _ _ h.two],h.below.trans (c.below (fun k e=>by omega) h.below.size)⟩,Turns.setCell _ W _ _ ⟨by show w.heap.size<=w.heap.size+1;omega,by show w.heap.size+1<_;omega⟩⟩
theorem lq.made (w:X)(a b:Array Value)(t u:Nat):lq w (K a t (0,0)) (K b u (0,0)) ((w.alloc (K a t)).alloc (K b u)):=by
 have d:Below w.heap.size w (w.alloc (K a t)):=(eY _ _).alloc (aM _) _;have c:Below (w.alloc (K a t)).heap.size (w.alloc (K a t)) ((w.alloc (K a t)).alloc (K b u)):=(eY _ _).alloc (aM _) _;refine⟨(c.block w.heap.size (by simp)).trans (eX w _),?_,then_ d c⟩;have:=eX (w.alloc (K a t)) (K b u);rw[fG] at this;exact this
end Go.Proofs.YthhklgjjnaeaoaaGreatDoor