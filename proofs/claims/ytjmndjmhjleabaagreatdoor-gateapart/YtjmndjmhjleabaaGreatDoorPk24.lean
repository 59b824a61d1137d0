/- Small texts, one behind the other: MemK, TuNu, RfWord, FsB, PtA, PtB, TwoBl. -/
import Derived.Test.YtjmndjmhjleabaaGreatDoorPk14
import Derived.Test.YtjmndjmhjleabaaGreatDoorPk17
import Derived.Test.YtjmndjmhjleabaaGreatDoorPk16
open Go.Value renaming string->V,slice->Z
open Go.Obj renaming cells->K
open Option renaming none->U,some->M
open Go renaming World->X
open Go.Proofs.Tryz
namespace Go.Proofs.YtjmndjmhjleabaaGreatDoor
open Go.RowKit
structure jI (w:X)(cs:Array Value)(t:Nat)(W:X):Prop where
 one:W.heap[w.heap.size]? = M (K cs t (0,0))
 below:Below w.heap.size w W
section
variable {w W W':X} {cs:Array Value} {t:Nat}
theorem jI.stay (h:jI w cs t W)(a:Below W.heap.size W W'):jI w cs t W':=⟨(a.block _ (aK.1 h.one).1).trans h.one,then_ h.below a⟩
theorem jI.turns {S:Nat->Prop}(h:jI w cs t W)(a:Turns S W W')(b:∀k,S k->w.heap.size<k):jI w cs t W':=⟨a.row h.one (fun e=>by have:=b _ e;omega),h.below.trans (a.below (fun k e=>by have:=b k e;omega) h.below.size)⟩
theorem jI.made (w:X)(cs:Array Value)(t:Nat):jI w cs t (w.alloc (K cs t)):=⟨fH w _,(fI _ _).alloc (aL _) _⟩
theorem jI.cell (h:jI w cs t W)(j:Nat):W.cell? ⟨w.heap.size,j,U⟩=cs[j]?:=fJ W w.heap.size j _ _ _ h.one
theorem jI.fz (h:jI w cs t W)(j:Nat):W.frozen? ⟨w.heap.size,j,U⟩=false:=fK W w.heap.size j _ _ h.one
theorem jI.put (h:jI w cs t W)(j:Nat)(v:Value):jI w (cs.setIfInBounds j v) t (W.setCell ⟨w.heap.size,j,U⟩ v):=by
 have a:Turns (fun k=>k=w.heap.size) W (W.setCell ⟨w.heap.size,j,U⟩ v):=gZ w.heap.size [v] j W;exact⟨by rw[fM W w.heap.size j _ _ _ h.one],h.below.trans (a.below (fun k e=>by omega) h.below.size)⟩
theorem jI.lt (h:jI w cs t W):w.heap.size<W.heap.size:=(aK.1 h.one).1
end
theorem Tu.QA (n:av)(l:ak):Fd.vals n l=Tu.vals n l:=rfl
theorem Tu.Wo (a:List av):Fd.one a=Tu.one a:=by
 rcases a with _ | ⟨v,_ | ⟨b,t⟩⟩ <;> rfl
theorem Tu.Wp (l:ak)(n:av)(B:Nat)(h:∀p∈l,p.2.size<=B):(Tu.one (Tu.vals n l)).1.length<=B:=by
 have a:∀v∈Tu.vals n l,v.size<=B:=fun v a=>by
  unfold Tu.vals at a;obtain⟨p,b,rfl⟩:=aM.1 a;exact h p (List.mem_filter.1 b).1
 unfold Tu.one;split
 . simp
 . rename_i v c;have:=a v (by rw[c];simp);rw[aN];exact this
 . simp
theorem Buf.set {w:X}{b g cap:Nat}{l:au}(h:Buf w b g cap l)(j:Nat)(c:UInt8):Buf (w.setCell ⟨g,j,U⟩ (.int .u8 (c.toNat:Int))) b g cap (l.set j c)∧Turns (fun k=>k=g) w (w.setCell ⟨g,j,U⟩ (.int .u8 (c.toNat:Int))):=by
 refine⟨⟨h.Ic,by simpa using h.lt,by rw[aO];exact h.le,h.max,fun i u f=>?_,fun i n=>?_⟩,Turns.setCell (fun k=>k=g) w ⟨g,j,U⟩ _ rfl⟩
 . have d:i<l.length:=by
    have:=(aP.1 f).1;rwa[ig,aO] at this
   rw[lQ _ i (by rw[aO];exact d)] at f;by_cases e:i=j
   . subst e;have o:=h.holds i _ (lQ l i d);rw[fO w _ _ o,<-f,List.getElem_set_self]
   . rw[fP (h:=by intro a;injection a with _ a;exact e a.symm),<-f];rw[List.getElem_set_ne (fun a=>e a.symm)];exact h.holds i _ (lQ l i d)
 . obtain⟨m,p⟩:=h.there i n;refine⟨?_,by rw[World.frozen?_setCell];exact p⟩;by_cases e:i=j
   . subst e;obtain⟨v,q⟩:=Option.isSome_iff_exists.1 m;rw[fO w _ _ q];rfl
   . rw[fP (h:=by intro a;injection a with _ a;exact e a.symm)];exact m
theorem SH {l:au}{a b:Int}(ha:Ba 47 l a)(f:Ba 92 l b):-1<=max a b∧max a b<l.length∧l.drop (max a b+1).toNat=Fm.tail l:=by
 have m:∀c:UInt8,Fm.stroke c=false<->c≠47∧c≠92:=fun c=>by
  unfold Fm.stroke;rw[aQ,aR,aR]
 have o:∀c:UInt8,(c=47∨c=92)->Fm.stroke c=true:=fun c h=>by
  unfold Fm.stroke;rw[Bool.or_eq_true,aS,aS];exact h
 rcases ha with ⟨ha,g⟩ | ⟨i,q,ha,t,g⟩
 . rcases f with ⟨f,nb⟩ | ⟨k,n,f,r,nb⟩
   . have e:max a b=-1:=by omega
     rw[e];exact⟨by omega,by omega,(Fm.tail_at (p:=0) (ay _) (fun j d _=>(m _).2 ⟨g j d,nb j d⟩) (Or.inl rfl)).symm⟩
   . have e:max a b=k:=by omega
     rw[e];refine⟨by omega,by omega,?_⟩;rw[show((k:Int)+1).toNat=k+1 by omega];exact(Fm.tail_at (p:=k+1) n (fun j d h=>(m _).2 ⟨g j d,nb j d h⟩) (Or.inr ⟨by simpa using n,by omega,o _ (Or.inr (by simpa using r))⟩)).symm
 . rcases f with ⟨f,nb⟩ | ⟨k,n,f,r,nb⟩
   . have e:max a b=i:=by omega
     rw[e];refine⟨by omega,by omega,?_⟩;rw[show((i:Int)+1).toNat=i+1 by omega];exact(Fm.tail_at (p:=i+1) q (fun j d h=>(m _).2 ⟨g j d h,nb j d⟩) (Or.inr ⟨by simpa using q,by omega,o _ (Or.inl (by simpa using t))⟩)).symm
   . rcases aT i k with h | h
     . have e:max a b=k:=by omega
       rw[e];refine⟨by omega,by omega,?_⟩;rw[show((k:Int)+1).toNat=k+1 by omega];exact(Fm.tail_at (p:=k+1) n (fun j d s=>(m _).2 ⟨g j d (by omega),nb j d s⟩) (Or.inr ⟨by simpa using n,by omega,o _ (Or.inr (by simpa using r))⟩)).symm
     . have e:max a b=i:=by omega
       rw[e];refine⟨by omega,by omega,?_⟩;rw[show((i:Int)+1).toNat=i+1 by omega];exact(Fm.tail_at (p:=i+1) q (fun j d s=>(m _).2 ⟨g j d s,nb j d (by omega)⟩) (Or.inr ⟨by simpa using q,by omega,o _ (Or.inl (by simpa using t))⟩)).symm
theorem SQ:(prog.info? 70).map (fun i=>(i.zero,i.size,i.bytes))=M (M (.agg #[V ⟨#[]⟩,V ⟨#[]⟩,V ⟨#[]⟩,Z U 0 0]),4,72):=by kernel_rfl
structure UO where
 bo:aj
 gJ:Nat
def SS (p:Fm.Pt)(s:UO):List Value:=[V p.name,V p.file,V p.type,Z s.bo p.bytes.length s.gJ]
def um (ps:List (Fm.Pt×UO)):List Value:=ps.flatMap fun p=>SS p.1 p.2
theorem wP (a b:List (Fm.Pt×UO)):um (a++b)=um a++um b:=by simp[um]
theorem EG (p:Fm.Pt)(s:UO):um [(p,s)]=SS p s:=by simp[um]
theorem pY (a:List (Fm.Pt×UO)):(um a).length=a.length*4:=by
 induction a with
 | nil=>rfl
 | cons p t b =>
   have e:(SS p.1 p.2).length=4:=rfl;simp only[um,aU,aV,aW] at b ⊢;rw[b,e];omega
theorem pz:∀(a:List (Fm.Pt×UO)) (i:Nat) (b:i<a.length) (j:Nat),j<4->(um a)[i*4+j]? = (SS a[i].1 a[i].2)[j]?
 | p :: t, 0, _, j, hj => by
   show(SS p.1 p.2++um t)[0*4+j]? = _;rw[aX (by rw[show(SS p.1 p.2).length=4 from rfl];omega),aY,aZ];rfl
 | p :: t, i + 1, b, j, hj => by
   show(SS p.1 p.2++um t)[(i+1)*4+j]? = _;rw[bq (by rw[show(SS p.1 p.2).length=4 from rfl];omega),show(SS p.1 p.2).length=4 from rfl,show(i+1)*4+j-4=i*4+j by omega];exact pz t i (by simpa using b) j hj
structure qc (w:X)(D:Nat->Prop)(ps:List Fm.Pt)(ao:aj)(cap n:Nat)(wr:X):Prop where
 own:∃qs:List (Fm.Pt×UO),qs.map (·.1)=ps∧gU wr w.heap.size 70 4 ao cap n (um qs)∧∀q∈qs,jZ w D q.2.bo q.2.gJ q.1.bytes
 len:n=ps.length
 below:Below w.heap.size w wr
theorem qc.start (w:X)(D:Nat->Prop):qc w D [] U 0 0 w:=⟨⟨[],rfl,gU.nil _ _ _ _,fun q a=>(by cases a)⟩,rfl,fI _ _⟩
theorem qc.stay {D:Nat->Prop}{w wr w':X}{a:List Fm.Pt}{ao:aj}{cap n:Nat}(h:qc w D a ao cap n wr)(b:Below wr.heap.size wr w'):qc w D a ao cap n w':=by
 obtain⟨c,d,e,f⟩:=h.own;exact⟨⟨c,d,e.stay b,f⟩,h.len,then_ h.below b⟩
theorem qc.push {D:Nat->Prop}{w W:X}{d:List Fm.Pt}{ao:aj}{cap n:Nat}(h:qc w D d ao cap n W):∃xs,gU W w.heap.size 70 4 ao cap n xs ∧
 ∀gV b w' (p:Fm.Pt) (s:UO),jZ w D s.bo s.gJ p.bytes->gU w' w.heap.size 70 4 gV b (n+1) (xs++SS p s)->W.grownBy w' (gK ao)->qc w D (d++[p]) gV b (n+1) w':=by
 obtain⟨f,i,g,j⟩:=h.own;refine⟨um f,g,fun gV b w' p s l m o=>⟨⟨f++[(p,s)],by simp[i],by rw[wP,EG];exact m,fun q c=>?_⟩,by rw[aV,h.len];rfl,h.below.grown o h.below.size (fun k e=>?_)⟩⟩
 . rcases bA.1 c with c | c
   . exact j q c
   . rw[bB.1 c];exact l
 . cases ao with
   | none=>cases e
   | some a=>injection e with e;subst e;exact(g.block a rfl).1
theorem qc.bytes {D:Nat->Prop}{w wr:X}{r:List Fm.Pt}{p:Fm.Pt}{ao:aj}{cap n:Nat}(h:qc w D (r++[p]) ao cap (n+1) wr):∃g,ao=M ⟨g,0,U⟩∧(∃v,wr.cell? ⟨g,n*4+3,U⟩=M v)∧wr.frozen? ⟨g,n*4+3,U⟩=false∧n+1<=cap ∧
 ∀(l:au) (bo:aj) (c m:Nat),jZ w D bo c l->m=l.length->qc w D (r++[{ p with bytes:=l }]) ao cap (n+1) (wr.setCell ⟨g,n*4+3,U⟩ (Z bo m c)):=by
 obtain⟨C,u,d,L⟩:=h.own;have N:n=r.length:=by have:=h.len;rw[aV] at this;simpa using this
 obtain⟨b,s,rfl,j,i⟩:∃b s,C=b++[s]∧b.map (·.1)=r∧s.1=p:=by
  rcases bC C with rfl | ⟨q,x,rfl⟩
  . have:=bD List.length u;simp at this
  . rw[bE,bF] at u;obtain⟨y,O⟩:=bG u rfl;exact⟨q,x,by rw[bE],y,by simpa using O⟩
 obtain⟨f,k⟩:=s;have i:f=p:=i;subst i;have t:b.length=n:=by have:=bD List.length j;rw[aD] at this;omega
 have hv:=d.nP;have G:0<(um (b++[(f,k)])).length:=by rw[pY,aV];simp
 obtain⟨a,rfl⟩:∃a,ao=M a:=by
  cases ao with
  | none=>have:=d.nP.2.1 rfl;have:=d.nP.1;omega
  | some a=>exact⟨a,rfl⟩
 obtain⟨g,rfl⟩:∃g,a=⟨g,0,U⟩:=by
  rcases d.2 with ⟨e,_⟩ | ⟨g,H,P,e,_⟩
  . injection e with e;cases e
  . injection e with e;injection e with e;exact⟨g,e⟩
 have z:(um (b++[(f,k)]))[n*4+3]? = M (Z k.bo f.bytes.length k.gJ):=by
  rw[pz _ n (by rw[aV,t];simp) 3 (by omega)];simp[<-t,SS]
 refine⟨g,rfl,⟨_,(fQ d (n*4+3) (by omega)).trans z⟩,fT d _,d.nP.1,fun l bo c m S T=>?_⟩;subst T;have W:=(fU d (n*4+3) (Z bo l.length c)).1;have y:(um (b++[(f,k)])).set (n*4+3) (Z bo l.length c)=um (b++[({ f with bytes:=l },⟨bo,c⟩)]):=by
  rw[wP,wP,EG,EG,bH _ _ (by rw[pY,t];omega),pY,t,show n*4+3-n*4=3 by omega];rfl
 have B:gU (wr.setCell ⟨g,n*4+3,U⟩ (Z bo l.length c)) w.heap.size 70 4 (M ⟨g,0,U⟩) cap (n+1) (um (b++[({ f with bytes:=l },⟨bo,c⟩)])):=by rw[<-y];exact W
 have hb:w.heap.size<=(⟨g,n*4+3,U⟩:Addr).block:=(d.block _ rfl).1;refine⟨⟨b++[({ f with bytes:=l },⟨bo,c⟩)],by simp[j],B,fun q o=>?_⟩,by rw[aV,N];rfl,h.below.setCell hb _⟩;rcases bA.1 o with o | o
 . exact L q (bI _ o)
 . rw[bB.1 o];exact S
def EH (w:X)(ao:aj)(cap:Nat)(ps:List Fm.Pt):Prop:=∃qs:List (Fm.Pt×UO),qs.map (·.1)=ps∧jm w ao cap ps.length (um qs)∧∀q∈qs,iG w q.2.bo q.2.gJ q.1.bytes
theorem EH.stay {w w':X}{ao:aj}{cap:Nat}{a:List Fm.Pt}(h:EH w ao cap a)(b:Below w.heap.size w w'):EH w' ao cap a:=by
 obtain⟨c,d,e,f⟩:=h;exact⟨c,d,e.stay b,fun q g=>(f q g).stay b⟩
theorem EH.at_ {w:X}{ao:aj}{cap:Nat}{c:List Fm.Pt}(h:EH w ao cap c)(k:Nat)(g:k<c.length):∃(b o:Nat) (s:UO),ao=M ⟨b,o,U⟩∧w.cell? ⟨b,o+k*4,U⟩=M (V c[k].name)∧w.cell? ⟨b,o+k*4+1,U⟩=M (V c[k].file)∧w.cell? ⟨b,o+k*4+2,U⟩=M (V c[k].type)∧w.cell? ⟨b,o+k*4+3,U⟩=M (Z s.bo c[k].bytes.length s.gJ)∧iG w s.bo s.gJ c[k].bytes:=by
 obtain⟨d,rfl,i,j⟩:=h;have a:k<d.length:=by simpa using g
 obtain⟨b,o,rfl,e⟩:=i.lit (by rw[pY];omega);have l:=j _ (aB a);have f:=pz d k a 0 (by decide);have m:=pz d k a 1 (by decide);have n:=pz d k a 2 (by decide);have p:=pz d k a 3 (by decide);refine⟨b,o,d[k].2,rfl,?_,?_,?_,?_,?_⟩
 . rw[aF];exact e _ _ (by rw[bJ] at f;exact f)
 . rw[aF,bK];exact e _ _ m
 . rw[aF,bK];exact e _ _ n
 . rw[aF,bK];exact e _ _ p
 . rw[aF];exact l
structure lD (w:X)(r1 r2:Obj)(W:X):Prop where
 one:W.heap[w.heap.size]? = M r1
 two:W.heap[w.heap.size+1]? = M r2
 below:Below w.heap.size w W
theorem lD.stay {w W b:X}{c d:Obj}(h:lD w c d W)(a:Below W.heap.size W b):lD w c d b :=
 ⟨(a.block _ (aK.1 h.one).1).trans h.one,(a.block _ (aK.1 h.two).1).trans h.two,then_ h.below a⟩
theorem lD.cell {w W:X}{a:Array Value}{t:Nat}{b:Obj}(h:lD w (K a t (0,0)) b W)(j:Nat):W.cell? ⟨w.heap.size,j,U⟩=a[j]?:=fJ W w.heap.size j _ _ _ h.one
theorem lD.fz {w W:X}{a:Array Value}{t:Nat}{b:Obj}(h:lD w (K a t (0,0)) b W)(j:Nat):W.frozen? ⟨w.heap.size,j,U⟩=false:=fK W w.heap.size j _ _ h.one
theorem lD.same {w W:X}{a:Array Value}{t:Nat}{b:Obj}(h:lD w (K a t (0,0)) b W)(j:Nat)(v:Value)(d:a.setIfInBounds j v=a):lD w (K a t (0,0)) b (W.setCell ⟨w.heap.size,j,U⟩ v):=by
 have c:Turns (fun k=>k=w.heap.size) W (W.setCell ⟨w.heap.size,j,U⟩ v):=gZ w.heap.size [v] j W;refine⟨by rw[fM W w.heap.size j _ _ _ h.one,d],c.row h.two (by omega),h.below.trans (c.below (fun k e=>by omega) h.below.size)⟩
theorem lD.yA {w W:X}{a:Array Value}{t:Nat}{b:Obj}(h:lD w b (K a t (0,0)) W)(j:Nat):W.cell? ⟨w.heap.size+1,j,U⟩=a[j]?:=fJ W _ j _ _ _ h.two
theorem lD.fz2 {w W:X}{a:Array Value}{t:Nat}{b:Obj}(h:lD w b (K a t (0,0)) W)(j:Nat):W.frozen? ⟨w.heap.size+1,j,U⟩=false:=fK W _ j _ _ h.two
theorem lD.ah1 {w W:X}{a:Array Value}{t:Nat}{b:Obj}(h:lD w (K a t (0,0)) b W)(j:Nat)(v:Value):lD w (K (a.setIfInBounds j v) t (0,0)) b (W.setCell ⟨w.heap.size,j,U⟩ v)∧Turns (fun k=>w.heap.size<=k∧k<w.heap.size+2) W (W.setCell ⟨w.heap.size,j,U⟩ v):=by
 have c:Turns (fun k=>k=w.heap.size) W (W.setCell ⟨w.heap.size,j,U⟩ v):=gZ w.heap.size [v] j W;exact⟨⟨by rw[fM W w.heap.size j _ _ _ h.one],c.row h.two (by omega),h.below.trans (c.below (fun k e=>by omega) h.below.size)⟩,Turns.setCell _ W _ _ ⟨aL _,by show w.heap.size<_;omega⟩⟩
theorem lD.WT {w W:X}{a:Array Value}{t:Nat}{b:Obj}(h:lD w b (K a t (0,0)) W)(j:Nat)(v:Value):lD w b (K (a.setIfInBounds j v) t (0,0)) (W.setCell ⟨w.heap.size+1,j,U⟩ v)∧Turns (fun k=>w.heap.size<=k∧k<w.heap.size+2) W (W.setCell ⟨w.heap.size+1,j,U⟩ v):=by
 have c:Turns (fun k=>k=w.heap.size+1) W (W.setCell ⟨w.heap.size+1,j,U⟩ v):=gZ (w.heap.size+1) [v] j W;exact⟨⟨c.row h.one (by omega),by rw[fM W (w.heap.size+1) j _ _ _ h.two],h.below.trans (c.below (fun k e=>by omega) h.below.size)⟩,Turns.setCell _ W _ _ ⟨by show w.heap.size<=w.heap.size+1;omega,by show w.heap.size+1<_;omega⟩⟩
theorem lD.made (w:X)(a b:Array Value)(t u:Nat):lD w (K a t (0,0)) (K b u (0,0)) ((w.alloc (K a t)).alloc (K b u)):=by
 have d:Below w.heap.size w (w.alloc (K a t)):=(fI _ _).alloc (aL _) _;have c:Below (w.alloc (K a t)).heap.size (w.alloc (K a t)) ((w.alloc (K a t)).alloc (K b u)):=(fI _ _).alloc (aL _) _;refine⟨(c.block w.heap.size (by simp)).trans (fH w _),?_,then_ d c⟩;have:=fH (w.alloc (K a t)) (K b u);rw[fV] at this;exact this
end Go.Proofs.YtjmndjmhjleabaaGreatDoor