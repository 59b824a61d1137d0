import Derived.Test.YtodmelffkfbalaaGreatDoorPk48
import Derived.Test.YtodmelffkfbalaaGreatDoorPk42
import Derived.Test.YtodmelffkfbalaaGreatDoorPk44
import Derived.Test.YtodmelffkfbalaaGreatDoorPk43
import Derived.Test.YtodmelffkfbalaaGreatDoorPk21
open Go.Value renaming int->I,string->V,slice->Z,pointer->Q
open Go.IntKind renaming i64->J
open Go.Obj renaming cells->K
open Go.Ending renaming returned->Y
open Option renaming none->U,some->M
open Bool renaming false->F
open Or renaming inl->A,inr->R
open Go renaming World->X
set_option maxHeartbeats 6400000
set_option maxRecDepth 100000
open Go.Proofs.Tryz
namespace Go.Proofs.YtodmelffkfbalaaGreatDoor
open Go.RowKit
structure dF (w0:X)(κ:Nat->lZ)(g gs:Nat)(s:av)(v:Nat->List Value)(c:Nat->cY)(x:Nat->kV)(z:Nat->dB)(o:dB)(w:X):Prop where
 a:eQ (fM g gs s v 4 c x z o) κ w
 f:di w0
 b:Below w0.heap.size w0 w
 d:∀i,κ i≠.out->w0.heap.size<=i
section
variable {w0 w w':X} {κ:Nat->lZ} {g gs:Nat} {s s':av} {v v':Nat->List Value} {c c':Nat->cY} {x x':Nat->kV} {z:Nat->dB} {o:dB}
theorem xd {n:Nat}{d:lZ}(a:∀i,κ i≠.out->w0.heap.size<=i)(b:w0.heap.size<=n):∀i,cy κ n d i≠.out->w0.heap.size<=i:=by intro l;induction l <;> grind [cy]
theorem dF.r (a:∀k,bK (z k))(b:bK o)(h:dF w0 κ g gs s v c x z o w){T N:Nat->Prop}(d:lZ)(hd:d≠.out)(f:ak T w w')(i:∀k,T k->κ k=d)(j:fM g gs s' v' 4 c' x' z o d w' N)(l:∀k,N k->κ k=d∨w.heap.size<=k)(m:∀e,e≠d->fM g gs s' v' 4 c' x' z o e=fM g gs s v 4 c x z o e):dF w0 (cy κ w.heap.size d) g gs s' v' c' x' z o w' :=
 ⟨h.a.a (li a b) f i (X':=fM g gs s' v' 4 c' x' z o) (li a b d) j l m,h.f,h.b.trans (f.below (fun k e=>h.d k (by rw[i k e];exact hd)) h.b.size),xd h.d h.b.size⟩
theorem dF.e (b:∀k,bK (z k))(d:bK o)(h:dF w0 κ g gs s v c x z o w)(a:Below w.heap.size w w'):dF w0 κ g gs s v c x z o w':=⟨h.a.e (li b d) a,h.f,au h.b a,h.d⟩
theorem dF.jL (a:∀k,bK (z k))(b:bK o)(h:dF w0 κ g gs s v c x z o w):dF w0 (cy κ w.heap.size .out) g gs s v c x z o w:=by
 refine⟨fun d=>?_,h.f,h.b,xd h.d h.b.size⟩;exact(li a b d).b (h.a d) (fun k f e=>(fg f).trans e)
theorem dF.q (a:∀k,bK (z k))(b:bK o)(h:dF w0 κ g gs s v c x z o w)(f:gn w' g gs v')(j:ak (fun i=>i=g) w w'):dF w0 (cy κ w.heap.size .row) g gs s v' c x z o w' :=
 h.r a b .row (by intro h;cases h) j (fun k e=>by rw[e];exact(h.a .row).2) (N:=fun k=>k=g) ⟨f,rfl⟩ (fun k e=>A (by rw[e];exact(h.a .row).2)) (fun d l=>by cases d <;> first | rfl | exact absurd rfl l)
theorem dF.E (a:∀k,bK (z k))(b:bK o)(h:dF w0 κ g gs s v c x z o w)(f:aT w' (ay (fun k=>κ k=.jc) w) gs s')(i:ak (fun k=>κ k=.jc) w w'):dF w0 (cy κ w.heap.size .jc) g gs s' v c x z o w' :=
 h.r a b .jc (by intro h;cases h) i (fun _ e=>e) f (fun _ e=>e) (fun d j=>by cases d <;> first | rfl | exact absurd rfl j)
theorem dF.j (h:dF w0 κ g gs s v c x z o w):gn w g gs v:=(h.a .row).1
theorem dF.y (h:dF w0 κ g gs s v c x z o w)(k:Nat)(hd:df)(fo:ag)(fZ:Nat)(f:jt w (fun i=>κ i=.fl k) fo fZ hd.a.length (aJ (cf hd.a))):dF w0 κ g gs s v (bJ c k { c k with a:=hd }) (bJ x k { x k with d:=fo,c:=fZ }) z o w:=by
 refine⟨fun d=>?_,h.f,h.b,h.d⟩;have a:=h.a d;cases d with
 | row=>exact a
 | jc=>exact a
 | rq j =>
   intro b;by_cases e:j=k
   . subst e;rw[cZ,cZ];exact a b
   . rw[ei _ _ e,ei _ _ e];exact a b
 | fl j =>
   refine⟨fun b=>?_,a.2⟩;by_cases e:j=k
   . subst e;rw[cZ,cZ];exact f
   . rw[ei _ _ e,ei _ _ e];exact a.1 b
 | bd j =>
   intro b;by_cases e:j=k
   . subst e;rw[cZ,cZ];exact a b
   . rw[ei _ _ e,ei _ _ e];exact a b
 | ret=>exact a
 | out=>trivial
theorem dF.G (h:dF w0 κ g gs s v c x z o w)(k:Nat):dF w0 κ g gs s v (bJ c k { c k with b:=[] }) (bJ x k { x k with a:=U,b:=0 }) z o w:=by
 refine⟨fun d=>?_,h.f,h.b,h.d⟩;have a:=h.a d;cases d with
 | row=>exact a
 | jc=>exact a
 | rq j =>
   intro b;by_cases e:j=k
   . subst e;rw[cZ,cZ];exact a b
   . rw[ei _ _ e,ei _ _ e];exact a b
 | fl j =>
   refine⟨fun b=>?_,a.2⟩;by_cases e:j=k
   . subst e;rw[cZ,cZ];exact a.1 b
   . rw[ei _ _ e,ei _ _ e];exact a.1 b
 | bd j =>
   intro b;by_cases e:j=k
   . subst e;rw[cZ,cZ];exact bI.e _ _ _
   . rw[ei _ _ e,ei _ _ e];exact a b
 | ret=>exact a
 | out=>trivial
theorem dF.lG (q:∀k,bK (z k))(r:bK o)(h:dF w0 κ g gs s v c x z o w)(k:Nat)(t:k<4){n:ag}{p:Nat}{b:ab}(u:bI w' (fun i=>cq (c k).b (x k).a=M i∨w.heap.size<=i) 5 n p ((c k).b++b))(y:ak (fun i=>cq (c k).b (x k).a=M i) w w'):dF w0 (cy κ w.heap.size (.bd k)) g gs s v (bJ c k { c k with b:=(c k).b++b }) (bJ x k { x k with a:=n,b:=p }) z o w':=by
 have f:∀i,cq (c k).b (x k).a=M i->κ i=.bd k:=fun i e=>by
  unfold cq at e;split at e
  . cases e
  . rename_i l;rcases h.a (.bd k) t with ⟨_,_,B⟩ | ⟨C,_⟩
    . cases m:(x k).a with
      | none=>rw[m] at e;cases e
      | some a=>rw[m] at e;injection e with e;rw[<-e];exact B a m
    . exact absurd C l
 refine h.r q r (.bd k) (by intro h;cases h) y f (N:=fun i=>cq (c k).b (x k).a=M i∨w.heap.size<=i) ?_ (fun i e=>?_) (fun d D=>?_)
 . intro _;rw[cZ,cZ];exact u
 . rcases e with e | e
   . exact A (f i e)
   . exact R e
 . cases d with
   | row=>rfl
   | jc=>rfl
   | rq j =>
     by_cases e:j=k
     . subst e;simp only[fM,cZ]
     . simp only[fM];rw[ei _ _ e,ei _ _ e]
   | fl j =>
     by_cases e:j=k
     . subst e;simp only[fM,cZ]
     . simp only[fM];rw[ei _ _ e,ei _ _ e]
   | bd j =>
     have e:j≠k:=fun e=>D (by rw[e]);simp only[fM];rw[ei _ _ e,ei _ _ e]
   | ret=>rfl
   | out=>rfl
end
theorem gn.B {w:X}{g gs:Nat}{v:Nat->List Value}(h:gn w g gs v){k:Nat}(a:k<4){l n a2 p q r m:Value}(s:v k=[l,n,a2,p,q,r,m]){o:Nat}(t:1+k*7=o)(b c d e f:Value):
 gn (((((w.setCell ⟨g,o+1,U⟩ b).setCell ⟨g,o+2,U⟩ c).setCell ⟨g,o+3,U⟩ d).setCell ⟨g,o+4,U⟩ e).setCell ⟨g,o+5,U⟩ f) g gs (bJ v k [l,b,c,d,e,f,m])∧ak (fun i=>i=g) w (((((w.setCell ⟨g,o+1,U⟩ b).setCell ⟨g,o+2,U⟩ c).setCell ⟨g,o+3,U⟩ d).setCell ⟨g,o+4,U⟩ e).setCell ⟨g,o+5,U⟩ f):=by
 subst t;refine⟨?_,js g [b,c,d,e,f] (1+k*7+1) w⟩;have:=((((h.e a (j:=1) (by decide) b).e a (j:=2) (by decide) c).e a (j:=3) (by decide) d).e a (j:=4) (by decide) e).e a (j:=5) (by decide) f;simp only[pb,cZ,s] at this;exact this
def wz {C:Type}(κ DF:Nat->C)(n:Nat):Prop:=∀i,i<n->DF i=κ i
theorem wz.a {C:Type}{κ a:Nat->C}{n m:Nat}(h:wz κ a n)(c:n<=m)(d:C):wz κ (cy a m d) n:=fun i b=>by rw[fg (by omega)];exact h i b
theorem wz.e {C:Type}(κ:Nat->C)(n:Nat):wz κ κ n:=fun _ _=>rfl
structure oA (w0:X)(κ:Nat->lZ)(g gs:Nat)(c:Nat->cY)(z:Nat->dB)(o:dB)(k:Nat)(w:X)(G:eN)(e:Ending)(w':X):Prop where
 d:∃(ao:ag) (cap n:Nat),e=Y (Z ao n cap)∧n=G.a.length∧az w' ao cap G.a
 b:∃DF x',dF w0 DF g gs G.s (ew (bJ c k ⟨(c k).c,G.c,G.b⟩) x') (bJ c k ⟨(c k).c,G.c,G.b⟩) x' z o w'∧wz κ DF w.heap.size
 a:ak (fun i=>κ i=.row∨κ i=.jc∨κ i=.bd k) w w'
section
variable {w0 w:X} {κ:Nat->lZ} {g gs:Nat} {s:av} {c:Nat->cY} {x:Nat->kV} {z:Nat->dB} {o:dB} {k:Nat}
theorem G7 {hd:df}(h:jo hd){fo:ag}{fZ:Nat}(a:bx w fo fZ hd.a.length (aJ (cf hd.a))):fX w (pz hd.a) fo fZ hd.a.length :=
 ⟨a, by rw[show pz hd.a = cf hd.a from rfl]; exact uO _, by have := h.a; omega, fun p b => by
  obtain⟨f,d,rfl⟩:=oh.1 b;have:=h.c f d;refine⟨?_,?_⟩
  . show f.1.toArray.size<=_;rw[cx];omega
  . show f.2.toArray.size<=_;rw[cx];omega⟩
theorem Rw (u:∀k,bK (z k))(v:bK o)(h:dF w0 κ g gs s (ew c x) c x z o w)(b:k<4)(hd:df){fo bo n:ag}{fZ nf nb fV p r:Nat}(y:hd.a.length=nf)(H:jt w (fun i=>κ i=.fl k) fo fZ nf (aJ (cf hd.a))):
 Calls prog 58 #[Q (M ⟨g,0,U⟩),Q (M ⟨g,1+k*7,U⟩),.agg #[I J 1,V ⟨hd.e.toArray⟩,V ⟨hd.b.toArray⟩,I J (hd.d:Int),Z fo nf fZ,I J hd.c,Z bo nb fV,V ⟨#[]⟩,V ⟨#[]⟩,V ⟨#[]⟩,Z n p r,I J 0]] w fun e w'=>oA w0 κ g gs c z o k w ⟨s,hd,(c k).b,[]⟩ e w':=by
 have l:=(ar _ w).alloc (am _) (K #[I J 1,V ⟨hd.e.toArray⟩,V ⟨hd.b.toArray⟩,I J (hd.d:Int),Z fo nf fZ,I J hd.c,Z bo nb fV,V ⟨#[]⟩,V ⟨#[]⟩,V ⟨#[]⟩,Z n p r,I J 0] 98);have B:=h.e u v l;have a:=B.j;have d:ew c x k=[Q (M ⟨(x k).e,0,U⟩),V ⟨(c k).a.e.toArray⟩,V ⟨(c k).a.b.toArray⟩,I J ((c k).a.d:Int),Z (x k).d (c k).a.a.length (x k).c,I J (c k).a.c,Z (x k).a (c k).b.length (x k).b]:=rfl;have L:=a.a b (j:=1) (by decide) (by rw[d];rfl);have N:=a.a b (j:=2) (by decide) (by rw[d];rfl);have T:=a.a b (j:=3) (by decide) (by rw[d];rfl);have W:=a.a b (j:=4) (by decide) (by rw[d];rfl);have c5:=a.a b (j:=5) (by decide) (by rw[d];rfl);have f1:=a.f (1+k*7+1);have f2:=a.f (1+k*7+2);have f3:=a.f (1+k*7+3);have f4:=a.f (1+k*7+4);have f5:=a.f (1+k*7+5)
 obtain⟨q,C⟩:∃q,1+k*7=q:=⟨_,rfl⟩;have D:=a.B b d C (V ⟨hd.e.toArray⟩) (V ⟨hd.b.toArray⟩) (I J (hd.d:Int)) (Z fo nf fZ) (I J hd.c);rw[C] at L N T W c5 f1 f2 f3 f4 f5 ⊢;have t:=H.e (ak.e (S:=fun _=>False) l) (fun _ _ e=>e);have f:∀m,gn m g gs (bJ (ew c x) k [Q (M ⟨(x k).e,0,U⟩),V ⟨hd.e.toArray⟩,V ⟨hd.b.toArray⟩,I J (hd.d:Int),Z fo nf fZ,I J hd.c,Z (x k).a (c k).b.length (x k).b])->ak (fun i=>i=g) (w.alloc (K #[I J 1,V ⟨hd.e.toArray⟩,V ⟨hd.b.toArray⟩,I J (hd.d:Int),Z fo nf fZ,I J hd.c,Z bo nb fV,V ⟨#[]⟩,V ⟨#[]⟩,V ⟨#[]⟩,Z n p r,I J 0] 98)) m->oA w0 κ g gs c z o k w ⟨s,hd,(c k).b,[]⟩ (Y (Z U 0 0)) m:=fun m hr G=>by
  have h2:=B.y k hd fo fZ (by rw[y];exact t);have h3:=h2.q u v hr G;refine⟨⟨U,0,0,rfl,rfl,az.e _⟩,⟨_,bJ x k { x k with d:=fo,c:=fZ },?_,(wz.e κ _).a l.size .row⟩,(ak.e l).a G (fun i e _=>A (by rw[e];exact(h.a .row).2))⟩;rw[vX];have:mx ⟨(c k).c,hd,(c k).b⟩ { x k with d:=fo,c:=fZ }=[Q (M ⟨(x k).e,0,U⟩),V ⟨hd.e.toArray⟩,V ⟨hd.b.toArray⟩,I J (hd.d:Int),Z fo nf fZ,I J hd.c,Z (x k).a (c k).b.length (x k).b]:=by unfold mx;rw[y]
  rw[this];exact h3
 go_enter func58,ntmps58;go_wp2;go_ret;exact f _ D.1 D.2
theorem Rx (G:∀k,bK (z k))(H:bK o)(h:dF w0 κ g gs s (ew c x) c x z o w)(p:k<4)(b:ab){fo bo r:ag}{fZ nf nb fV t u:Nat}(hn:b.length=nb)(hB:az w bo fV b)(hl:(c k).b.length+nb<=100000):
 Calls prog 58 #[Q (M ⟨g,0,U⟩),Q (M ⟨g,1+k*7,U⟩),.agg #[I J 2,V ⟨#[]⟩,V ⟨#[]⟩,I J 0,Z fo nf fZ,I J 0,Z bo nb fV,V ⟨#[]⟩,V ⟨#[]⟩,V ⟨#[]⟩,Z r t u,I J 0]] w fun e w'=>oA w0 κ g gs c z o k w ⟨s,(c k).a,(c k).b++b,[]⟩ e w':=by
 have L:=(ar _ w).alloc (am _) (K #[I J 2,V ⟨#[]⟩,V ⟨#[]⟩,I J 0,Z fo nf fZ,I J 0,Z bo nb fV,V ⟨#[]⟩,V ⟨#[]⟩,V ⟨#[]⟩,Z r t u,I J 0] 98);have N:=(h.e G H L).e G H (bg _ _);have hg:=N.j;have hv:ew c x k=[Q (M ⟨(x k).e,0,U⟩),V ⟨(c k).a.e.toArray⟩,V ⟨(c k).a.b.toArray⟩,I J ((c k).a.d:Int),Z (x k).d (c k).a.a.length (x k).c,I J (c k).a.c,Z (x k).a (c k).b.length (x k).b]:=rfl;have c6:=hg.a p (j:=6) (by decide) (by rw[hv];rfl);have S:=N.a (.bd k) p;have HB:=(hB.a L).a (bg _ _);obtain⟨j0,T,W,hy1,hy2⟩:=info_parts gm;have Hj:=T;have O8:=aa W;have O9:=aa hy1;have Pb:=aa hy2
 obtain⟨q,hq⟩:∃q,1+k*7=q:=⟨_,rfl⟩;have mG:∀f l d,bI d (fun i=>cq (c k).b (x k).a=M i∨(w.alloc (K #[I J 2,V ⟨#[]⟩,V ⟨#[]⟩,I J 0,Z fo nf fZ,I J 0,Z bo nb fV,V ⟨#[]⟩,V ⟨#[]⟩,V ⟨#[]⟩,Z r t u,I J 0] 98)).drew.heap.size<=i) 5 f l ((c k).b++b)->ak (fun i=>cq (c k).b (x k).a=M i) (w.alloc (K #[I J 2,V ⟨#[]⟩,V ⟨#[]⟩,I J 0,Z fo nf fZ,I J 0,Z bo nb fV,V ⟨#[]⟩,V ⟨#[]⟩,V ⟨#[]⟩,Z r t u,I J 0] 98)).drew d->(d.cell? ⟨g,q+6,U⟩=M (Z (x k).a (c k).b.length (x k).b)∧d.frozen? ⟨g,q+6,U⟩=F)∧oA w0 κ g gs c z o k w ⟨s,(c k).a,(c k).b++b,[]⟩ (Y (Z U 0 0)) (d.setCell ⟨g,q+6,U⟩ (Z f ((c k).b.length+nb) l)):=fun f l d NC v=>by
  have h5:=N.lG G H k p NC v;have m:=h5.j;have hr:=m.e p (j:=6) (by decide) (Z f ((c k).b.length+nb) l);have n:ak (fun i=>i=g) d (d.setCell ⟨g,1+k*7+6,U⟩ (Z f ((c k).b.length+nb) l)):=ak.j _ _ _ _ rfl;have h6:=h5.q G H hr n;rw[hq] at h6 n;have y:=m.a p (j:=6) (by decide) (by rw[hv];rfl);have B:=m.f (1+k*7+6);rw[hq] at y B;have hz5:=v.b;have hza:(w.alloc (K #[I J 2,V ⟨#[]⟩,V ⟨#[]⟩,I J 0,Z fo nf fZ,I J 0,Z bo nb fV,V ⟨#[]⟩,V ⟨#[]⟩,V ⟨#[]⟩,Z r t u,I J 0] 98)).drew.heap.size=w.heap.size+1:=by show(w.alloc _).heap.size=_;rw[bu]
  refine⟨⟨y,B⟩,⟨⟨U,0,0,rfl,rfl,az.e _⟩,⟨cy (cy κ (w.alloc (K #[I J 2,V ⟨#[]⟩,V ⟨#[]⟩,I J 0,Z fo nf fZ,I J 0,Z bo nb fV,V ⟨#[]⟩,V ⟨#[]⟩,V ⟨#[]⟩,Z r t u,I J 0] 98)).drew.heap.size (.bd k)) d.heap.size .row,bJ x k { x k with a:=f,b:=l },?_,((wz.e κ _).a (by omega) _).a (by omega) _⟩,((ak.e (au L (bg _ _))).a v (fun i e _=>?_)).a n (fun i e _=>A (by rw[e];exact(h.a .row).2))⟩⟩
  . rw[vX];have:mx ⟨(c k).c,(c k).a,(c k).b++b⟩ { x k with a:=f,b:=l }=(ew c x k).set 6 (Z f ((c k).b.length+nb) l):=by unfold mx ew;rw[aD,hn];rfl
    rw[this];exact h6
  . have C:(c k).b≠[]:=fun e2=>by unfold cq at e;rw[if_pos e2] at e;cases e
    rcases h.a (.bd k) p with ⟨_,_,h3⟩ | ⟨h3,_⟩
    . unfold cq at e;rw[if_neg C] at e;cases tT:(x k).a with
      | none=>rw[tT] at e;cases e
      | some a=>rw[tT] at e;injection e with e;rw[<-e];exact R (R (h3 a tT))
    . exact absurd h3 C
 rw[hq] at c6 ⊢;generalize hbl:(c k).b.length=nl at *;go_enter func58,ntmps58;go_upto_region 5 with fail
 go_region_law ((refine Bz (by rfl) (.tmp 24) (.tmp 26) 31 (by rfl) 5 j0 underlying31 Hj O8.o O9.o Pb.o (by rfl) (by rfl) S hbl HB hn (by omega) ?_;intro bo5 D d yg v;obtain⟨⟨d6,e6⟩,hm⟩:=mG bo5 D d yg v;have HM:=aa hm;clear yg v hm))
 all_goals
  go_wp2;go_ret;exact HM.o
theorem Su (H:∀k,bK (z k))(L:bK o)(h:dF w0 κ g gs s (ew c x) c x z o w)(N:k<4)(ok:aK s)(hc:pu (c k)){fo bo p:ag}{fZ nf nb fV q r:Nat}(hl:(c k).b.length<=20000):
 Calls prog 58 #[Q (M ⟨g,0,U⟩),Q (M ⟨g,1+k*7,U⟩),.agg #[I J 3,V ⟨#[]⟩,V ⟨#[]⟩,I J 0,Z fo nf fZ,I J 0,Z bo nb fV,V ⟨#[]⟩,V ⟨#[]⟩,V ⟨#[]⟩,Z p q r,I J 0]] w fun e w'=>oA w0 κ g gs c z o k w (dj br ⟨s,(c k).a,(c k).b,[]⟩ .fin) e w':=by
 have hb:=(ar _ w).alloc (am _) (K #[I J 3,V ⟨#[]⟩,V ⟨#[]⟩,I J 0,Z fo nf fZ,I J 0,Z bo nb fV,V ⟨#[]⟩,V ⟨#[]⟩,V ⟨#[]⟩,Z p q r,I J 0] 98);have f:(w.alloc (K #[I J 3,V ⟨#[]⟩,V ⟨#[]⟩,I J 0,Z fo nf fZ,I J 0,Z bo nb fV,V ⟨#[]⟩,V ⟨#[]⟩,V ⟨#[]⟩,Z p q r,I J 0] 98)).heap.size=w.heap.size+1:=bu ..;have h0:=h.jL H L;have h1:=h0.e H L hb;have H0:=h;have H1:=aa h1;have j:=aa H;have T:=aa L;have u:=aa hc;have sw:=aa ok
 have W:=aa f;obtain⟨a,hR⟩:∃a,a=wQ br s (c k).a (c k).b:=⟨_,rfl⟩;have HG:dj br ⟨s,(c k).a,(c k).b,[]⟩ .fin=⟨a.1,nh,[],mm a.2⟩:=by rw[hR];rfl
 have l:=aa hR;rw[HG];clear h h0 f  hR HG H L hc ok;go_enter func58,ntmps58;go_wp2_with fail;refine(yD h1.j N (rfl:ew c x k=[Q (M ⟨(x k).e,0,U⟩),V ⟨(c k).a.e.toArray⟩,V ⟨(c k).a.b.toArray⟩,I J ((c k).a.d:Int),Z (x k).d (c k).a.a.length (x k).c,I J (c k).a.c,Z (x k).a (c k).b.length (x k).b])).mono ?_;rintro e w2 ⟨rfl,hr2,jG⟩;have b:=H1.o.q j.o T.o hr2 jG;have hz2:=jG.b;have v:∀i,i=g->cy κ w.heap.size .out i=.row:=fun i e=>by rw[e];exact(H1.o.a .row).2
 have hfl:=((b.a (.fl k)).1 N).b;have hby:=bI.r (b.a (.bd k) N);have H2:=aa b;have HT2:=aa jG
 go_wp2_with fail;refine(Oq (m:=⟨(c k).a.e.toArray⟩) (t:=⟨(c k).a.b.toArray⟩) (mi:=((c k).a.d:Int)) (ln:=(c k).a.c) ⟨b.f,b.b,fun i e=>b.d i (by rw[e];intro h;cases h)⟩ (b.a .jc) sw.o b.j.r (G7 u.o.a hfl) (c k).b rfl hby hl (by show(c k).a.b.toArray.size<=_;rw[cx];have:=u.o.a.b;omega)).mono ?_;rintro e w3 ⟨⟨fo3,agu,nf3,bo3,agv,nb3,rfl,y,YK,B,C,_,_⟩,kE,qj⟩;rw[show mh br s ⟨(c k).a.e.toArray⟩ ⟨(c k).a.b.toArray⟩ (pz (c k).a.a) (c k).b=a from l.o.symm] at y YK B C kE;rw[show mh br s ⟨(c k).a.e.toArray⟩ ⟨(c k).a.b.toArray⟩ (pz (c k).a.a) (c k).b=a from l.o.symm];have h3:=H2.o.E j.o T.o kE qj;have hz3:=qj.b;have hsm:pw a.2:=by rw[l.o];exact Ef sw.o _ _ _ _
 have H3:=aa h3;have HT3:=aa qj
 go_wp2_with fail;refine(EF w3 a.2 fo3 bo3 nf3 agu nb3 agv hsm y YK B C (h3.f.a h3.b)).mono ?_;rintro e w4 ⟨⟨sG,d,n4,rfl,Qo,D⟩,n⟩;have h4:=H3.o.e j.o T.o n;have h5:=(h4.y k nh U 0 (jt.a _ _)).G k;rw[pb,pb,cZ,cZ] at h5;have G:Hid (oA w0 κ g gs c z o k w ⟨a.1,nh,[],mm a.2⟩ (Y (Z sG n4 d)) w4):=by
  have f:=W.o;refine⟨⟨sG,d,n4,rfl,Qo,D⟩,⟨_,bJ x k { e:=(x k).e,d:=U,c:=0,a:=U,b:=0 },?_,(((wz.e κ w.heap.size).a (am _) .out).a (m:=(w.alloc (K #[I J 3,V ⟨#[]⟩,V ⟨#[]⟩,I J 0,Z fo nf fZ,I J 0,Z bo nb fV,V ⟨#[]⟩,V ⟨#[]⟩,V ⟨#[]⟩,Z p q r,I J 0] 98)).heap.size) (by omega) .row).a (m:=w2.heap.size) (by omega) .jc⟩,?_⟩
  . rw[vX];exact h5
  . refine(((ak.e hb).a HT2.o (fun i e hi=>A ?_)).a HT3.o (fun i e hi=>R (A ?_))).a (ak.e (S:=fun _=>False) n) (fun _ e _=>e.elim)
    . have:=v i e;rw[fg hi] at this;exact this
    . have e:cy (cy κ w.heap.size .out) (w.alloc (K #[I J 3,V ⟨#[]⟩,V ⟨#[]⟩,I J 0,Z fo nf fZ,I J 0,Z bo nb fV,V ⟨#[]⟩,V ⟨#[]⟩,V ⟨#[]⟩,Z p q r,I J 0] 98)).heap.size .row i=.jc:=e;rw[fg (by omega),fg hi] at e;exact e
 clear h4 h5 n D v Qo;go_wp2;go_ret;exact G.o
theorem Rz (y:∀k,bK (z k))(B:bK o)(h:dF w0 κ g gs s (ew c x) c x z o w)(hk:k<4)(a:Nat){fo bo j:ag}{fZ nf nb fV l n:Nat}:
 Calls prog 58 #[Q (M ⟨g,0,U⟩),Q (M ⟨g,1+k*7,U⟩),.agg #[I J 4,V ⟨#[]⟩,V ⟨#[]⟩,I J 0,Z fo nf fZ,I J 0,Z bo nb fV,V ⟨#[]⟩,V ⟨#[]⟩,V ⟨#[]⟩,Z j l n,I J (a:Int)]] w fun e w'=>oA w0 κ g gs c z o k w ⟨s,nh,[],mm (pA a)⟩ e w':=by
 have hb:=(ar _ w).alloc (am _) (K #[I J 4,V ⟨#[]⟩,V ⟨#[]⟩,I J 0,Z fo nf fZ,I J 0,Z bo nb fV,V ⟨#[]⟩,V ⟨#[]⟩,V ⟨#[]⟩,Z j l n,I J (a:Int)] 98);have p:(w.alloc (K #[I J 4,V ⟨#[]⟩,V ⟨#[]⟩,I J 0,Z fo nf fZ,I J 0,Z bo nb fV,V ⟨#[]⟩,V ⟨#[]⟩,V ⟨#[]⟩,Z j l n,I J (a:Int)] 98)).heap.size=w.heap.size+1:=bu ..;have h0:=h.jL y B;have h1:=h0.e y B hb;have C:w.heap.size≠g:=by have:=h.j.j;omega
 have H1:=h1;have d:=aa y;have D:=aa B
 have G:=aa p;have yM:=be w (K #[I J 4,V ⟨#[]⟩,V ⟨#[]⟩,I J 0,Z fo nf fZ,I J 0,Z bo nb fV,V ⟨#[]⟩,V ⟨#[]⟩,V ⟨#[]⟩,Z j l n,I J (a:Int)] 98);go_enter func58,ntmps58;go_wp2_with fail;refine(yD h1.j hk (rfl:ew c x k=[Q (M ⟨(x k).e,0,U⟩),V ⟨(c k).a.e.toArray⟩,V ⟨(c k).a.b.toArray⟩,I J ((c k).a.d:Int),Z (x k).d (c k).a.a.length (x k).c,I J (c k).a.c,Z (x k).a (c k).b.length (x k).b])).mono ?_;rintro e w2 ⟨rfl,H,v⟩;have h2:=H1.q d.o D.o H v;have hz2:=v.b;have a11:=aq w2 _ 11 _ _ _ (v.q yM C);have q:∀i,i=g->cy κ w.heap.size .out i=.row:=fun i e=>by rw[e];exact(H1.a .row).2
 have H2:=h2;have L:=aa v
 go_wp2_with fail;refine((fun W=>NF a W) _).mono ?_;rintro e w3 ⟨rfl,r⟩;have N:=H2.e d.o D.o r;have H3:=N;have T:=aa r
 go_wp2_with fail;refine(EF w3 (pA a) U U 0 0 0 0 (Ee a) rfl (bx.j _) rfl (az.e _) (N.f.a N.b)).mono ?_;rintro e w4 ⟨⟨sG,b,n4,rfl,Qo,t⟩,f⟩;have h4:=H3.e d.o D.o f;have h5:=(h4.y k nh U 0 (jt.a _ _)).G k;rw[pb,pb,cZ,cZ] at h5;have u:oA w0 κ g gs c z o k w ⟨s,nh,[],mm (pA a)⟩ (Y (Z sG n4 b)) w4:=by
  have p:=G.o;refine⟨⟨sG,b,n4,rfl,Qo,t⟩,⟨_,bJ x k { e:=(x k).e,d:=U,c:=0,a:=U,b:=0 },?_,((wz.e κ w.heap.size).a (am _) .out).a (m:=(w.alloc (K #[I J 4,V ⟨#[]⟩,V ⟨#[]⟩,I J 0,Z fo nf fZ,I J 0,Z bo nb fV,V ⟨#[]⟩,V ⟨#[]⟩,V ⟨#[]⟩,Z j l n,I J (a:Int)] 98)).heap.size) (by omega) .row⟩,?_⟩
  . rw[vX];exact h5
  . refine((ak.e hb).a L.o (fun i e hi=>A ?_)).a (ak.e (S:=fun _=>False) (au T.o f)) (fun _ e _=>e.elim);have:=q i e;rw[fg hi] at this;exact this
 clear h4 h5 f t q Qo;go_wp2;go_ret;exact u
end
def vg (ao:ag)(cap:Nat)(es:List aA):dB:=fun w S=>lS w S 98 ao cap es
theorem vg.a (ao:ag)(cap:Nat)(es:List aA):bK (vg ao cap es):=⟨fun h b a=>lS.q h b a,fun h a=>lS.a h a⟩
def zJ (ao:ag)(cap:Nat)(l:ab):dB:=fun w S=>bI w S 5 ao cap l
theorem zJ.a (ao:ag)(cap:Nat)(l:ab):bK (zJ ao cap l):=⟨fun h b a=>bI.a h b a,fun h a=>bI.f h a⟩
def sC (k:Nat)(b:dB):Nat->dB:=fun j w S=>j=k->b w S
theorem sC.a {k:Nat}{b:dB}(c:bK b):∀j,bK (sC k b j):=fun _=>⟨fun h d a e=>c.c (h e) d a,fun h a e=>c.b (h e) a⟩
theorem lS.j {w:X}{S:Nat->Prop}{g:Nat}{ao:ag}{cap:Nat}{es:List aA}(h:lS w S g ao cap es)(k:0<es.length):∃b o,ao=M ⟨b,o,U⟩∧∀j (d:j<es.length),∃s,(∀i u,(es[j].e s)[i]? = M u->w.cell? ⟨b,o+j*12+i,U⟩=M u)∧fY w S es[j] s:=by
 obtain⟨f,rfl,l,_,m⟩:=h;have n:=l.a;obtain⟨b,o,rfl,p⟩:=n.f (by rw[vD];rw[iv] at k;omega);refine⟨b,o,rfl,fun j d=>?_⟩;have a:j<f.length:=by simpa using d
 refine⟨f[j].2,fun i u c=>?_,?_⟩
 . rw[ej] at c;have q:i<12:=(fw.1 c).1;rw[<-tC _ j a i q] at c;have:=p _ _ c;rw[gE];exact this
 . rw[ej];exact(m _ (eX a)).a (fun _ _ e=>e.1)
section
variable {w0 w w':X} {κ:Nat->lZ} {g gs:Nat} {s:av} {v:Nat->List Value} {c:Nat->cY} {x:Nat->kV} {z:Nat->dB} {o o':dB} {k:Nat}
theorem dF.jZ (i:∀k,bK (z k))(j:bK o)(a:bK o')(h:dF w0 κ g gs s v c x z o w){T N:Nat->Prop}(b:ak T w w')(f:∀k,T k->κ k=.ret)(l:o' w' N)(m:∀k,N k->κ k=.ret∨w.heap.size<=k):dF w0 (cy κ w.heap.size .ret) g gs s v c x z o' w' :=
 ⟨h.a.a (li i j) b f (X':=fM g gs s v 4 c x z o') a l m (fun d n=>by cases d <;> first | rfl | exact absurd rfl n),h.f,h.b.trans (b.below (fun k e=>h.d k (by rw[f k e];intro h;cases h)) h.b.size),xd h.d h.b.size⟩
theorem Td (c:Nat->cY)(x:Nat->kV)(k:Nat)(r:bL):ew (bJ c k { c k with c:=r }) x=ew c x:=by
 funext i;unfold ew bJ;split
 . next h=>subst h;rfl
 . rfl
theorem dF.kW (h:dF w0 κ g gs s v c x ji eK w)(B:k<4){l:ab}{e:Ending}(D:AR w (fun i=>κ i=.rq k) (x k).e (c k).c l e w'):∃ao cap n a,e=Y (Z ao n cap)∧n=(aE (cV (c k).c l)).length∧dF w0 a g gs s v (bJ c k { c k with c:=cL (c k).c l }) x (sC k (vg ao cap ((aE (cV (c k).c l)).map aU.d))) eK w'∧ak (fun i=>κ i=.rq k) w w'∧∀i,i<w.heap.size->a i=κ i∨κ i≠.out:=by
 obtain⟨ao,cap,n,G,f,H,L,N,T,hd,hS,m,q⟩:=D;obtain⟨a,r,b,h3⟩:=h.a.f (li (fun _=>bK.a) bK.a) (p:=.rq k) (e:=.fl k) (by intro h;cases h) (X':=fM g gs s v 4 (bJ c k { c k with c:=cL (c k).c l }) x (sC k (vg ao cap ((aE (cV (c k).c l)).map aU.d))) eK) q (fun _ e=>e) (P:=G) (E:=f) (fun _=>by rw[cZ];exact N) (li (sC.a (vg.a _ _ _)) bK.a _) hd hS m
  (fun S hX t u=>⟨fun B=>by rw[cZ];exact(hX.1 B).f (fun i _ e=>t i e),fun _=>T.q.a (fun i _ e=>u i e)⟩)
  (fun d r b => by
   cases d with
   | row=>rfl
   | jc=>rfl
   | rq j =>
     have e:j≠k:=fun e=>r (by rw[e]);simp only[fM];rw[ei _ _ e]
   | fl j =>
     have e:j≠k:=fun e=>b (by rw[e]);simp only[fM];rw[ei _ _ e];funext W S;unfold sC;simp[e]
   | bd j =>
     by_cases e:j=k
     . subst e;simp only[fM,cZ]
     . simp only[fM];rw[ei _ _ e]
   | ret=>rfl
   | out=>rfl)
 refine⟨ao,cap,n,a,H,L,⟨r,h.f,h.b.trans (q.below (fun i e=>h.d i (by rw[e];intro h;cases h)) h.b.size),fun i y=>?_⟩,q,fun i y=>?_⟩
 . rcases eI i w.heap.size with C | C
   . rcases b i C with e | e
     . exact h.d i (by rw[<-e];exact y)
     . exact h.d i (by rw[e.1];intro h;cases h)
   . have:=h.b.size;omega
 . rcases b i y with e | e
   . exact A e
   . exact R (by rw[e.1];intro h;cases h)
end
structure Bq (S:Nat->Prop)(w:X)(g gs:Nat)(c:Nat->cY)(k:Nat)(r:av×cY×ab)(code:Int)(e:Ending)(w':X):Prop where
 b:∃(ao:ag) (cap n:Nat),e=Y (.tuple #[Z ao n cap,I J code])∧n=r.2.2.length∧az w' ao cap r.2.2
 a:gj w' (ay S w) g gs r.1 (bJ c k r.2.1)
 d:ak S w w'
section
variable {w0 w:X} {S:Nat->Prop} {g gs:Nat} {s:av} {c:Nat->cY}
theorem Sv {κ:Nat->lZ}{x:Nat->kV}{z:Nat->dB}{o:dB}{k:Nat}(a:∀k,bK (z k))(f:bK o)(h:dF w0 κ g gs s (ew c x) c x z o w)(j:k<4)(ok:aK s)(m:pu (c k))(ev:aU)(es:cS)(l:fY w (fun i=>κ i=.fl k) ev.d es)(p:(c k).b.length+ev.d.a.length<=20000):
 Calls prog 58 #[Q (M ⟨g,0,U⟩),Q (M ⟨g,1+k*7,U⟩),.agg #[I J ev.d.b,V ev.d.i,V ev.d.j,I J ev.d.m,Z es.f ev.d.d.length es.e,I J ev.d.l,Z es.a ev.d.a.length es.d,V ev.d.g,V ev.d.f,V ev.d.h,Z es.c ev.d.c.length es.b,I J ev.d.k]] w fun e w'=>oA w0 κ g gs c z o k w (dj br ⟨s,(c k).a,(c k).b,[]⟩ ev) e w':=by
 cases ev with
 | head hd=>exact Rw a f h j hd (uO _).symm l.c
 | body b=>exact Rx a f h j b rfl l.b.b (by have:(aU.body b).d.a.length=b.length:=rfl;omega)
 | fin=>exact Su a f h j ok m (by omega)
 | fail n=>exact Rz a f h j n
theorem Ln (s:av)(hd:df)(body out:ab)(e:aU):dj br ⟨s,hd,body,out⟩ e={ dj br ⟨s,hd,body,[]⟩ e with a:=out++(dj br ⟨s,hd,body,[]⟩ e).a }:=by
 have:=LB br ⟨s,hd,body,[]⟩ out e;rw[show({ (⟨s,hd,body,[]⟩:eN) with a:=out++[] }:eN)=⟨s,hd,body,out⟩ from by rw[fx]] at this;exact this
structure xh (w0:X)(S:Nat->Prop)(w:X)(g gs:Nat)(c:Nat->cY)(k:Nat)(ro:bL)(eo:ag)(ec:Nat)(es:List aU)(G:eN)(ao:ag)(cap:Nat)(wr:X):Prop where
 a:∃κ x,dF w0 κ g gs G.s (ew (bJ c k ⟨ro,G.c,G.b⟩) x) (bJ c k ⟨ro,G.c,G.b⟩) x (sC k (vg eo ec (es.map aU.d))) (zJ ao cap G.a) wr∧∀i,κ i≠.out->ay S w i
 e:ak S w wr
 d:aK G.s
 b:jo G.c
theorem TB:∀{s:av},aK s->∀m t l body,aK (br s m t l body).1:=fun h m t l b=>Bk h m t l b
theorem Tb {κ:Nat->lZ}{k:Nat}{ro:bL}{eo:ag}{ec:Nat}{es:List aU}{G G':eN}{ao:ag}{cap:Nat}{v w5:X}{e:Ending}(L:∀i,κ i≠.out->ay S w i)(N:ak S w v)(q:oA w0 κ g gs (bJ c k ⟨ro,G.c,G.b⟩) (sC k (vg eo ec (es.map aU.d))) (zJ ao cap G.a) k v G' e w5)(ok:aK G'.s)(x:jo G'.c):
 ∃(r:ag) (b t:Nat) (B:Nat->Prop),e=Y (Z r t b)∧t=G'.a.length∧az w5 r b G'.a∧bI w5 B 5 ao cap G.a∧∀l f u,bI u (fun i=>cq G.a ao=M i∨w5.heap.size<=i) 5 l f (G.a++G'.a)->ak (fun i=>cq G.a ao=M i) w5 u->xh w0 S w g gs c k ro eo ec es { G' with a:=G.a++G'.a } l f u:=by
 obtain⟨r,b,t,he,y,hB⟩:=q.d;obtain⟨j,x5,z,hE⟩:=q.b;have hz5:=q.a.b;have hzb:=N.b;rw[pb,cZ] at z;have T:bI w5 (fun i=>j i=.ret) 5 ao cap G.a:=z.a .ret;have m:∀i,cq G.a ao=M i->j i=.ret:=fun i e=>by
  unfold cq at e;split at e
  . cases e
  . rename_i C;rcases T with ⟨_,_,h3⟩ | ⟨h1,_⟩
    . cases D:ao with
      | none=>rw[D] at e;cases e
      | some a=>rw[D] at e;injection e with e;rw[<-e];exact h3 a D
    . exact absurd h1 C
 have o:∀i,j i≠.out->ay S w i:=fun i n=>by
  rcases eI i v.heap.size with p | p
  . exact L i (by rw[<-hE i p];exact n)
  . exact R (by omega)
 refine⟨r,b,t,_,he,y,hB,T,fun l f u H W=>⟨⟨cy j w5.heap.size .ret,x5,z.jZ (sC.a (vg.a _ _ _)) (zJ.a _ _ _) (zJ.a _ _ _) W m H (fun i e=>?_),fun i n=>?_⟩,(N.a q.a (fun i e n=>?_)).a W (fun i e n=>?_),ok,x⟩⟩
 . rcases e with e | e
   . exact A (m i e)
   . exact R e
 . rcases eI i w5.heap.size with p | p
   . rw[fg p] at n;exact o i n
   . exact R (by omega)
 . have y:κ i≠.out:=by rcases e with e | e | e <;> (rw[e];intro h;cases h)
   rcases L i y with h | h
   . exact h
   . omega
 . rcases o i (by rw[m i e];intro h;cases h) with h | h
   . exact h
   . omega
theorem xh.f {k:Nat}{ro:bL}{eo:ag}{ec:Nat}{es:List aU}{G:eN}{ao:ag}{cap:Nat}{wr:X}(h:xh w0 S w g gs c k ro eo ec es G ao cap wr):az wr ao cap G.a∧gj wr (ay S w) g gs G.s (bJ c k ⟨ro,G.c,G.b⟩)∧ak S w wr:=by
 obtain⟨a,x,b,e⟩:=h.a;have f:bI wr (fun i=>a i=.ret) 5 ao cap G.a:=b.a .ret;refine⟨f.r,⟨a,x,fun d=>?_,e⟩,h.e⟩;have hd:=b.a d;cases d with
 | fl j=>exact⟨hd.1,trivial⟩
 | ret=>trivial
 | row=>exact hd
 | jc=>exact hd
 | rq j=>exact hd
 | bd j=>exact hd
 | out=>trivial
end
section
variable {w0 w:X} {S:Nat->Prop} {g gs:Nat} {s:av} {c:Nat->cY}
theorem MT (k:Int)(b:k<0∨4<=k)(bo:ag)(fV n:Nat)(w:X):
 Calls prog 16 #[Q (M ⟨g,0,U⟩),I J k,Z bo n fV] w fun e w'=>e=Y (.tuple #[Z U 0 0,I J 1])∧w'=w:=by
 have a:=fun W=>ym k W;rw[show(decide (0<=k)&&decide (k<4))=F from by rcases b with h | h <;> simp <;> omega] at a;go_enter func16,ntmps16;go_wp2_with fail;refine(a _).mono ?_;rintro e f ⟨rfl,d⟩;subst d;go_wp2;go_ret2;exact⟨rfl,rfl⟩
theorem RA (hP:di w0)(hW:Below w0.heap.size w0 w)(hF:∀i,S i->w0.heap.size<=i)(h:gj w S g gs s c)(ok:aK s)(k:Nat)(hk:k<4)(hc:pu (c k))(l:ab){bo:ag}{fV n:Nat}(hB:az w bo fV l)(tT:l≠[]->∀a,bo=M a->¬S a.block)(hn:l.length=n)(hl:(c k).b.length+n<=20000):
 Calls prog 16 #[Q (M ⟨g,0,U⟩),I J (k:Int),Z bo n fV] w fun e w'=>Bq S w g gs c k (mU br s (c k) l) (if (c k).c.a=4 then 18 else 0) e w':=by
 have HI:=fun W=>ym (k:Int) W;rw[show(decide ((0:Int)<=(k:Int))&&decide ((k:Int)<4))=true from by simp;omega] at HI;obtain⟨κ,x,hH,hS⟩:=h;have hG0:dF w0 κ g gs s (ew c x) c x ji eK w:=⟨hH,hP,hW,fun i e=>hF i (hS i e)⟩;have cg:w.cell? ⟨g,1+k*7,U⟩=M (Q (M ⟨(x k).e,0,U⟩)):=hG0.j.a hk (j:=0) (u:=Q (M ⟨(x k).e,0,U⟩)) (by decide) rfl;have HD:=E1 w (fun i=>κ i=.rq k) (x k).e (c k).c (hH (.rq k) hk);have k0:(0:Int)<=(k:Int):=by omega
 have k4:(k:Int)<4:=by omega
 by_cases T:(c k).c.a=4
 . rw[if_pos T];rw[bq T] at HD;have hfd:mU br s (c k) l=(s,c k,[]):=by
    have:=A6 l (c k).c T;unfold mU uj;rw[this.1,this.2];rfl
   rw[hfd];have r:Bq S w g gs c k (s,c k,[]) 18 (Y (.tuple #[Z U 0 0,I J 18])) w:=⟨⟨U,0,0,rfl,rfl,az.e _⟩,by rw[Ua];exact gj.a ⟨κ,x,hH,hS⟩ (fun i _ e=>A e),ak.r _ _⟩;go_enter func16,ntmps16;go_wp2_with fail;refine(HI _).mono ?_;rintro e w1 ⟨rfl,hw⟩;rw[hw];go_wp2_with fail;refine HD.mono ?_;rintro e w1 ⟨rfl,hw⟩;rw[hw];go_wp2;go_ret2;exact r
 . rw[if_neg T];rw[aX T] at HD;have Wp:=MA w (fun i=>κ i=.rq k) (x k).e (c k).c l bo fV n (hH (.rq k) hk) hc.b hB (fun t a e e2=>tT t a e (hS _ (by rw[e2];intro h;cases h))) hn (by omega);have HG0:=hG0;have HS:=aa hS
   go_enter func16,ntmps16;go_wp2_with fail;refine(HI _).mono ?_;rintro e w1 ⟨rfl,hw⟩;rw[hw];go_wp2_with fail;refine HD.mono ?_;rintro e w1 ⟨rfl,hw⟩;rw[hw];go_wp2_with fail;refine Wp.mono ?_;rintro e w1 hFr;obtain⟨eo,ec,ne,κ1,rfl,t,p,hT1,hE1⟩:=HG0.kW hk hFr;have hS1:∀i,κ1 i≠.out->ay S w i:=fun i hi=>by
    rcases eI i w.heap.size with hl | hl
    . rcases hE1 i hl with e | e
      . exact A (HS.o i (by rw[<-e];exact hi))
      . exact A (HS.o i e)
    . exact R hl
   rw[<-Td c x k (cL (c k).c l)] at p;have mF:=Gh (c k).c l;obtain⟨es,v⟩:∃es,es=aE (cV (c k).c l):=⟨_,rfl⟩;have acI:∀e∈es,e.e:=by rw[v];exact uK _ (A4 l hc.b)
   have Kl:mU br s (c k) l=((ez br ⟨s,(c k).a,(c k).b,[]⟩ es).s,⟨cL (c k).c l,(ez br ⟨s,(c k).a,(c k).b,[]⟩ es).c,(ez br ⟨s,(c k).a,(c k).b,[]⟩ es).b⟩,(ez br ⟨s,(c k).a,(c k).b,[]⟩ es).a):=by rw[v,um];rfl
   rw[<-v] at t p mF;have hR0:xh w0 S w g gs c k (cL (c k).c l) eo ec es ⟨s,(c k).a,(c k).b,[]⟩ U 0 w1:=⟨⟨κ1,x,⟨fun d=>by
    have hd:=p.a d;cases d with
    | ret =>
      show bI w1 (fun i=>κ1 i=.ret) 5 U 0 [];exact bI.e _ _ _
    | fl j=>exact hd
    | row=>exact hd
    | jc=>exact hd
    | rq j=>exact hd
    | bd j=>exact hd
    | out=>trivial,p.f,p.b,p.d⟩,hS1⟩,hT1.f (fun i e=>HS.o i (by rw[e];intro h;cases h)),ok,hc.a⟩
   have hbd:∀i (hi:i<es.length),(ez br ⟨s,(c k).a,(c k).b,[]⟩ (es.take i)).b.length+es[i].d.a.length<=20000:=fun i hi=>by
    have h1:=zL br (es.take i) ⟨s,(c k).a,(c k).b,[]⟩;have h2:bP (es.take i)+es[i].d.a.length<=bP es:=by
     conv=>rhs;rw[<-iZ i es,qD,hJ hi]
     generalize es[i]=e;cases e with
     | body b=>show _+b.length<=_+(b.length+_);omega
     | head _=>exact Nat.add_le_add_left (ax _) _
     | fin=>exact Nat.add_le_add_left (ax _) _
     | fail _=>exact Nat.add_le_add_left (ax _) _
    have h3:=mF.2.1;have T:(⟨s,(c k).a,(c k).b,[]⟩:eN).b.length=(c k).b.length:=rfl;omega
   have hol:∀i,i<=es.length->(ez br ⟨s,(c k).a,(c k).b,[]⟩ (es.take i)).a.length<=6000*40000:=fun i hi=>by
    have h1:=Ab (es.take i) (g:=⟨s,(c k).a,(c k).b,[]⟩) ok;rw[bV] at h1;have h3:=mF.1;have T:(⟨s,(c k).a,(c k).b,[]⟩:eN).a.length=0:=rfl;omega
   have hlen:es.length<=40000:=by have:=mF.1;omega
   have agx:fJ (cL (c k).c l):=hc.b.j l;have DJ:=hR0;have yN:=aa hbd;have HOl:=aa hol;have HFi:=aa acI;have HRo:=aa agx
   obtain⟨j0,hj0,hy0,hy1,hy2⟩:=info_parts gm;have Hj:=hj0;have O8:=aa hy0;have O9:=aa hy1;have Pb:=aa hy2
   subst t;clear p hT1 hE1 hS1 mF acI v hR0 hbd hol agx HG0 Wp HI HD hFr cg hj0 hy0 hy1 hy2;generalize cL (c k).c l=ro at *;generalize ai1:(⟨s,(c k).a,(c k).b,[]⟩:eN)=G0 at *;go_wp2;go_loopw [9,37] (fun vo vi wr=>∃(i m:Nat) (ao:ag) (cap:Nat),i<=es.length∧vi=I J i∧vo=Z ao m cap∧m=(ez br G0 (es.take i)).a.length∧xh w0 S w g gs c k ro eo ec es (ez br G0 (es.take i)) ao cap wr) (fun _ vi _=>es.length-(intOf vi).toNat)
   case atStart=>exact⟨0,0,U,0,ax _,rfl,rfl,by rw[<-ai1];rfl,DJ⟩
   case round =>
    obtain⟨i,m,ao,cap,hi,rfl,rfl,hm,y⟩:=hrel;by_cases z:i<es.length
    . have hlt':(i:Int)<es.length:=by omega
      have hTk:ez br G0 (es.take (i+1))=dj br (ez br G0 (es.take i)) es[i]:=by rw[fR z,K8];rfl
      have hbi:=yN.o i z;have C:=HOl.o (i+1) (by omega);have ai2:=HOl.o i (by omega);have hfi:=HFi.o es[i] (eX z);obtain⟨κ,x2,hG,hS2⟩:=y.a;have hEv:lS wr (fun j=>κ j=.fl k) 98 eo ec (es.map aU.d):=(hG.a (.fl k)).2 rfl;have hcap:es.length<=ec:=by have:=hEv.f.1;rw[iv] at this;exact this
      obtain⟨b,o,rfl,agy⟩:=hEv.j (by rw[iv];omega);obtain⟨q,f,hIn⟩:=agy i (by rw[iv];exact z);rw[ej] at f hIn;generalize ez br G0 (es.take i)=G at *;rw[hTk] at C;generalize hev:es[i]=ev at *;have je:=(ar _ wr).alloc (am _) (K #[I J ev.d.b,V ev.d.i,V ev.d.j,I J ev.d.m,Z q.f ev.d.d.length q.e,I J ev.d.l,Z q.a ev.d.a.length q.d,V ev.d.g,V ev.d.f,V ev.d.h,Z q.c ev.d.c.length q.b,I J ev.d.k] 98);have hGA:=hG.e (sC.a (vg.a _ _ _)) (zJ.a _ _ _) je;have agz:=hIn.e (ak.e (S:=fun _=>False) je) (fun _ _ e=>e);have HMt:=Sv (sC.a (vg.a _ _ _)) (zJ.a _ _ _) hGA hk y.d (by rw[cZ];exact⟨HRo.o,y.b⟩) ev q agz (by rw[cZ];exact hbi);rw[cZ] at HMt;have hNx:=fun(w5:X) (e5:Ending)=>Tb (e:=e5) (w5:=w5) (G:=G) (G':=dj br ⟨G.s,G.c,G.b,[]⟩ ev) (κ:=κ) (es:=es) (eo:=M ⟨b,o,U⟩) (ec:=ec) (ao:=ao) (cap:=cap) (ro:=ro) (k:=k) (c:=c) (g:=g) (gs:=gs) (w0:=w0) hS2 (y.e.a (ak.e (S:=fun _=>False) je) (fun _ e _=>e.elim));have hfr:dj br G ev={ dj br ⟨G.s,G.c,G.b,[]⟩ ev with a:=G.a++(dj br ⟨G.s,G.c,G.b,[]⟩ ev).a }:=Ln G.s G.c G.b G.a ev;have D:aK (dj br ⟨G.s,G.c,G.b,[]⟩ ev).s:=zX br TB (g:=⟨G.s,G.c,G.b,[]⟩) y.d ev;have agA:jo (dj br ⟨G.s,G.c,G.b,[]⟩ ev).c:=Ec br (g:=⟨G.s,G.c,G.b,[]⟩) y.b hfi;have H:G.a.length+(dj br ⟨G.s,G.c,G.b,[]⟩ ev).a.length<=6000*40000:=by rw[<-aD];rw[hfr] at C;exact C
      have c0:wr.cell? ⟨b,o+i*12,U⟩=M (I J ev.d.b):=f 0 _ rfl;have c1:wr.cell? ⟨b,o+i*12+1,U⟩=M (V ev.d.i):=f 1 _ rfl;have c2:wr.cell? ⟨b,o+i*12+2,U⟩=M (V ev.d.j):=f 2 _ rfl;have c3:wr.cell? ⟨b,o+i*12+3,U⟩=M (I J ev.d.m):=f 3 _ rfl;have c4:wr.cell? ⟨b,o+i*12+4,U⟩=M (Z q.f ev.d.d.length q.e):=f 4 _ rfl;have c5:wr.cell? ⟨b,o+i*12+5,U⟩=M (I J ev.d.l):=f 5 _ rfl;have c6:wr.cell? ⟨b,o+i*12+6,U⟩=M (Z q.a ev.d.a.length q.d):=f 6 _ rfl;have c7:wr.cell? ⟨b,o+i*12+7,U⟩=M (V ev.d.g):=f 7 _ rfl;have c8:wr.cell? ⟨b,o+i*12+8,U⟩=M (V ev.d.f):=f 8 _ rfl;have c9:wr.cell? ⟨b,o+i*12+9,U⟩=M (V ev.d.h):=f 9 _ rfl;have c10:wr.cell? ⟨b,o+i*12+10,U⟩=M (Z q.c ev.d.c.length q.b):=f 10 _ rfl;have c11:wr.cell? ⟨b,o+i*12+11,U⟩=M (I J ev.d.k):=f 11 _ rfl;have AB:=hNx;have sZ:=aa hTk;have HFr:=aa hfr;have ai4:=aa D;have ai5:=aa agA;have HM:=aa hm
      clear y hG hS2 hEv agy f hIn je hGA agz hNx hTk hfr D agA hbi C ai2 hfi hm;generalize ev.d=ed at *;generalize dj br ⟨G.s,G.c,G.b,[]⟩ ev=G' at *;go_wp2_with fail;refine HMt.mono ?_;rintro e w5 hMt;obtain⟨Ad,cap5,n5,B,rfl,hn5,CB,agB,L⟩:=AB w5 e hMt ai4.o ai5.o;have oG:=CB;have HGr:=aa agB;have Kk:=aa L;have HN5:=aa hn5.symm;have MI:=aa HM.o.symm
      have hml:m+n5<=240000000:=by rw[hn5,HM.o];exact H
      clear hMt CB agB L hn5 HMt AB H;go_wp2_with (at_builtin;refine xU rfl (.tmp 41) (.tmp 45) 31 rfl 5 j0 underlying31 Hj O8.o O9.o Pb.o rfl rfl HGr.o MI.o oG HN5.o (by omega) ?_;intro ao6 N w6 Fg CU;have HF6:=aa (Kk.o ao6 N w6 Fg CU);clear Fg CU)
      go_roundw
      case rel=>exact⟨i+1,m+n5,ao6,N,by omega,by go_num,rfl,by rw[sZ.o,HFr.o];show _=(G.a++G'.a).length;rw[aD,HM.o,HN5.o],by rw[sZ.o,HFr.o];exact HF6.o⟩
      case measure=>simp[intOf];omega
    . obtain rfl:i=es.length:=by omega
      rw[fL] at hm y;obtain⟨qw,hG9,qO⟩:=y.f;have r:Bq S w g gs c k (mU br s (c k) l) 0 (Y (.tuple #[Z ao m cap,I J 0])) wr:=by
       rw[Kl];exact⟨⟨ao,cap,m,rfl,hm,qw⟩,hG9,qO⟩
      go_wp2;go_ret2;exact r
end
section
variable {w0 w:X} {S:Nat->Prop} {g gs:Nat} {s:av} {c:Nat->cY}
def pD (gp:Nat):kV:=⟨gp,U,0,U,0⟩
structure pg (S:Nat->Prop)(w:X)(g gs:Nat)(s:av)(n:Nat)(wr:X):Prop where
 b:∃κ v x,eQ (fM g gs s v n (fun _=>eL) x ji eK) κ wr∧(∀k,k<n->v k=mx eL (x k))∧∀i,κ i≠.out->ay S w i
 c:ak S w wr
theorem gn.q {v:Nat->List Value}(h:gn w g gs v){k:Nat}(a:k<4)(b d e f l m n:Value):
 gn (((((((w.setCell ⟨g,1+k*7,U⟩ b).setCell ⟨g,1+k*7+1,U⟩ d).setCell ⟨g,1+k*7+2,U⟩ e).setCell ⟨g,1+k*7+3,U⟩ f).setCell ⟨g,1+k*7+4,U⟩ l).setCell ⟨g,1+k*7+5,U⟩ m).setCell ⟨g,1+k*7+6,U⟩ n) g gs (bJ v k [b,d,e,f,l,m,n])∧ak (fun i=>i=g) w (((((((w.setCell ⟨g,1+k*7,U⟩ b).setCell ⟨g,1+k*7+1,U⟩ d).setCell ⟨g,1+k*7+2,U⟩ e).setCell ⟨g,1+k*7+3,U⟩ f).setCell ⟨g,1+k*7+4,U⟩ l).setCell ⟨g,1+k*7+5,U⟩ m).setCell ⟨g,1+k*7+6,U⟩ n):=by
 refine⟨?_,js g [b,d,e,f,l,m,n] (1+k*7) w⟩;have:=((((((h.e a (j:=0) (by decide) b).e a (j:=1) (by decide) d).e a (j:=2) (by decide) e).e a (j:=3) (by decide) f).e a (j:=4) (by decide) l).e a (j:=5) (by decide) m).e a (j:=6) (by decide) n;obtain⟨p,q,r,t,u,x,y,o⟩:=rA (h.b k a);simp only[pb,cZ,o] at this;exact this
theorem pg.j {n gp:Nat}{wr o:X}(h:pg S w g gs s n wr)(D:dN o (fun k=>wr.heap.size<=k) gp pJ)(p:Below wr.heap.size wr o):∃v,gn o g gs v∧∀f,gn f g gs (bJ v n (mx eL (pD gp)))->ak (fun i=>i=g) o f->pg S w g gs s (n+1) f:=by
 obtain⟨⟨q,v,x,b,G,y⟩,z⟩:=h;have l:=(b .row).1.j;have W:=z.b;refine⟨v,⟨(p.block g l).trans (b .row).1.c,(b .row).1.b⟩,fun f r t=>?_⟩;have a:∀d,d≠.row->fM g gs s v n (fun _=>eL) x ji eK d f (fun i=>cy q wr.heap.size (.rq n) i=d):=fun d H=>by
  have L:bK (fM g gs s v n (fun _=>eL) x ji eK d):=li (fun _=>bK.a) bK.a d;have N:=L.b (b d) (S':=fun i=>q i=d∧i<wr.heap.size) (fun i m e=>⟨e,m⟩);have T:=L.c (L.c N (ak.e (S:=fun _=>False) p) (fun _ _ e=>e)) t (fun i e B=>H (by rw[<-e.1,B];exact(b .row).2));exact L.b T (fun i _ e=>(fg e.2).trans e.1)
 refine⟨⟨cy q wr.heap.size (.rq n),bJ v n (mx eL (pD gp)),bJ x n (pD gp),fun d=>?_,fun j u=>?_,fun i m=>?_⟩,(z.a (ak.e (S:=fun _=>False) p) (fun _ e _=>e.elim)).a t (fun i e m=>?_)⟩
 . cases d with
   | row=>exact⟨r,(fg l).trans (b .row).2⟩
   | jc=>exact a .jc (by intro h;cases h)
   | rq j =>
     intro u;by_cases e:j=n
     . subst e;rw[cZ];exact(D.e t (fun i e B=>by omega)).a (fun i _ e=>pW e)
     . rw[ei _ _ e];exact a (.rq j) (by intro h;cases h) (by omega)
   | fl j =>
     refine⟨fun u=>?_,trivial⟩;by_cases e:j=n
     . subst e;rw[cZ];exact jt.a _ _
     . rw[ei _ _ e];exact(a (.fl j) (by intro h;cases h)).1 (by omega)
   | bd j =>
     intro u;by_cases e:j=n
     . subst e;rw[cZ];exact bI.e _ _ _
     . rw[ei _ _ e];exact a (.bd j) (by intro h;cases h) (by omega)
   | ret=>trivial
   | out=>trivial
 . by_cases e:j=n
   . subst e;rw[cZ,cZ]
   . rw[ei _ _ e,ei _ _ e];exact G j (by omega)
 . rcases eI i wr.heap.size with C | C
   . rw[fg C] at m;exact y i m
   . exact R (by omega)
 . rcases y i (by rw[e,(b .row).2];intro h;cases h) with h | h
   . exact h
   . omega
theorem pg.f {wr:X}(h:pg S w g gs s 4 wr):gj wr (ay S w) g gs s (fun _=>eL)∧ak S w wr:=by
 obtain⟨⟨e,v,x,f,b,i⟩,l⟩:=h;refine⟨⟨e,x,fun d=>?_,i⟩,l⟩;have a:=f d;cases d with
 | row =>
   refine⟨⟨?_,fun k m=>rfl⟩,a.2⟩;have:=a.1.c;unfold kX at this ⊢;rw[b 0 (by omega),b 1 (by omega),b 2 (by omega),b 3 (by omega)] at this;exact this
 | jc=>exact a
 | rq j=>exact a
 | fl j=>exact a
 | bd j=>exact a
 | ret=>trivial
 | out=>trivial
theorem C9 (h:pg S w g gs s 0 w):
 Calls prog 47 #[Q (M ⟨g,0,U⟩)] w fun e w'=>e=Y (.tuple #[])∧gj w' (ay S w) g gs s (fun _=>eL)∧ak S w w':=by
 go_enter func47,ntmps47;go_wp2;go_loopw [3] (fun l wr=>∃i:Nat,i<=4∧l=I J i∧pg S w g gs s i wr) (fun l _=>4-(intOf l).toNat)
 case atStart=>exact⟨0,ax _,rfl,h⟩
 case round =>
  obtain⟨i,hi,rfl,n⟩:=hrel;by_cases b:i<4
  . have p:(i:Int)<4:=by omega
    have t:(0:Int)<=(i:Int):=by omega
    have y:pg S w g gs s i wr.drew:=by
     obtain⟨⟨z,v,x,B,d,C⟩,D⟩:=n;exact⟨⟨z,v,x,B.e (li (fun _=>bK.a) bK.a) (bg _ _),d,C⟩,D.a (ak.B (fun _=>False) wr 1) (fun _ e _=>e.elim)⟩
    go_upto_region 3 with fail
    go_region_law ((go_simp;go_at_call 51;refine((fun W=>B3 W) _).mono ?_;rintro e G ⟨q,rfl,r,f⟩;obtain⟨v,a,k⟩:=y.j r f;obtain⟨H,L,N,T,a4,a5,a6,d⟩:=rA (a.b i b);have c0:G.cell? ⟨g,1+i*7,U⟩=M H:=a.a b (j:=0) (by decide) (by rw[d];rfl);have c1:=a.a b (j:=1) (by decide) (u:=L) (by rw[d];rfl);have c2:=a.a b (j:=2) (by decide) (u:=N) (by rw[d];rfl);have c3:=a.a b (j:=3) (by decide) (u:=T) (by rw[d];rfl);have c4:=a.a b (j:=4) (by decide) (u:=a4) (by rw[d];rfl);have c5:=a.a b (j:=5) (by decide) (u:=a5) (by rw[d];rfl);have c6:=a.a b (j:=6) (by decide) (u:=a6) (by rw[d];rfl);have fz:=fun j=>a.f j;have mG:=aa (k _ (a.q b (Q (M ⟨q,0,U⟩)) (V ⟨#[]⟩) (V ⟨#[]⟩) (I J 0) (Z U 0 0) (I J 0) (Z U 0 0)).1 (a.q b (Q (M ⟨q,0,U⟩)) (V ⟨#[]⟩) (V ⟨#[]⟩) (I J 0) (Z U 0 0) (I J 0) (Z U 0 0)).2);clear r f k d))
    all_goals
     go_wp2;go_roundw
     case rel=>exact⟨i+1,by omega,by go_num,mG.o⟩
     case measure=>simp[intOf];omega
  . obtain rfl:i=4:=by omega
    have m:=n.f;go_wp2;go_end0
    exact⟨rfl,m⟩
end
section
variable {w w':X} {S S':Nat->Prop} {g gs:Nat} {s s':av} {c:Nat->cY}
theorem gj.f (h:gj w S g gs s c):∃a:Nat->Prop,aT w a gs s∧(∀k,a k->S k)∧w.cell? ⟨g,0,U⟩=M (Q (M ⟨gs,0,U⟩))∧∀s' w',aT w' (ay a w) gs s'->ak a w w'->gj w' (ay S w) g gs s' c:=by
 obtain⟨i,x,b,j⟩:=h;refine⟨fun k=>i k=.jc,b .jc,fun k e=>j k (by rw[e];intro q;cases q),(b .row).1.r,fun s' w' m n=>⟨cy i w.heap.size .jc,x,?_,fun k l=>?_⟩⟩
 . exact b.a (li (fun _=>bK.a) bK.a) n (fun _ e=>e) (X':=fM g gs s' (ew c x) 4 c x ji eK) (li (fun _=>bK.a) bK.a .jc) m (fun _ e=>e) (fun d o=>by cases d <;> first | rfl | exact absurd rfl o)
 . rcases eI k w.heap.size with f | f
   . rw[fg f] at l;exact A (j k l)
   . exact R f
theorem pg.a (h:gj w S g gs s c):pg S w g gs s 0 w:=by
 obtain⟨f,x,i,l⟩:=h;refine⟨⟨f,ew c x,x,fun d=>?_,fun k b=>absurd b (oW k),fun k b=>A (l k b)⟩,ak.r _ _⟩;have e:=i d;cases d with
 | row=>exact e
 | jc=>exact e
 | rq j=>exact fun a=>absurd a (oW j)
 | fl j=>exact⟨fun a=>absurd a (oW j),trivial⟩
 | bd j=>exact fun a=>absurd a (oW j)
 | ret=>trivial
 | out=>trivial
end
inductive xM
 | row
 | gate
 | tr
 | out
def xY (g:Nat)(io:ag)(ni gT:Nat):Obj:=K #[Q (M ⟨g,0,U⟩),Z io ni gT] 78 (0,0)
def vJ (p g gs:Nat)(o:Obj)(P:cu)(io:ag)(gT:Nat):xM->dB
 | .row=>tJ p o
 | .gate=>fun w S=>gj w S g gs P.s P.c
 | .tr=>AF io gT P.a
 | .out=>fun _ _=>True
theorem qc {p g gs:Nat}{o:Obj}{P:cu}{b:ag}{c:Nat}:∀d,bK (vJ p g gs o P b c d)
 | .row=>tJ.a _ _
 | .gate=>⟨fun h e a=>gj.e h e a,fun h a=>gj.a h a⟩
 | .tr=>AF.a _ _ _
 | .out=>bK.a
def dr (w:X)(S:Nat->Prop)(p g gs:Nat)(P:cu):Prop:=∃κ io gT,eQ (vJ p g gs (xY g io P.a.length gT) P io gT) κ w∧∀k,κ k≠.out->S k
section
variable {w w':X} {S S':Nat->Prop} {p g gs:Nat} {P:cu}
theorem dr.q (h:dr w S p g gs P)(c:ak S' w w')(f:∀k,S k->¬S' k):dr w' S p g gs P:=by
 obtain⟨i,j,l,m,a⟩:=h;refine⟨i,j,l,fun d=>?_,a⟩;by_cases b:d=.out
 . subst b;exact trivial
 . exact(qc d).c (m d) c (fun k e=>f k (a k (by rw[e];exact b)))
theorem dr.r (h:dr w S p g gs P)(a:Below w.heap.size w w'):dr w' S p g gs P:=h.q (ak.e (S:=fun _=>False) a) (fun _ _ e=>e)
theorem dr.f (h:dr w S p g gs P)(c:∀k,k<w.heap.size->S k->S' k):dr w S' p g gs P:=by
 obtain⟨f,i,j,l,m⟩:=h;refine⟨cy f w.heap.size .out,i,j,fun d=>?_,fun k a=>?_⟩
 . by_cases n:d=.out
   . subst n;exact trivial
   . exact(qc d).b (l d) (fun k a e=>(fg a).trans e)
 . rcases eI k w.heap.size with b | b
   . rw[fg b] at a;exact c k b (m k a)
   . exact absurd (pW b) a
theorem Hr {κ:Nat->xM}{d:xM}(c:∀k,κ k≠.out->S k):∀k,cy κ w.heap.size d k≠.out->ay S w k:=fun k b=>by
 rcases eI k w.heap.size with a | a
 . rw[fg a] at b;exact A (c k b)
 . exact R a
theorem dr.j (h:dr w S p g gs P):∃a:Nat->Prop,gj w a g gs P.s P.c∧(∀k,a k->S k)∧w.cell? ⟨p,0,U⟩=M (Q (M ⟨g,0,U⟩))∧∀b f w',gj w' (ay a w) g gs b f->ak a w w'->dr w' (ay S w) p g gs ⟨b,f,P.a⟩:=by
 obtain⟨m,i,j,l,n⟩:=h;refine⟨fun k=>m k=.gate,l .gate,fun k e=>n k (by rw[e];intro q;cases q),aq w p 0 _ _ _ (l .row).1,fun b f w' o r=>⟨cy m w.heap.size .gate,i,j,?_,Hr n⟩⟩;exact l.a qc r (fun _ e=>e) (X':=vJ p g gs (xY g i P.a.length j) ⟨b,f,P.a⟩ i j) (qc .gate) o (fun _ e=>e) (fun d t=>by cases d <;> first | rfl | exact absurd rfl t)
theorem dr.mH (h:dr w S p g gs P):∃f u,aL w 0 3 1 f u P.a.length (jV P.a)∧w.cell? ⟨p,1,U⟩=M (Z f P.a.length u)∧w.frozen? ⟨p,1,U⟩=F∧S p∧(∀k,aw f=M k->S k) ∧
 ∀l m i w', aL w' 0 3 1 l m (P.a.length + 1) (jV P.a ++ [I J i]) -> w.grownBy w' (aw f) -> (∀j, aw l = M j -> aw f = M j ∨ w.heap.size <= j) ->
   (w'.cell? ⟨p,1,U⟩=M (Z f P.a.length u)∧w'.frozen? ⟨p,1,U⟩=F)∧dr (w'.setCell ⟨p,1,U⟩ (Z l (P.a.length+1) m)) (ay S w) p g gs ⟨P.s,P.c,P.a++[i]⟩∧ak S w (w'.setCell ⟨p,1,U⟩ (Z l (P.a.length+1) m)):=by
 obtain⟨v,f,u,B,y⟩:=h;have x:=B .row;have r:∀k,aw f=M k->v k=.tr:=fun k e=>by
  cases f with
  | none=>cases e
  | some a=>injection e with e;rw[<-e];exact(B .tr).2 a rfl
 have C:∀{a b:xM} {k:Nat},v k=a->v k=b->a=b:=fun e e2=>e.symm.trans e2;refine⟨f,u,(B .tr).1,aq w p 1 _ _ _ x.1,aP w p 1 _ _ x.1,y p (by rw[x.2];intro q;cases q),fun k e=>y k (by rw[r k e];intro q;cases q),fun l m i w' hO hG D=>?_⟩;have n:ak (fun k=>v k=.tr) w w':=ak.y (S:=fun k=>v k=.tr) hG r;have t:=n.q x.1 (fun e=>by have:=C x.2 e;cases this);have hz:=n.b;have T:ak (fun k=>k=p) w' (w'.setCell ⟨p,1,U⟩ (Z l (P.a.length+1) m)):=ak.j (fun k=>k=p) w' _ _ rfl;have G:=aR w' p 1 _ _ (Z l (P.a.length+1) m) t;have o:(P.a++[i]).length=P.a.length+1:=by simp
 have z:jV (P.a++[i])=jV P.a++[I J i]:=by simp[jV]
 refine⟨⟨aq w' p 1 _ _ _ t,aP w' p 1 _ _ t⟩,?_,(n.f (fun k e=>y k (by rw[e];intro q;cases q))).a T (fun k e _=>by rw[e];exact y p (by rw[x.2];intro q;cases q))⟩;have H:eQ (vJ p g gs (xY g f P.a.length u) ⟨P.s,P.c,P.a++[i]⟩ l m) (cy v w.heap.size .tr) w' :=
  B.a qc n (fun _ e=>e) (qc .tr) (N:=fun k=>aw f=M k∨w.heap.size<=k) (by
   refine⟨?_,fun a e=>D a.block (by rw[e];rfl)⟩;show aL w' 0 3 1 l m (P.a++[i]).length (jV (P.a++[i]));rw[o,z];exact hO) (fun k e=>by
   rcases e with e | e
   . exact A (r k e)
   . exact R e) (fun d L=>by cases d <;> first | rfl | exact absurd rfl L)
 have h2:=H.a qc T (c:=.row) (fun k e=>by rw[e];exact(H .row).2) (X':=vJ p g gs (xY g l (P.a++[i]).length m) ⟨P.s,P.c,P.a++[i]⟩ l m) (qc .row) (N:=fun k=>k=p) (by
  refine⟨?_,rfl⟩;rw[o];exact G) (fun k e=>A (by rw[e];exact(H .row).2)) (fun d L=>by cases d <;> first | rfl | exact absurd rfl L)
 refine⟨_,l,m,h2,fun k W=>?_⟩;rcases eI k w'.heap.size with hl | hl
 . rw[fg hl] at W;exact Hr (w:=w) y k W
 . exact R (by omega)
theorem dr.lG (h:dr w S p g gs P):p<w.heap.size:=by
 obtain⟨b,c,d,a,e⟩:=h;exact(bM.1 (a .row).1).1
end
section
variable {w w':X} {S:Nat->Prop} {p g gs:Nat} {P:cu}
theorem dr.e (h:dr w S p g gs P):∃B:Nat->Prop,aT w B gs P.s∧(∀k,B k->S k)∧(w.cell? ⟨p,0,U⟩=M (Q (M ⟨g,0,U⟩))∧w.cell? ⟨g,0,U⟩=M (Q (M ⟨gs,0,U⟩)))∧∀a w',aT w' (ay B w) gs a->ak B w w'->dr w' (ay S w) p g gs ⟨a,P.c,P.a⟩:=by
 obtain⟨r,j,l,m,n⟩:=h.j;obtain⟨B,o,f,b,d⟩:=j.f;exact⟨B,o,fun k e=>l k (f k e),⟨m,b⟩,fun a w' q i=>n a P.c w' (d a w' q i) (i.f f)⟩
structure oB (S:Nat->Prop)(w:X)(p g gs:Nat)(P:cu)(w':X):Prop where
 a:dr w' (ay S w) p g gs P
 b:ak S w w'
theorem dr.B (h:dr w S p g gs P)(ok:aK P.s)(a:Int):Calls prog 122 #[Q (M ⟨gs,0,U⟩),I J a] w fun e w'=>e=Y (I J ((fr P.s a).2:Int))∧oB S w p g gs ⟨(fr P.s a).1,P.c,P.a⟩ w':=by
 obtain⟨B,b,f,_,i⟩:=h.e;exact(MR b ok a).mono fun e w' d=>⟨d.d,i _ _ d.c d.b,d.b.f f⟩
theorem dr.G (h:dr w S p g gs P)(ok:aK P.s)(a:Int):Calls prog 125 #[Q (M ⟨gs,0,U⟩),I J a] w fun e w'=>e=Y (I J ((kY P.s a).2:Int))∧oB S w p g gs ⟨(kY P.s a).1,P.c,P.a⟩ w':=by
 obtain⟨B,b,f,_,i⟩:=h.e;exact(QK b ok a).mono fun e w' d=>⟨d.d,i _ _ d.c d.b,d.b.f f⟩
theorem dr.y (h:dr w S p g gs P):Calls prog 123 #[Q (M ⟨gs,0,U⟩)] w fun e w'=>e=Y (.tuple #[])∧oB S w p g gs ⟨eG P.s,P.c,P.a⟩ w':=by
 obtain⟨B,b,d,_,f⟩:=h.e;exact(rl b).mono fun e w' ⟨i,j,a⟩=>⟨i,f _ _ (j.a fun k _ e=>A e) a,a.f d⟩
theorem dr.a (h:dr w S p g gs P):w.cell? ⟨p,0,U⟩=M (Q (M ⟨g,0,U⟩))∧w.cell? ⟨g,0,U⟩=M (Q (M ⟨gs,0,U⟩)):=by
 obtain⟨B,_,_,a,_⟩:=h.e;exact a
def il (p g gs:Nat)(c:Nat->cY)(tr:List Int):nB:=fun w S _ s=>dr w S p g gs ⟨s,c,tr⟩
theorem lX {c:Nat->cY}{tr:List Int}:pe (il p g gs c tr):=⟨fun h b a=>dr.q h b a,fun h a=>dr.f h a⟩
theorem bW.E {O O':nB}{S' b:Nat->Prop}{W W':X}{bs:List Obj}{s d:av}(h:bW O S w g bs s S' W)(f:O' W' b g d)(j:∀k,b k->ay S' W k)(c:ak S' W W'):bW O' S w g bs d b W':=by
 have l:=h.c;refine⟨fun i m=>?_,f,fun k e=>?_,h.h.a c (fun k e n=>?_),co l c.b⟩
 . refine(c.c _ (by omega) (fun e=>?_)).trans (h.l i m);rcases h.d _ e with a | a
   . omega
   . omega
 . rcases j k e with e | e
   . exact h.d k e
   . exact R (by omega)
 . rcases h.d k e with a | a
   . exact a
   . omega
theorem bW.nU {O:nB}{S':Nat->Prop}{W:X}{bs:List Obj}{s:av}(L:pe O)(h:bW O S w g bs s S' W):bW O S w g bs s (fun k=>S' k∧k<W.heap.size) W:=⟨h.l,L.a h.b (fun _ a e=>⟨e,a⟩),fun k e=>h.d k e.1,h.h,h.c⟩
structure qt (S:Nat->Prop)(w:X)(p g gs:Nat)(r:cu×mn)(e:Ending)(w':X):Prop where
 d:∃(ao uo:ag) (jC an gQ un:Nat),e=Y (.agg #[I J (r.2.a:Int),Z ao an jC,Z uo un gQ])∧an=r.2.b.length∧un=r.2.c.length∧az w' ao jC r.2.b∧az w' uo gQ r.2.c∧∃Pd,dr w' Pd p g gs r.1∧(∀k,Pd k->ay S w k)∧(r.2.c≠[]->∀a,uo=M a->w.heap.size<=a.block∧¬Pd a.block)
 c:dr w' (ay S w) p g gs r.1
 b:ak S w w'
def Bv (x0 x1 x2:Value):Obj:=K #[x0,x1,x2] 70 (0,0)
theorem az.lH {W d:X}{b:Nat}{ao:ag}{cap:Nat}{l:ab}(o:W.heap[b]? = M (Bv (I J 0) (Z U 0 0) (Z U 0 0)))(h:az W ao cap l)(q:ak (fun k=>k=b) W d):az d ao cap l:=by
 by_cases i:l=[]
 . subst i;exact az.jL d h
 . have j:=mC.2 i;obtain⟨m,r,rfl,_⟩:=h.q j;refine h.r q (fun a e=>?_);injection e with e;subst e;intro f;have f:m=b:=f;subst f;have c:=h.j 0 j;rw[gg,aq W m _ _ _ _ o] at c;match r,c with
   | 0,c=>cases c
   | 1,c=>cases c
   | 2,c=>cases c
   | n+3,c=>simp at c
theorem bW.r {c:Nat->cY}{tr:List Int}{S':Nat->Prop}{W W':X}{bs:List Obj}{s:av}(h:bW (il p g gs c tr) S w 0 bs s S' W)(q:Below W.heap.size W W'){i:Nat}(j:bs[i]? = M (Bv (I J 0) (Z U 0 0) (Z U 0 0))){b:Nat}(r:w.heap.size+i=b)(o:mn){ci:Int}(t:(o.a:Int)=ci){ao uo:ag}{jC an gQ un:Nat}(u:an=o.b.length)(v:un=o.c.length)(x:az W' ao jC o.b)(y:az W' uo gQ o.c)(B:o.c≠[]->∀a,uo=M a->w.heap.size<=a.block∧¬S' a.block):
 (W'.cell? ⟨b,0,U⟩=M (I J 0)∧W'.cell? ⟨b,1,U⟩=M (Z U 0 0)∧W'.cell? ⟨b,2,U⟩=M (Z U 0 0)∧W'.frozen? ⟨b,0,U⟩=F∧W'.frozen? ⟨b,1,U⟩=F∧W'.frozen? ⟨b,2,U⟩=F) ∧
 Hid ((((W'.setCell ⟨b,0,U⟩ (I J ci)).setCell ⟨b,1,U⟩ (Z ao an jC)).setCell ⟨b,2,U⟩ (Z uo un gQ)).cell? ⟨b,0,U⟩=M (I J ci)∧(((W'.setCell ⟨b,0,U⟩ (I J ci)).setCell ⟨b,1,U⟩ (Z ao an jC)).setCell ⟨b,2,U⟩ (Z uo un gQ)).cell? ⟨b,1,U⟩=M (Z ao an jC)∧(((W'.setCell ⟨b,0,U⟩ (I J ci)).setCell ⟨b,1,U⟩ (Z ao an jC)).setCell ⟨b,2,U⟩ (Z uo un gQ)).cell? ⟨b,2,U⟩=M (Z uo un gQ)∧qt S w p g gs (⟨s,c,tr⟩,o) (Y (.agg #[I J ci,Z ao an jC,Z uo un gQ])) (((W'.setCell ⟨b,0,U⟩ (I J ci)).setCell ⟨b,1,U⟩ (Z ao an jC)).setCell ⟨b,2,U⟩ (Z uo un gQ))):=by
 subst r;have d:=h.a lX q;obtain⟨z,C⟩:=rF (d.B i j) (I J ci) (Z ao an jC) (Z uo un gQ);have D:=(fw.1 j).1;refine⟨z,?_⟩;obtain⟨G,H,L,l⟩:=C.o;generalize (((W'.setCell ⟨w.heap.size+i,0,U⟩ _).setCell ⟨w.heap.size+i,1,U⟩ _).setCell ⟨w.heap.size+i,2,U⟩ _)=N at *;have T:dr W' S' p g gs ⟨s,c,tr⟩:=d.b;have f:dr N S' p g gs ⟨s,c,tr⟩:=T.q l (fun k e e2=>by
  rcases d.d k e with m | m
  . omega
  . omega)
 have n:∀k,S' k->ay S w k:=fun k e=>by
  rcases d.d k e with m | m
  . exact A m.1
  . exact R (by omega)
 exact⟨G,H,L,⟨ao,uo,jC,an,gQ,un,by rw[<-t],u,v,x.lH (d.B i j) l,y.lH (d.B i j) l,S',f,n,B⟩,f.f (fun k _ e=>n k e),(d.h.f (fun k e=>e.1)).a l (fun k e hk=>by omega)⟩
end
theorem Q5 (w:X)(m t:ae)(mi ln:Int)(l:aC)(fo bo:ag)(fZ nf fV nb:Nat)(body:ab)(b:bx w fo fZ nf (aJ l))(c:l.length=nf)(d:nf<=1000000)(f:∀p∈l,p.1.size<=2000∧p.2.size<=2000)(g:m.size+t.size<=10000)(i:body.length=nb)(a:az w bo fV body)(k:nb<=100000)(n:di w):
 Calls prog 182 #[.agg #[V m,V t,I J mi,Z fo nf fZ,I J ln],Z bo nb fV] w fun e w'=>Br w (oP m t l) body e w':=by
 by_cases j:oR (fi m.data.toList) (iV t.data.toList) (m.data.toList.length+t.data.toList.length+10) nb nf (aH gw l).length (aH gx l).length (aH gv l).length=0
 . exact Od w m t ⟨(bw 8 nb).toArray⟩ mi ln l fo bo fZ nf fV nb body b c d f g i a (fun W o=>mD nb (by omega) W (n.a o)) rfl j
 . exact MU w m t mi ln l fo bo fZ nf fV nb body b c d f g i j
section
variable {w0 w w':X}
theorem Oe (u:aN)(n:Nat)(hid:u.c=(n:Int))(hn:n<1000000000){bo:ag}{fV nb:Nat}(t:az w bo fV u.b)(hb:u.b.length=nb)(hnb:nb<=100000)(hz:u.d.size<=2000)(hP:di w)(sz st:Int):
 Calls prog 124 #[.agg #[I J (n:Int),I J sz,V u.d,Z bo nb fV,I J st]] w fun e w'=>∃(ao:ag) (cap m:Nat),e=Y (Z ao m cap)∧m=(nV u).length∧az w' ao cap (nV u)∧Below w.heap.size w w'∧∀a,ao=M a->w.heap.size<=a.block:=by
 have v:=(ar _ w).alloc (am _) (K #[I J (n:Int),I J sz,V u.d,Z bo nb fV,I J st] 92);have x:=mD n hn _ (hP.a v);obtain⟨d,hd⟩:∃d:ae,d=⟨(bw 8 n).toArray⟩:=⟨_,rfl⟩;have hdz:d.size<=9:=by
  rw[hd];show(bw 8 n).toArray.size<=9;rw[cx];exact(gz 8 n).1
 rw[<-hd] at x;have W:AN u.c=AL++d:=by
  unfold AN eW;rw[hid,Int.toNat_natCast,hd]
 have R3:AM u=oP uU (AL++d) (lA u.d):=by unfold AM;rw[W];rfl
 have Wi:Hid (nV u=(jp (oP ⟨#[80,79,83,84]⟩ ((⟨#[47,116,97,107,101,47]⟩:ae)++d) (lA u.d)) u.b).1):=by unfold Hid nV;rw[R3];rfl
 have hzt:((⟨#[47,116,97,107,101,47]⟩:ae)++d).size<=15:=by rw[jq];show 6+d.size<=_;omega
 have hz1:¬(9223372036854775807<6+d.size):=by omega
 clear R3 W hd;go_enter func124,ntmps124;go_wp2_with fail;refine x.mono ?_;rintro e b ⟨rfl,y⟩;have HR:=(y.block w.heap.size (by simp)).trans (be w _);have x2:=aq b _ 2 _ _ _ HR;have x3:=aq b _ 3 _ _ _ HR;simp at x2 x3;have HB1:=aa (au v y);obtain⟨tb,htb⟩:∃tb,(u.d.toList==[])=tb:=⟨_,rfl⟩;have HTb:Hid ((tb=true->u.d.size=0)∧(tb=F->¬u.d.size=0)):=by
  rw[<-htb,Lib.toList_data];have e:u.d.data.toList.length=u.d.size:=by rw[cI];rfl
  exact⟨fun h=>by rw[<-e,cJ.1 h];rfl,fun h h2=>aO.1 h (iz (e.trans h2))⟩
 have s:=(bM.1 HR).1;have hA1:=(ar _ b).alloc (am _) (K #[V ⟨#[72,111,115,116]⟩,V ⟨#[105,110,108,97,110,100]⟩] 148);have z:=au hA1 ((ar _ (b.alloc (K #[V ⟨#[72,111,115,116]⟩,V ⟨#[105,110,108,97,110,100]⟩] 148))).alloc (am _) (K #[V ⟨#[80,79,83,84]⟩,V ((⟨#[47,116,97,107,101,47]⟩:ae)++d),I J 0,Z (M ⟨b.heap.size,0,U⟩) 1 1,I J 0] 82));have C:=aa ((z.block w.heap.size s).trans HR);have p:=aa (be (b.alloc (K #[V ⟨#[72,111,115,116]⟩,V ⟨#[105,110,108,97,110,100]⟩] 148)) (K #[V ⟨#[80,79,83,84]⟩,V ((⟨#[47,116,97,107,101,47]⟩:ae)++d),I J 0,Z (M ⟨b.heap.size,0,U⟩) 1 1,I J 0] 82));have D:(b.alloc (K #[V ⟨#[72,111,115,116]⟩,V ⟨#[105,110,108,97,110,100]⟩] 148)).heap.size=b.heap.size+1:=bu ..;rw[D] at p;have HOf:Hid (aL ((b.alloc (K #[V ⟨#[72,111,115,116]⟩,V ⟨#[105,110,108,97,110,100]⟩] 148)).alloc (K #[V ⟨#[80,79,83,84]⟩,V ((⟨#[47,116,97,107,101,47]⟩:ae)++d),I J 0,Z (M ⟨b.heap.size,0,U⟩) 1 1,I J 0] 82)) b.heap.size 148 2 (M ⟨b.heap.size,0,U⟩) 1 1 (aJ [(qA,qB)])):=by
  have h0:aL (b.alloc (K #[V ⟨#[72,111,115,116]⟩,V ⟨#[105,110,108,97,110,100]⟩] 148)) b.heap.size 148 2 (M ⟨b.heap.size,0,U⟩) 1 1 (aJ [(qA,qB)]):=⟨rfl,.inr ⟨b.heap.size,1,_,rfl,am _,be b _,am _,by decide,rfl,rfl⟩⟩;exact h0.y _
 have G:=aa (au HB1.o z);have hs2:((b.alloc (K #[V ⟨#[72,111,115,116]⟩,V ⟨#[105,110,108,97,110,100]⟩] 148)).alloc (K #[V ⟨#[80,79,83,84]⟩,V ((⟨#[47,116,97,107,101,47]⟩:ae)++d),I J 0,Z (M ⟨b.heap.size,0,U⟩) 1 1,I J 0] 82)).heap.size=b.heap.size+2:=by rw[bu,D]
 have HS2:=aa hs2;clear hs2;have hsz:w.heap.size<b.heap.size:=s;obtain⟨i0,hi0,hq0,hq1,hq2⟩:=info_parts pX;have Hi:=aa hi0;have kS:=aa hq0;have kM:=aa hq1;have kT:=aa hq2
 have H:Hid (nb=u.b.length∧nb<=100000∧az w bo fV u.b):=⟨hb.symm,hnb,t⟩;have Dr:=aa hP;clear hA1 z hi0 hq0 hq1 hq2 x2 x3 x y D HR t hb hP v HB1;go_upto_region 2 with fail
 generalize ((⟨#[47,116,97,107,101,47]⟩:ae)++d)=tg at *;generalize ((b.alloc (K #[V ⟨#[72,111,115,116]⟩,V ⟨#[105,110,108,97,110,100]⟩] 148)).alloc (K #[V ⟨#[80,79,83,84]⟩,V tg,I J 0,Z (M ⟨b.heap.size,0,U⟩) 1 1,I J 0] 82))=L at *;have x2:=aq L _ 2 _ _ _ C.o;simp at x2;have h3:=aq L _ 3 _ _ _ p.o;simp at h3;have hf3:=aP L _ 3 _ _ p.o;generalize b.heap.size=f at *;go_upto_if 15 with fail
 go_cut [] (fun wd=>∃(fo:ag) (fc nf:Nat),wd.heap[f+1]? = M (K #[V ⟨#[80,79,83,84]⟩,V tg,I J 0,Z fo nf fc,I J 0] 82 (0,0))∧nf=(lA u.d).length∧bx wd fo fc nf (aJ (lA u.d))∧Below w.heap.size w wd∧wd.heap[w.heap.size]? = M (K #[I J (n:Int),I J sz,V u.d,Z bo nb fV,I J st] 92 (0,0)))
 case first =>
  cases tb
  case true =>
   have r:=HTb.o.1 rfl;have JR:Hid (lA u.d=[(qA,qB)]):=by unfold Hid lA;rw[if_pos r]
   clear r;go_wp2;go_meet;exact⟨M ⟨f,0,U⟩,1,1,p.o,by rw[JR.o];rfl,by rw[JR.o];exact HOf.o.a,G.o,C.o⟩
  case false =>
   have r:=HTb.o.2 rfl;have JR:Hid (lA u.d=[(qA,qB)]++[(ir,u.d)]):=by unfold Hid lA;rw[if_neg r];rfl
   have uq:Hid (Below L.heap.size L (L.alloc (K #[V ⟨#[85,112,108,111,97,100,45,77,101,116,97,100,97,116,97]⟩,V u.d] 148))):=(ar _ _).alloc (am _) _;have yM:=aa (HOf.o.r uq.o);have mG:Hid (∀g j l,(L.alloc (K #[V ⟨#[85,112,108,111,97,100,45,77,101,116,97,100,97,116,97]⟩,V u.d] 148)).grownBy g (M f)->aL g f 148 2 j l 2 (aJ [(qA,qB)]++[V ir,V u.d])->(g.cell? ⟨f+1,3,U⟩=M (Z (M ⟨f,0,U⟩) 1 1)∧g.frozen? ⟨f+1,3,U⟩=F)∧((g.setCell ⟨f+1,3,U⟩ (Z j 2 l)).heap[f+1]? = M (K #[V ⟨#[80,79,83,84]⟩,V tg,I J 0,Z j 2 l,I J 0] 82 (0,0))∧bx (g.setCell ⟨f+1,3,U⟩ (Z j 2 l)) j l 2 (aJ ([(qA,qB)]++[(ir,u.d)]))∧Below w.heap.size w (g.setCell ⟨f+1,3,U⟩ (Z j 2 l))∧(g.setCell ⟨f+1,3,U⟩ (Z j 2 l)).heap[w.heap.size]? = M (K #[I J (n:Int),I J sz,V u.d,Z bo nb fV,I J st] 92 (0,0)))):=fun g j l hG hO=>by
    have T:=(ak.e (S:=fun k=>k=f) uq.o).a (ak.y hG (fun k e=>by injection e with e;exact e.symm)) (fun _ e _=>e);have r4:=T.q p.o (by omega);have u4:=T.q C.o (by omega);have wO:ak (fun k=>k=f+1) g (g.setCell ⟨f+1,3,U⟩ (Z j 2 l)):=ak.j (fun k=>k=f+1) g _ _ rfl;have hne:=gG r4 hO (by decide);rw[dp] at hne;have yg:=hO.f wO (fun a e e2=>hne (by rw[e];show M a.block=_;rw[e2]));have hB4:=(G.o.trans (T.below (B:=w.heap.size) (fun k e=>by omega) G.o.size));refine⟨⟨aq g _ 3 _ _ _ r4,aP g _ 3 _ _ r4⟩,aR g _ 3 _ _ _ r4,yg.a,hB4.trans (wO.below (B:=w.heap.size) (fun k e=>by omega) hB4.size),wO.q u4 (by omega)⟩
   clear r;go_wp2_with (at_builtin;go_loud (refine lP rfl (.tmp 17) (.tmp 21) 80 rfl f 148 i0 (.agg #[V ⟨#[]⟩,V ⟨#[]⟩]) 2 32 underlying80 Hi.o kS.o kM.o kT.o rfl (by decide) rfl yM.o rfl (bx.e _ _ 1 _ _) rfl (wV _ _) (by decide) (by decide) (by rw[bu];have:=HS2.o;omega) ?_;intro j l g hO4 hG4 Va;obtain⟨⟨e3,ef3⟩,hst⟩:=mG.o g j l hG4 hO4;have Kk:=aa hst;clear hO4 hG4 Va hst))
   go_meet;exact⟨j,l,2,Kk.o.1,by rw[JR.o];rfl,by rw[JR.o];exact Kk.o.2.1,Kk.o.2.2.1,Kk.o.2.2.2⟩
 case rest =>
  obtain⟨fo,fc,nf,i,hnf,hV,t,hru⟩:=hcut;have b0:=aq wc _ 0 _ _ _ i;have b1:=aq wc _ 1 _ _ _ i;have b2:=aq wc _ 2 _ _ _ i;have b3:=aq wc _ 3 _ _ _ i;have b4:=aq wc _ 4 _ _ _ i;have x3:=aq wc _ 3 _ _ _ hru;simp at b0 b1 b2 b3 b4 x3;have mF:(lA u.d).length<=2:=by unfold lA;split <;> simp
  have HWr:=Q5 wc ⟨#[80,79,83,84]⟩ tg 0 0 (lA u.d) fo bo fc nf fV nb u.b hV hnf.symm (by omega) (fun q hq=>by
   unfold lA at hq;rcases fS.1 hq with e | e
   . subst e;exact⟨by decide,by decide⟩
   . split at e
     . cases e
     . rw[cW.1 e];exact⟨show ir.size<=2000 by decide,hz⟩) (by show 4+tg.size<=_;omega) H.o.1.symm (H.o.2.2.a t) H.o.2.1 (Dr.o.a t)
  have Ik:=aa t;clear hV t hru i hnf mF;go_wp2_with fail;refine HWr.mono ?_;intro e w5 hw;have HFin:∃(ao:ag) (cap k cd:Nat),e=Y (.tuple #[Z ao k cap,I J (cd:Int)])∧k=(nV u).length∧az w5 ao cap (nV u)∧Below w.heap.size w w5∧∀a,ao=M a->w.heap.size<=a.block:=by
   cases hw with
   | bad c hc he ht N=>exact⟨U,0,0,c,he,by rw[Wi.o,ht];rfl,by rw[Wi.o,ht];exact az.e _,au Ik.o N,fun a e=>by cases e⟩
   | ok gb cap k he hk ht hO N=>exact⟨M ⟨gb,0,U⟩,cap,k,0,he,by rw[Wi.o];exact hk,by rw[Wi.o];exact hO.q,au Ik.o N,fun a e=>by injection e with e;subst e;exact co Ik.o.size hO.c⟩
  obtain⟨ao,cap,k,cd,rfl,T⟩:=HFin;have HT:=aa T;clear hw T;go_wp2;go_ret;exact⟨ao,cap,k,rfl,HT.o⟩
end
section
variable {w0 w w':X} {S:Nat->Prop} {p g gs:Nat} {P:cu}
def rE:Obj:=Bv (I J 0) (Z U 0 0) (Z U 0 0)
theorem G9 (h:dr w S p g gs P):bW (il p g gs P.c P.a) S w 0 [rE] P.s (fun k=>S k∧k<w.heap.size) (w.alloc (K #[I J 0,Z U 0 0,Z U 0 0] 70)) :=
 (bW.G lX (s:=P.s) h).q lX rfl (fun _ e=>e.2) _
theorem Q6 (h:dr w S p g gs P)(ok:aK P.s)(a:Int):
 Calls prog 72 #[Q (M ⟨p,0,U⟩),I J a] w fun e w'=>qt S w p g gs (oN P a) e w':=by
 obtain⟨f,j⟩:∃f,f=oN P a:=⟨_,rfl⟩;rw[<-j];unfold oN at j;have u:=G9 h;obtain⟨N,T⟩:=dr.a u.b;have k:=dr.G u.b ok a;have d:(kY P.s a).2≠0->(kY P.s a).1=P.s:=pL;generalize kY P.s a=r at *;obtain⟨s2,l⟩:=r;simp only at j k d;have n:=aa j;have W:=aa d
 clear j d;go_enter func72,ntmps72;go_wp2_with fail;refine k.mono ?_;rintro e w2 ⟨rfl,G⟩;have t:=u.j (O:=il p g gs P.c P.a) G.a G.b;obtain⟨H,L⟩:=dr.a t.b;clear N T;by_cases x:l=0
 . subst x;rw[if_neg (by simp)] at n;have JB:=dr.y t.b;go_wp2_with fail;refine JB.mono ?_;rintro e w3 ⟨rfl,m⟩;have T3:=t.j (O:=il p g gs P.c P.a) m.a m.b;obtain⟨⟨z0,z1,z2,f0,f1,f2⟩,y⟩:=T3.r (ar _ _) (i:=0) rfl (b:=w.heap.size) rfl ⟨0,[],[]⟩ (ci:=0) rfl (ao:=U) (uo:=U) (jC:=0) (gQ:=0) rfl rfl (az.e _) (az.e _) (fun q=>absurd rfl q);clear H L;go_wp2;generalize (((w3.setCell ⟨w.heap.size,0,U⟩ _).setCell ⟨w.heap.size,1,U⟩ _).setCell ⟨w.heap.size,2,U⟩ _)=wf at *;obtain⟨z,B,C,D⟩:=y.o;refine aS (v:=.agg #[I J 0,Z U 0 0,Z U 0 0]) (by simp[results,results72,go_sem,z,B,C]) rfl ?_;rw[n.o];exact D
 . rw[if_pos (by simpa using x)] at n;have e:=W.o x;subst e;have tc:((l:Int)==0)=F:=aO.2 (by omega);obtain⟨⟨z0,z1,z2,f0,f1,f2⟩,y⟩:=t.r (ar _ _) (i:=0) rfl (b:=w.heap.size) rfl ⟨l,[],[]⟩ (ci:=(l:Int)) rfl (ao:=U) (uo:=U) (jC:=0) (gQ:=0) rfl rfl (az.e _) (az.e _) (fun q=>absurd rfl q);clear H L;go_wp2;generalize (((w2.setCell ⟨w.heap.size,0,U⟩ _).setCell ⟨w.heap.size,1,U⟩ _).setCell ⟨w.heap.size,2,U⟩ _)=wf at *;obtain⟨z,B,C,D⟩:=y.o;refine aS (v:=.agg #[I J (l:Int),Z U 0 0,Z U 0 0]) (by simp[results,results72,go_sem,z,B,C]) rfl ?_;rw[n.o];exact D
theorem Sx (hP:di w0)(hW:Below w0.heap.size w0 w)(hF:∀i,S i->w0.heap.size<=i)(h:dr w S p g gs P)(ok:aK P.s)(htr:P.a.length<=1000000)(d:Int):
 Calls prog 71 #[Q (M ⟨p,0,U⟩),I J d] w fun e w'=>qt S w p g gs (oO P d) e w':=by
 obtain⟨W,hR⟩:∃W,W=oO P d:=⟨_,rfl⟩;rw[<-hR];unfold oO at hR;have T1:=G9 h;obtain⟨x0,x1⟩:=dr.a T1.b;have z:=dr.B T1.b ok d;have C:(fr P.s d).2≠0->(fr P.s d).1=P.s:=pL;have D:(fr P.s d).2=0->∃i u,cE (fr P.s d).1.h.l d=M i∧(fr P.s d).1.h.l[i]? = M { u with e:=1 }∧sc (fr P.s d).1.h d=nV u∧u.c=d∧1<=d∧d<=100000∧u.d.size<=100∧u.b.length<=2000:=fun h0=>by
  obtain⟨i,u,hp,t,m,_,_,he⟩:=N0 h0;obtain⟨h1,h2,h3⟩:=N7 hp t he;have hk:=ok.h.a u (nD t);have:=hk.f;have:=hk.e;have:=ok.q
  exact⟨i,u,h1,h2,h3,m,by omega,by omega,hk.b,hk.a⟩
 have PU:=aa (ok.y d);generalize fr P.s d=r at *;obtain⟨s2,c2⟩:=r;simp only at hR z C D PU;have HR:=aa hR;have JZ:=aa C;have HYs:=aa D
 have HP:=aa hP;have HW:=aa hW;have HF:=aa hF
 clear hR C D hP hW hF;go_enter func71,ntmps71;go_wp2_with fail;refine z.mono ?_;rintro e w2 ⟨rfl,hd⟩;have T2:=T1.j (O:=il p g gs P.c P.a) hd.a hd.b;obtain⟨y0,y1⟩:=dr.a T2.b;clear x0 x1;by_cases h0:c2=0
 . subst h0;rw[if_neg (by simp)] at HR;obtain⟨i,u,hp,t,hsu,m,hlo,hhi,hnz,hbz⟩:=HYs.o rfl;rw[hsu] at HR;have JB:=dr.y T2.b;have HPl:=aa hp;have HUi:=aa t;have HId:=aa m;have HNz:=aa hnz;have HBz:=aa hbz
   obtain⟨n,rfl⟩:∃n:Nat,d=n:=⟨d.toNat,by omega⟩;clear hsu hp t m hnz hbz HYs JZ;go_wp2_with fail;refine JB.mono ?_;rintro e w3 ⟨rfl,G⟩;have T3:=T2.j (O:=il p g gs P.c P.a) G.a G.b;have H:=(ar _ w3).alloc (am _) (K #[I J (n:Int)] 3);have T4:=T3.a lX H;have hpl:=dr.lG T3.b;obtain⟨io,gT,hO,hc1,hf1,_,_,hK⟩:=dr.mH T4.b;have c3:w3.cell? ⟨p,1,U⟩=M (Z io P.a.length gT):=((H.cell (p:=⟨p,1,U⟩) hpl).symm).trans hc1;have HO:Hid (aL (w3.alloc (K #[I J (n:Int)] 3)) 0 3 1 io gT P.a.length (jV P.a)):=hO;obtain⟨i0,hi0,hq0,hq1,hq2⟩:=info_parts zh;have Hi:=aa hi0;have kS:=aa hq0;have kM:=aa hq1;have kT:=aa hq2
   have mG:Hid (∀x L f,aL f 0 3 1 x L (P.a.length+1) (jV P.a++[I J (n:Int)])->(w3.alloc (K #[I J (n:Int)] 3)).grownBy f (aw io)->(∀j,aw x=M j->aw io=M j∨(w3.alloc (K #[I J (n:Int)] 3)).heap.size<=j) ->
    (f.cell? ⟨p,1,U⟩=M (Z io P.a.length gT)∧f.frozen? ⟨p,1,U⟩=F)∧∃Pd,bW (il p g gs P.c (P.a++[(n:Int)])) S w 0 [rE] (eG s2) Pd (f.setCell ⟨p,1,U⟩ (Z x (P.a.length+1) L))):=fun x L f h1 h2 h3=>by
    obtain⟨k1,k2,k3⟩:=hK x L (n:Int) f h1 h2 h3;exact⟨k1,_,T4.E (O':=il p g gs P.c (P.a++[(n:Int)])) k2 (fun _ e=>e) k3⟩
   clear y0 y1 hi0 hq0 hq1 hq2 hO hK T2 T1 T3 T4 H hc1 hf1 z JB hd G;generalize P.a.length=tn at *;go_upto_region 5 with fail
   go_upto_region 6 with (at_builtin;go_loud (refine lP rfl (.tmp 33) (.tmp 35) 55 rfl 0 3 i0 (I J 0) 1 8 underlying55 Hi.o kS.o kM.o kT.o rfl (by decide) rfl HO.o rfl (bx.e _ _ 1 _ _) rfl (fun u t=>by simp at t;rw[t];rfl) (by omega) (by omega) (ax _) ?_;intro x L f hO4 hG4 Va;obtain⟨⟨e1,ef1⟩,hA4⟩:=mG.o x L f hO4 hG4 (fun j e=>by rcases Va with q | q;exact A (q▸e);exact R (by rw[q] at e;injection e with e;omega));have X6:=aa hA4;clear hO4 hG4 Va hA4))
   clear e1 ef1 c3 HO mG hpl;obtain⟨A5,T5⟩:=X6.o;clear X6;generalize (f.setCell ⟨p,1,U⟩ (Z x (tn+1) L))=w5 at *;obtain⟨B,hSt,_,⟨y0,y1⟩,_⟩:=dr.e T5.b;obtain⟨gp,gl,lo,lca,Pp,hI⟩:=hSt;obtain⟨⟨y2,_⟩,_⟩:=cD hI.a;have N:=mu HPl.o;have y:s2.h.l[i]={ u with e:=1 }:=by
    have:=HUi.o;rw[iA N] at this;injection this
   have Z5:=yE s2.h Pp gp (n:Int) i w5 hI.d PU.o.h HPl.o N;rw[y] at Z5;simp only[HId.o] at Z5;clear hI y N;have U1:=aa T5;clear T5;go_wp2_with fail;refine Z5.mono ?_;rintro e w6 ⟨bo,fV,rfl,Yd,hb6⟩;have T:=(ar _ w6).alloc (am _) (K #[I J (n:Int),I J u.a,V u.d,Z bo u.b.length fV,I J 1] 92);have T7:=(U1.o.a lX hb6).a lX T;have Vd:=aa (Yd.a T);have hr7:=be w6 (K #[I J (n:Int),I J u.a,V u.d,Z bo u.b.length fV,I J 1] 92);have hW7:Below w0.heap.size w0 (w6.alloc (K #[I J (n:Int),I J u.a,V u.d,Z bo u.b.length fV,I J 1] 92)):=HW.o.trans ((T7.h.f (S':=S) (fun k e=>e.1)).below (B:=w0.heap.size) (fun k e=>HF.o k e) HW.o.size);have HOn:=Oe (w:=w6.alloc (K #[I J (n:Int),I J u.a,V u.d,Z bo u.b.length fV,I J 1] 92)) u n HId.o (by omega) Vd.o rfl (by have:=HBz.o;omega) (by have:=HNz.o;omega) (HP.o.a hW7) u.a 1;have YN:=aa (T7.nU lX);have RH:=aa hr7
   clear T7 hr7 hW7 T Yd hb6 Z5 U1 y0 y1 y2;go_upto_region 7 with fail
   generalize (w6.alloc (K #[I J (n:Int),I J u.a,V u.d,Z bo u.b.length fV,I J 1] 92))=W7 at *;have b0:=aq W7 _ 0 _ _ _ RH.o;have b1:=aq W7 _ 1 _ _ _ RH.o;have b2:=aq W7 _ 2 _ _ _ RH.o;have b3:=aq W7 _ 3 _ _ _ RH.o;have b4:=aq W7 _ 4 _ _ _ RH.o;simp at b0 b1 b2 b3 b4;go_wp2_with fail;refine HOn.mono ?_;rintro e w8 ⟨uo,gQ,un,rfl,hun,hU8,hb8,hnw⟩;obtain⟨⟨z0,z1,z2,f0,f1,f2⟩,HE⟩:=YN.o.r hb8 (i:=0) rfl (b:=w.heap.size) rfl ⟨0,[],nV u⟩ (ci:=0) rfl (ao:=U) (jC:=0) (an:=0) rfl hun (az.e _) hU8 (fun _ a e=>by have h1:=hnw a e;have h2:=YN.o.c;exact⟨by omega,fun q=>by have:=q.2;omega⟩);clear b0 b1 b2 b3 b4 hun hU8 hb8 hnw;go_wp2;generalize (((w8.setCell ⟨w.heap.size,0,U⟩ _).setCell ⟨w.heap.size,1,U⟩ _).setCell ⟨w.heap.size,2,U⟩ _)=wf at *;obtain⟨q0,q1,q2,q3⟩:=HE.o;refine aS (v:=.agg #[I J 0,Z U 0 0,Z uo un gQ]) (by simp[results,results71,go_sem,q0,q1,q2]) rfl ?_;rw[HR.o];exact q3
 . rw[if_pos (by simpa using h0)] at HR;have e:=JZ.o h0;subst e;have tc:((c2:Int) != 0)=true:=dh.2 (by omega);obtain⟨⟨z0,z1,z2,f0,f1,f2⟩,HE⟩:=T2.r (ar _ _) (i:=0) rfl (b:=w.heap.size) rfl ⟨c2,[],[]⟩ (ci:=(c2:Int)) rfl (ao:=U) (uo:=U) (jC:=0) (gQ:=0) rfl rfl (az.e _) (az.e _) (fun q=>absurd rfl q);clear y0 y1;go_wp2;generalize (((w2.setCell ⟨w.heap.size,0,U⟩ _).setCell ⟨w.heap.size,1,U⟩ _).setCell ⟨w.heap.size,2,U⟩ _)=wf at *;obtain⟨q0,q1,q2,q3⟩:=HE.o;refine aS (v:=.agg #[I J (c2:Int),Z U 0 0,Z U 0 0]) (by simp[results,results71,go_sem,q0,q1,q2]) rfl ?_;rw[HR.o];exact q3
end
section
variable {w0 w w1 wf wr:X} {S:Nat->Prop} {g gs:Nat} {s:av} {c:Nat->cY} {κ:Nat->lZ} {x:Nat->kV} {v:Nat->List Value} {k gp:Nat}
theorem dF.lH (h:dF w0 κ g gs s v c x ji eK wr)(t:dN w1 (fun i=>wr.heap.size<=i) gp pJ)(o:Below wr.heap.size wr w1)(l:gn wf g gs (bJ v k (mx eL (pD gp))))(m:ak (fun i=>i=g) w1 wf):
 dF w0 (cy κ wr.heap.size (.rq k)) g gs s (bJ v k (mx eL (pD gp))) (bJ c k eL) (bJ x k (pD gp)) ji eK wf:=by
 have b:=h.a;have n:=(b .row).1.j;have p:=h.b.size;have a:∀d,d≠.row->fM g gs s v 4 c x ji eK d wf (fun i=>cy κ wr.heap.size (.rq k) i=d):=fun d u=>by
  have L:bK (fM g gs s v 4 c x ji eK d):=li (fun _=>bK.a) bK.a d;have y:=L.b (b d) (S':=fun i=>κ i=d∧i<wr.heap.size) (fun i z e=>⟨e,z⟩);have C:=L.c (L.c y (ak.e (S:=fun _=>False) o) (fun _ _ e=>e)) m (fun i e r=>u (by rw[<-e.1,r];exact(b .row).2));exact L.b C (fun i _ e=>(fg e.2).trans e.1)
 refine⟨fun d=>?_,h.f,h.b.trans ((ak.e o).a m (fun i e _=>e) |>.below (B:=w0.heap.size) (fun i e=>by rw[e];exact h.d g (by rw[(b .row).2];intro q;cases q)) p),xd h.d p⟩;cases d with
 | row=>exact⟨l,(fg n).trans (b .row).2⟩
 | jc=>exact a .jc (by intro q;cases q)
 | rq j =>
   intro f;by_cases e:j=k
   . subst e;rw[cZ,cZ];exact(t.e m (fun i e r=>by omega)).a (fun i _ e=>pW e)
   . rw[ei _ _ e,ei _ _ e];exact a (.rq j) (by intro q;cases q) f
 | fl j =>
   refine⟨fun f=>?_,trivial⟩;by_cases e:j=k
   . subst e;rw[cZ,cZ];exact jt.a _ _
   . rw[ei _ _ e,ei _ _ e];exact(a (.fl j) (by intro q;cases q)).1 f
 | bd j =>
   intro f;by_cases e:j=k
   . subst e;rw[cZ,cZ];exact bI.e _ _ _
   . rw[ei _ _ e,ei _ _ e];exact a (.bd j) (by intro q;cases q) f
 | ret=>trivial
 | out=>trivial
theorem AS {d:lZ}{n:Nat}(h:∀i,κ i≠.out->ay S w i)(e:w.heap.size<=n):∀i,cy κ n d i≠.out->ay S w i:=fun i a=>by
 rcases eI i n with b | b
 . rw[fg b] at a;exact h i a
 . exact R (by omega)
theorem dF.B (h:dF w0 κ g gs s (ew c x) c x ji eK wr)(a:∀i,κ i≠.out->ay S w i):gj wr (ay S w) g gs s c:=⟨κ,x,h.a,a⟩
theorem MV (j:Int)(b:j<0∨4<=j)(w:X):
 Calls prog 14 #[Q (M ⟨g,0,U⟩),I J j] w fun e w'=>e=Y (I J 1)∧w'=w:=by
 have a:=fun W=>ym j W;rw[show(decide (0<=j)&&decide (j<4))=F from by rcases b with h | h <;> simp <;> omega] at a;go_enter func14,ntmps14;go_wp2_with fail;refine(a _).mono ?_;rintro e w1 ⟨rfl,d⟩;subst d;go_wp2;go_ret;exact⟨rfl,rfl⟩
structure xA (S:Nat->Prop)(w:X)(g gs:Nat)(c:Nat->cY)(k:Nat)(s:av)(w':X):Prop where
 a:gj w' (ay S w) g gs s (bJ c k eL)
 b:ak S w w'
theorem Q7 (hP:di w0)(hW:Below w0.heap.size w0 w)(hF:∀i,S i->w0.heap.size<=i)(h:gj w S g gs s c)(ok:aK s)(k:Nat)(r:k<4)(hc:pu (c k))(hl:(c k).b.length<=20000):
 Calls prog 14 #[Q (M ⟨g,0,U⟩),I J (k:Int)] w fun e w'=>e=Y (I J 0)∧xA S w g gs c k (py br s (c k)) w':=by
 have HI:=fun W=>ym (k:Int) W;rw[show(decide ((0:Int)<=(k:Int))&&decide ((k:Int)<4))=true from by simp;omega] at HI;obtain⟨κ,x,hH,hS⟩:=h;have hG0:dF w0 κ g gs s (ew c x) c x ji eK w:=⟨hH,hP,hW,fun i e=>hF i (hS i e)⟩;have HS:=aa hS;have N:∀k,bK (ji k):=fun _=>bK.a;have T:bK eK:=bK.a;have HIp:=fun W=>Mm ⟨(c k).a.e.toArray⟩ ⟨(c k).a.b.toArray⟩ ((c k).a.d:Int) (c k).a.c (x k).d (x k).a (c k).a.a.length (x k).c (c k).b.length (x k).b W (by show(c k).a.b.toArray.size<=_;rw[cx];have:=hc.a.b;omega);have HNc:=fun W=>B3 W;have k0:(0:Int)<=(k:Int):=by omega
 have k4:(k:Int)<4:=by omega
 have NH:=yD hG0.j r (rfl:ew c x k=[Q (M ⟨(x k).e,0,U⟩),V ⟨(c k).a.e.toArray⟩,V ⟨(c k).a.b.toArray⟩,I J ((c k).a.d:Int),Z (x k).d (c k).a.a.length (x k).c,I J (c k).a.c,Z (x k).a (c k).b.length (x k).b]);obtain⟨y,hR⟩:∃y,y=py br s (c k):=⟨_,rfl⟩;rw[<-hR];unfold py at hR;obtain⟨bp,hbp⟩:∃b,(decide ((⟨(c k).a.e.toArray⟩:ae)=ui)&&up ⟨(c k).a.b.toArray⟩)=b:=⟨_,rfl⟩;simp only[hbp] at HIp;have hpc:(iT (c k).a.e=ui∧up (iT (c k).a.b)=true)<->bp=true:=by
  rw[<-hbp,hQ,decide_eq_true_iff];rfl
 clear hbp;go_enter func14,ntmps14;go_wp2_with fail;refine(HI _).mono ?_;rintro e w1 ⟨rfl,hw⟩;rw[hw];go_wp2_with fail;refine NH.mono ?_;rintro e n ⟨rfl,hr2,jG⟩;have h2:=hG0.q N T hr2 jG;have hS2:=AS (d:=.row) (w:=w) (S:=S) (fun i e=>A (hS i e)) (am _);have hbx:=(ar _ n).alloc (am _) (K #[V ⟨(c k).a.e.toArray⟩,V ⟨(c k).a.b.toArray⟩,I J ((c k).a.d:Int),Z (x k).d (c k).a.a.length (x k).c,I J (c k).a.c,Z (x k).a (c k).b.length (x k).b] 84);have C:=be n (K #[V ⟨(c k).a.e.toArray⟩,V ⟨(c k).a.b.toArray⟩,I J ((c k).a.d:Int),Z (x k).d (c k).a.a.length (x k).c,I J (c k).a.c,Z (x k).a (c k).b.length (x k).b] 84);have h3:=h2.e N T hbx;have hlt2:n.heap.size<(n.alloc (K #[V ⟨(c k).a.e.toArray⟩,V ⟨(c k).a.b.toArray⟩,I J ((c k).a.d:Int),Z (x k).d (c k).a.a.length (x k).c,I J (c k).a.c,Z (x k).a (c k).b.length (x k).b] 84)).heap.size:=by rw[bu];omega
 have hg2:g<n.heap.size:=hr2.j;have qj:ak S w (n.alloc (K #[V ⟨(c k).a.e.toArray⟩,V ⟨(c k).a.b.toArray⟩,I J ((c k).a.d:Int),Z (x k).d (c k).a.a.length (x k).c,I J (c k).a.c,Z (x k).a (c k).b.length (x k).b] 84)):=(jG.f (fun i e=>by rw[e];exact hS g (by rw[(hH .row).2];intro h;cases h))).a (ak.e (S:=fun _=>False) hbx) (fun _ e _=>e.elim);go_upto_region 4 with fail
 generalize (n.alloc (K #[V ⟨(c k).a.e.toArray⟩,V ⟨(c k).a.b.toArray⟩,I J ((c k).a.d:Int),Z (x k).d (c k).a.a.length (x k).c,I J (c k).a.c,Z (x k).a (c k).b.length (x k).b] 84))=W2 at *;have mG:Hid (∀gp D wf,dN D (fun i=>W2.drew.heap.size<=i) gp pJ->Below W2.drew.heap.size W2.drew D->gn wf g gs (bJ (bJ (ew c x) k [Q (M ⟨(x k).e,0,U⟩),V ⟨#[]⟩,V ⟨#[]⟩,I J 0,Z U 0 0,I J 0,Z U 0 0]) k (mx eL (pD gp)))->ak (fun i=>i=g) D wf ->
  (∃DF x',dF w0 DF g gs s (ew (bJ c k eL) x') (bJ c k eL) x' ji eK wf∧∀i,DF i≠.out->ay S w i)∧wf.heap[n.heap.size]? = M (K #[V ⟨(c k).a.e.toArray⟩,V ⟨(c k).a.b.toArray⟩,I J ((c k).a.d:Int),Z (x k).d (c k).a.a.length (x k).c,I J (c k).a.c,Z (x k).a (c k).b.length (x k).b] 84 (0,0))∧ak S w wf∧bx wf (x k).d (x k).c (c k).a.a.length (aJ (cf (c k).a.a))∧az wf (x k).a (x k).b (c k).b):=fun gp D wf G z hrf Vz=>by
  have h4:=(h3.e N T (bg _ _));have h5:=h4.lH G z hrf Vz;rw[pb,<-vX] at h5;have B:=au (bg _ _) z;have H:=h3.e N T B;have hgr:cy κ w.heap.size .row g=.row:=(h2.a .row).2;refine⟨⟨_,_,h5,AS hS2 ?_⟩,Vz.q ((B.block _ hlt2).trans C) (fun e=>by have e:n.heap.size=g:=e;omega),(qj.a (ak.e (S:=fun _=>False) B) (fun _ e _=>e.elim)).a Vz (fun i e _=>by rw[e];exact hS g (by rw[(hH .row).2];intro h;cases h)),?_,?_⟩
  . exact qj.b
  . exact(((H.a (.fl k)).1 r).e Vz (fun i e e2=>by rw[e2] at e;have:=hgr.symm.trans e;cases this)).b
  . exact bI.r ((H.a (.bd k) r).a Vz (fun i e e2=>by rw[e2] at e;have:=hgr.symm.trans e;cases this))
 have HR3:∀W,Below W2.heap.size W2 W->gn W g gs _:=fun W hW=>(h3.e N T hW).j;clear h3 h2 qj hbx C jG hr2 hG0 hH hS2 NH;go_cut [] (fun wd=>(∃DF x',dF w0 DF g gs s (ew (bJ c k eL) x') (bJ c k eL) x' ji eK wd∧∀i,DF i≠.out->ay S w i)∧wd.heap[n.heap.size]? = M (K #[V ⟨(c k).a.e.toArray⟩,V ⟨(c k).a.b.toArray⟩,I J ((c k).a.d:Int),Z (x k).d (c k).a.a.length (x k).c,I J (c k).a.c,Z (x k).a (c k).b.length (x k).b] 84 (0,0))∧ak S w wd∧bx wd (x k).d (x k).c (c k).a.a.length (aJ (cf (c k).a.a))∧az wd (x k).a (x k).b (c k).b)
 case first =>
  go_region_law ((go_simp;go_at_call 51;refine(HNc _).mono ?_;rintro e D ⟨gp,rfl,G,z⟩;have B:Below W2.heap.size W2 D:=au (bg _ _) z;have a:=HR3 D B;obtain⟨a0,a1,a2,a3,a4,a5,a6,hv⟩:=rA (a.b k r);have c0:D.cell? ⟨g,1+k*7,U⟩=M a0:=a.a r (j:=0) (by decide) (by rw[hv];rfl);have c1:=a.a r (j:=1) (by decide) (u:=a1) (by rw[hv];rfl);have c2:=a.a r (j:=2) (by decide) (u:=a2) (by rw[hv];rfl);have c3:=a.a r (j:=3) (by decide) (u:=a3) (by rw[hv];rfl);have c4:=a.a r (j:=4) (by decide) (u:=a4) (by rw[hv];rfl);have c5:=a.a r (j:=5) (by decide) (u:=a5) (by rw[hv];rfl);have c6:=a.a r (j:=6) (by decide) (u:=a6) (by rw[hv];rfl);have fz:=fun j=>a.f j;have Kk:=aa (mG.o gp D _ G z (a.q r (Q (M ⟨gp,0,U⟩)) (V ⟨#[]⟩) (V ⟨#[]⟩) (I J 0) (Z U 0 0) (I J 0) (Z U 0 0)).1 (a.q r (Q (M ⟨gp,0,U⟩)) (V ⟨#[]⟩) (V ⟨#[]⟩) (I J 0) (Z U 0 0) (I J 0) (Z U 0 0)).2);clear G z hv B a))
  all_goals
   go_wp2;go_meet;exact Kk.o
 case rest =>
  obtain⟨⟨κ3,x3,hG3,IG⟩,l,hTw,hFV,hBV⟩:=hcut;have b0:=aq wc _ 0 _ _ _ l;have b1:=aq wc _ 1 _ _ _ l;have b2:=aq wc _ 2 _ _ _ l;have b3:=aq wc _ 3 _ _ _ l;have b4:=aq wc _ 4 _ _ _ l;have b5:=aq wc _ 5 _ _ _ l;have VG:=(bM.1 l).1;have HRw:=aa l;have HTw:=hTw;have yK:=hG3;have Ci:=aa IG;have HFV:=hFV;have HBV:=hBV
  clear mG HR3 HNc;go_wp2_with fail;refine(HIp _).mono ?_;rintro e w5 ⟨rfl,f⟩;have wO:ak S w w5:=HTw.a (ak.e (S:=fun _=>False) f) (fun _ e _=>e.elim);have h5:=yK.e N T f;have b6:=(f.cell (p:=⟨n.heap.size,5,U⟩) VG).trans b5;have oD:s=y->xA S w g gs c k y w5:=fun e=>⟨by rw[<-e];exact h5.B Ci.o,wO⟩;cases bp with
  | false =>
    have HN:=aa (oD (by rw[hR,if_neg (fun e=>by have:=hpc.1 ⟨e.1,e.2.1⟩;cases this)]));go_wp2;go_ret;exact⟨rfl,HN.o⟩
  | true =>
    by_cases L:(c k).b=[]
    . have HN:=aa (oD (by rw[hR,if_neg (fun e=>e.2.2 L)]));have hl0:(c k).b.length=0:=by rw[L];rfl
      have t:decide (((c k).b.length:Int) > 0)=F:=aX (by omega);go_wp2;go_ret;exact⟨rfl,HN.o⟩
    . have hp:=hpc.2 rfl;rw[if_pos ⟨hp.1,hp.2,L⟩] at hR;have hl0:=mC.2 L;have t:decide (((c k).b.length:Int) > 0)=true:=bq (by omega);have H:dF w0 κ3 g gs s (ew (bJ c k eL) x3) (bJ c k eL) x3 ji eK w5.drew:=h5.e N T (bg _ _);have HDo:=FH (m:=⟨(c k).a.e.toArray⟩) (t:=⟨(c k).a.b.toArray⟩) (mi:=((c k).a.d:Int)) (ln:=(c k).a.c) ⟨H.f,H.b,fun i e=>H.d i (by rw[e];intro h;cases h)⟩ (H.a .jc) ok (G7 hc.a ((hFV.a f).a (bg _ _))) (c k).b rfl ((hBV.a f).a (bg _ _)) (by omega) (by show(c k).a.b.toArray.size<=_;rw[cx];have:=hc.a.b;omega);have hz5:=wO.b;have HDn:∀w9,aT w9 (ay (fun i=>κ3 i=.jc) w5.drew) gs (br s ⟨(c k).a.e.toArray⟩ ⟨(c k).a.b.toArray⟩ (pz (c k).a.a) (c k).b).1->ak (fun i=>κ3 i=.jc) w5.drew w9->xA S w g gs c k y w9:=fun w9 kK qO=>by
       have h9:=H.E N T kK qO;refine⟨?_,(wO.a (ak.B (fun _=>False) w5 1) (fun _ e _=>e.elim)).a qO (fun i e hi=>?_)⟩
       . rw[hR];exact h9.B (AS Ci.o hz5)
       . rcases Ci.o i (by rw[e];intro h;cases h) with q | q
         . exact q
         . omega
      have y0:=h5.j.r;have y1:=(f.cell (p:=⟨n.heap.size,0,U⟩) VG).trans b0;have y2:=(f.cell (p:=⟨n.heap.size,1,U⟩) VG).trans b1;have y3:=(f.cell (p:=⟨n.heap.size,2,U⟩) VG).trans b2;have y4:=(f.cell (p:=⟨n.heap.size,3,U⟩) VG).trans b3;have y5:=(f.cell (p:=⟨n.heap.size,4,U⟩) VG).trans b4;clear hR oD h5 H;go_upto_region 6 with fail
      go_cut [] (fun wd=>xA S w g gs c k y wd)
      case first =>
       go_region_law (first | (go_simp;go_at_call 53;refine HDo.mono ?_;rintro e w9 ⟨⟨jE,gZ,n9,rfl,lT,kL⟩,kK,qO⟩;have Wj:=aa (HDn w9 kK qO);clear lT kL kK qO))
       all_goals
        go_wp2;go_meet;exact Wj.o
      case rest =>
       have HC:=aa hcut;go_wp2;go_ret;exact⟨rfl,HC.o⟩
end
section
variable {w0 w:X} {S:Nat->Prop} {g gs:Nat} {s:av} {c:Nat->cY}
def uD:List Value:=[Q U,V ⟨#[]⟩,V ⟨#[]⟩,I J 0,Z U 0 0,I J 0,Z U 0 0]
theorem pg.e (h:aT w S gs s):pg (fun k=>(S k∧k<w.heap.size)∨k=w.heap.size) (w.alloc (K (kX gs (fun _=>uD)).toArray 89)) w.heap.size gs s 0 (w.alloc (K (kX gs (fun _=>uD)).toArray 89)):=by
 have l:=(ar _ w).alloc (am _) (K (kX gs (fun _=>uD)).toArray 89);classical
 refine⟨⟨fun k=>if k=w.heap.size then .row else if S k∧k<w.heap.size then .jc else .out,fun _=>uD,fun _=>pD 0,fun d=>?_,fun k a=>absurd a (oW k),fun k a=>?_⟩,ak.r _ _⟩
 . cases d with
   | row=>exact⟨⟨be w _,fun _ _=>rfl⟩,if_pos rfl⟩
   | jc=>exact aT.a ((aT.a h (S':=fun k=>S k∧k<w.heap.size) (fun k a e=>⟨e,a⟩)).e l) (fun k _ e=>by
    show(if k=w.heap.size then lZ.row else if S k∧k<w.heap.size then .jc else .out)=.jc;rw[if_neg (by have:=e.2;omega),if_pos e])
   | rq j=>exact fun b=>absurd b (oW j)
   | fl j=>exact⟨fun b=>absurd b (oW j),trivial⟩
   | bd j=>exact fun b=>absurd b (oW j)
   | ret=>trivial
   | out=>trivial
 . simp only at a;by_cases f:k=w.heap.size
   . exact A (R f)
   . rw[if_neg f] at a;by_cases i:S k∧k<w.heap.size
     . exact A (A i)
     . rw[if_neg i] at a;exact absurd rfl a
theorem Sy (h:aT w S gs s):
 Calls prog 12 #[Q (M ⟨gs,0,U⟩)] w fun e w'=>e=Y (Q (M ⟨w.heap.size,0,U⟩))∧gj w' (ay S w) w.heap.size gs s (fun _=>eL)∧ak S w w':=by
 have b:=(ar _ w).alloc (am _) (K (kX gs (fun _=>uD)).toArray 89);go_enter func12,ntmps12;go_wp2_with fail;refine(C9 (pg.e h)).mono ?_;rintro e d ⟨rfl,f,i⟩;have a:gj d (ay S w) w.heap.size gs s (fun _=>eL)∧ak S w d:=by
  have j:=b.size;refine⟨f.a (fun k _ e=>?_),(ak.e b).a i (fun k e l=>?_)⟩
  . rcases e with (e | e) | e
    . exact A e.1
    . exact R (by omega)
    . exact R (by omega)
  . rcases e with e | e
    . exact e.1
    . omega
 go_wp2;go_ret;exact⟨rfl,a⟩
end
section
variable {w0 w w':X} {S:Nat->Prop} {p g gs N:Nat} {P:cu}
theorem dr.jL (t:di w0)(u:Below w0.heap.size w0 w)(v:∀i,S i->w0.heap.size<=i)(h:dr w S p g gs P)(ok:jI P N)(k:Int)(l:ab){bo:ag}{fV n:Nat}(x:az w bo fV l)(y:l≠[]->∀a,bo=M a->¬S a.block)(z:l.length=n)(L:N+n<=20000):
 Calls prog 16 #[Q (M ⟨g,0,U⟩),I J k,Z bo n fV] w fun e w'=>∃ao cap m,e=Y (.tuple #[Z ao m cap,I J ((kO P k l).2.a:Int)])∧m=(kO P k l).2.b.length∧az w' ao cap (kO P k l).2.b∧oB S w p g gs (kO P k l).1 w':=by
 unfold kO;by_cases b:pE k
 . rw[if_pos b];obtain⟨T,B,d,_,C⟩:=h.j;have W:=b.1;have h4:=b.2
   obtain⟨j,rfl⟩:∃j:Nat,k=j:=⟨k.toNat,by omega⟩;rw[Int.toNat_natCast];refine(RA t u (fun i e=>v i (d i e)) B ok.s j (by omega) (ok.c j) l x (fun f a e q=>y f a e (d _ q)) z (by have:=ok.a j;omega)).mono ?_;rintro e D ⟨⟨ao,cap,m,rfl,G,H⟩,o,r⟩;refine⟨ao,cap,m,?_,G,H,C _ _ _ o r,r.f d⟩;split <;> rfl
 . rw[if_neg b];refine(MT k (by unfold pE at b;omega) bo fV n w).mono ?_;rintro e D ⟨rfl,rfl⟩;exact⟨U,0,0,rfl,rfl,az.e _,h.f (fun _ _ e=>A e),ak.r _ _⟩
theorem dr.jZ (l:di w0)(m:Below w0.heap.size w0 w)(n:∀i,S i->w0.heap.size<=i)(h:dr w S p g gs P)(ok:jI P N)(t:N<=20000)(k:Int):
 Calls prog 14 #[Q (M ⟨g,0,U⟩),I J k] w fun e w'=>e=Y (I J ((lz P k).2.a:Int))∧oB S w p g gs (lz P k).1 w':=by
 unfold lz;by_cases a:pE k
 . rw[if_pos a];obtain⟨u,o,d,_,q⟩:=h.j;have v:=a.1;have x:=a.2
   obtain⟨j,rfl⟩:∃j:Nat,k=j:=⟨k.toNat,by omega⟩;rw[Int.toNat_natCast];refine(Q7 l m (fun i e=>n i (d i e)) o ok.s j (by omega) (ok.c j) (by have:=ok.a j;omega)).mono ?_;rintro e r ⟨rfl,b,f⟩;exact⟨rfl,q _ _ _ b f,f.f d⟩
 . rw[if_neg a];refine(MV k (by unfold pE at a;omega) w).mono ?_;rintro e r ⟨rfl,rfl⟩;exact⟨rfl,h.f (fun _ _ e=>A e),ak.r _ _⟩
theorem dr.E (h:dr w S p g gs P)(ok:aK P.s)(n:Int):Calls prog 73 #[Q (M ⟨gs,0,U⟩),I J n] w fun e w'=>e=Y (.tuple #[])∧oB S w p g gs ⟨gX P.s n,P.c,P.a⟩ w':=by
 obtain⟨B,b,d,_,f⟩:=h.e;exact(M0 b ok n).mono fun e w' ⟨i,a⟩=>⟨i,f _ _ a.b a.a,a.a.f d⟩
theorem dr.lH (h:dr w S p g gs P):Calls prog 47 #[Q (M ⟨g,0,U⟩)] w fun e w'=>e=Y (.tuple #[])∧oB S w p g gs ⟨P.s,fun _=>eL,P.a⟩ w':=by
 obtain⟨j,b,c,_,d⟩:=h.j;exact(C9 (pg.a b)).mono fun e w' ⟨f,i,a⟩=>⟨f,d _ _ _ i a,a.f c⟩
theorem N5 (P:cu)(k:Int)(l:ab):(kO P k l).2.c=[]∧(kO P k l).1.a=P.a:=by
 unfold kO;split <;> exact⟨rfl,rfl⟩
theorem N6 (P:cu)(k:Int):(lz P k).2.c=[]∧(lz P k).2.b=[]∧(lz P k).1.a=P.a:=by
 unfold lz;split <;> exact⟨rfl,rfl,rfl⟩
theorem Ty (h:dr w S p g gs P)(o:Obj):bW (il p g gs P.c P.a) S w 0 [o,rE] P.s (fun k=>S k∧k<w.heap.size) ((w.alloc o).alloc (K #[I J 0,Z U 0 0,Z U 0 0] 70)) :=
 ((bW.G lX (s:=P.s) h).q lX rfl (fun _ e=>e.2) o).q lX (by rw[bu];rfl) (fun k e=>by rw[bu];have:=e.2;omega) _
theorem SI (hP:di w0)(hW:Below w0.heap.size w0 w)(hF:∀i,S i->w0.heap.size<=i)(h:dr w S p g gs P)(ok:jI P N)(htr:P.a.length<=1000000)(x:kN){bo:ag}{fV nb:Nat}(hB:az w bo fV x.b)(tT:x.b≠[]->∀a,bo=M a->¬S a.block)(hn:x.b.length=nb)(hl:N+nb<=20000):
 Calls prog 28 #[Q (M ⟨p,0,U⟩),.agg #[I J x.c,I J x.a,I J x.n,Z bo nb fV]] w fun e w'=>qt S w p g gs (gR P x) e w':=by
 obtain⟨d,hR⟩:∃d,d=gR P x:=⟨_,rfl⟩;rw[<-hR];unfold gR at hR;have T2:=Ty h (K #[I J x.c,I J x.a,I J x.n,Z bo nb fV] 73 (0,0));have hb2:Below w.heap.size w ((w.alloc (K #[I J x.c,I J x.a,I J x.n,Z bo nb fV] 73)).alloc (K #[I J 0,Z U 0 0,Z U 0 0] 70)):=au ((ar _ w).alloc (am _) _) ((ar _ _).alloc (am _) _);have hB2:=hB.a hb2;have hW2:=au hW hb2;have HP:=aa hP;have HF:=aa hF;have z:=aa hR
 obtain⟨B,hkd⟩:∃B,x.c=B:=⟨_,rfl⟩;rw[hkd] at z T2 hB2 hW2 ⊢;clear hb2 hR hP hF hB hW h;go_enter func28,ntmps28;go_upto_region 1 with fail
 generalize ((w.alloc (K #[I J B,I J x.a,I J x.n,Z bo nb fV] 73)).alloc (K #[I J 0,Z U 0 0,Z U 0 0] 70))=t at *;have G:=T2.B 0 rfl;have k0:=aq t _ 0 _ _ _ G;have k1:=aq t _ 1 _ _ _ G;have k2:=aq t _ 2 _ _ _ G;have k3:=aq t _ 3 _ _ _ G;simp at k0 k1 k2 k3;obtain⟨c0,c1⟩:=dr.a T2.b;have r:=aa T2;have HB2:=aa hB2;have HW2:=aa hW2
 clear T2 G hB2 hW2;by_cases h1:B=1
 . subst h1;rw[if_pos rfl] at z;have l:=N5 P x.a x.b;have H:=r.o.a lX (bg t.heap.size _);have Wp:=dr.jL (w:=t.drew) (N:=N) HP.o (au HW2.o (bg _ _)) (fun i e=>HF.o i e.1) H.b ok x.a x.b (HB2.o.a (bg _ _)) (fun hne a e q=>tT hne a e q.1) hn hl;rw[<-z.o] at Wp l;have L:Hid (∀j,oB (fun k=>S k∧k<w.heap.size) t.drew p g gs d.1 j->∃C,bW (il p g gs d.1.c d.1.a) S w 0 [K #[I J 1,I J x.a,I J x.n,Z bo nb fV] 73 (0,0),rE] d.1.s C j):=fun j f=>⟨_,H.E (O':=il p g gs d.1.c d.1.a) f.a (fun _ e=>e) f.b⟩;have MS:=aa l;clear H l;go_upto_region 3 with fail
   go_cut [5,6] (fun v5 v6 wd=>∃(ao:ag) (u m:Nat) (C:Nat->Prop),v5=Z ao m u∧v6=I J (d.2.a:Int)∧m=d.2.b.length∧az wd ao u d.2.b∧bW (il p g gs d.1.c d.1.a) S w 0 [K #[I J 1,I J x.a,I J x.n,Z bo nb fV] 73 (0,0),rE] d.1.s C wd)
   case first =>
    go_region_law (first | (go_simp;go_at_call 16;refine Wp.mono ?_;rintro e j ⟨ao,u,m,rfl,hm,hI,f⟩;have HM:=aa hm;have HI:=aa hI;have HD:=aa (L.o j f);clear hm hI f))
    all_goals
     go_wp2;go_meet;obtain⟨C,hA⟩:=HD.o;exact⟨ao,u,m,C,rfl,rfl,HM.o,HI.o,hA⟩
   case rest =>
    obtain⟨ao,u,m,C,rfl,rfl,hm,hI,T⟩:=hcut;obtain⟨⟨z0,z1,z2,f0,f1,f2⟩,W⟩:=T.r (ar _ _) (i:=1) rfl (b:=w.heap.size+1) rfl d.2 (ci:=(d.2.a:Int)) rfl (ao:=ao) (jC:=u) (an:=m) (uo:=U) (gQ:=0) (un:=0) hm (by rw[MS.o.1];rfl) hI (by rw[MS.o.1];exact az.e _) (fun q=>absurd MS.o.1 q);clear hm hI T Wp;generalize d.2.a=D at *;go_wp2;generalize (((wc.setCell ⟨w.heap.size+1,0,U⟩ _).setCell ⟨w.heap.size+1,1,U⟩ _).setCell ⟨w.heap.size+1,2,U⟩ _)=wf at *;obtain⟨q0,q1,q2,q3⟩:=W.o;refine aS (v:=.agg #[I J (D:Int),Z ao m u,Z U 0 0]) (by simp[results,results28,go_sem,q0,q1,q2]) rfl ?_;exact q3
 by_cases h2:B=2
 . subst h2;rw[if_neg (by decide),if_pos rfl] at z;have l:=N6 P x.a;have H:=r.o.a lX (bg t.heap.size _);have HGo:=dr.jZ (w:=t.drew) (N:=N) HP.o (au HW2.o (bg _ _)) (fun i e=>HF.o i e.1) H.b ok (by omega) x.a;rw[<-z.o] at HGo l;obtain⟨D,hcd⟩:∃D,d.2.a=D:=⟨_,rfl⟩;rw[hcd] at HGo;have L:Hid (∀j,oB (fun k=>S k∧k<w.heap.size) t.drew p g gs d.1 j->_):=fun j f=>(H.E (O':=il p g gs d.1.c d.1.a) f.a (fun _ e=>e) f.b).r (ar _ _) (i:=1) rfl (b:=w.heap.size+1) rfl d.2 (ci:=(D:Int)) (by rw[hcd]) (ao:=U) (jC:=0) (an:=0) (uo:=U) (gQ:=0) (un:=0) (by rw[l.2.1];rfl) (by rw[l.1];rfl) (by rw[l.2.1];exact az.e _) (by rw[l.1];exact az.e _) (fun q=>absurd l.1 q);clear H l hcd;have t1:((2:Int)==1)=F:=rfl;go_upto_region 6 with fail
   go_cut [] (fun wd=>wd.cell? ⟨w.heap.size+1,0,U⟩=M (I J (D:Int))∧wd.cell? ⟨w.heap.size+1,1,U⟩=M (Z U 0 0)∧wd.cell? ⟨w.heap.size+1,2,U⟩=M (Z U 0 0)∧qt S w p g gs d (Y (.agg #[I J (D:Int),Z U 0 0,Z U 0 0])) wd)
   case first =>
    go_region_law (first | (go_simp;go_at_call 14;refine HGo.mono ?_;rintro e j ⟨rfl,f⟩;obtain⟨⟨z0,z1,z2,f0,f1,f2⟩,W⟩:=L.o j f;clear f))
    all_goals
     go_wp2;go_meet;exact W.o
   case rest =>
    obtain⟨q0,q1,q2,q3⟩:=hcut;go_wp2;refine aS (v:=.agg #[I J (D:Int),Z U 0 0,Z U 0 0]) (by simp[results,results28,go_sem,q0,q1,q2]) rfl ?_;exact q3
 by_cases h3:B=3
 . subst h3;rw[if_neg (by decide),if_neg (by decide),if_pos rfl] at z;have y:=Sx (w:=t) HP.o HW2.o (fun i e=>HF.o i e.1) r.o.b ok.s htr x.n;rw[<-z.o] at y;have L:Hid (∀e j,qt (fun k=>S k∧k<w.heap.size) t p g gs d e j->∃(ao uo:ag) (jC an gQ un:Nat),e=Y (.agg #[I J (d.2.a:Int),Z ao an jC,Z uo un gQ])∧_):=fun e j f=>by
    obtain⟨⟨ao,uo,jC,an,gQ,un,he,han,hun,hI1,hI2,C,hA,hAs,hAu⟩,hat,T⟩:=f;exact⟨ao,uo,jC,an,gQ,un,he,(r.o.E (O':=il p g gs d.1.c d.1.a) hA hAs T).r (ar _ _) (i:=1) rfl (b:=w.heap.size+1) rfl d.2 (ci:=(d.2.a:Int)) rfl (ao:=ao) (jC:=jC) (an:=an) (uo:=uo) (gQ:=gQ) (un:=un) han hun hI1 hI2 (fun q a e=>by obtain⟨h1,h2⟩:=hAu q a e;have:=r.o.c;exact⟨by omega,h2⟩)⟩
   go_wp2_with fail;refine y.mono ?_;intro e j f;obtain⟨ao,uo,jC,an,gQ,un,rfl,⟨z0,z1,z2,f0,f1,f2⟩,W⟩:=L.o e j f;clear f L y;generalize d.2.a=D at *;go_wp2;generalize (((j.setCell ⟨w.heap.size+1,0,U⟩ _).setCell ⟨w.heap.size+1,1,U⟩ _).setCell ⟨w.heap.size+1,2,U⟩ _)=wf at *;obtain⟨q0,q1,q2,q3⟩:=W.o;refine aS (v:=.agg #[I J (D:Int),Z ao an jC,Z uo un gQ]) (by simp[results,results28,go_sem,q0,q1,q2]) rfl ?_;exact q3
 by_cases h4:B=4
 . subst h4;rw[if_neg (by decide),if_neg (by decide),if_neg (by decide),if_pos rfl] at z;have y:=Q6 (w:=t) r.o.b ok.s x.n;rw[<-z.o] at y;have L:Hid (∀e j,qt (fun k=>S k∧k<w.heap.size) t p g gs d e j->∃(ao uo:ag) (jC an gQ un:Nat),e=Y (.agg #[I J (d.2.a:Int),Z ao an jC,Z uo un gQ])∧_):=fun e j f=>by
    obtain⟨⟨ao,uo,jC,an,gQ,un,he,han,hun,hI1,hI2,C,hA,hAs,hAu⟩,hat,T⟩:=f;exact⟨ao,uo,jC,an,gQ,un,he,(r.o.E (O':=il p g gs d.1.c d.1.a) hA hAs T).r (ar _ _) (i:=1) rfl (b:=w.heap.size+1) rfl d.2 (ci:=(d.2.a:Int)) rfl (ao:=ao) (jC:=jC) (an:=an) (uo:=uo) (gQ:=gQ) (un:=un) han hun hI1 hI2 (fun q a e=>by obtain⟨h1,h2⟩:=hAu q a e;have:=r.o.c;exact⟨by omega,h2⟩)⟩
   go_wp2_with fail;refine y.mono ?_;intro e j f;obtain⟨ao,uo,jC,an,gQ,un,rfl,⟨z0,z1,z2,f0,f1,f2⟩,W⟩:=L.o e j f;clear f L y;generalize d.2.a=D at *;go_wp2;generalize (((j.setCell ⟨w.heap.size+1,0,U⟩ _).setCell ⟨w.heap.size+1,1,U⟩ _).setCell ⟨w.heap.size+1,2,U⟩ _)=wf at *;obtain⟨q0,q1,q2,q3⟩:=W.o;refine aS (v:=.agg #[I J (D:Int),Z ao an jC,Z uo un gQ]) (by simp[results,results28,go_sem,q0,q1,q2]) rfl ?_;exact q3
 by_cases h5:B=5
 . subst h5;rw[if_neg (by decide),if_neg (by decide),if_neg (by decide),if_neg (by decide),if_pos rfl] at z;have H:=r.o.a lX (bg t.heap.size _);have Ms:=dr.E (w:=t.drew) H.b ok.s x.n;have L:Hid (∀j,oB (fun k=>S k∧k<w.heap.size) t.drew p g gs ⟨gX P.s x.n,P.c,P.a⟩ j->∃C,bW (il p g gs P.c P.a) S w 0 [K #[I J 5,I J x.a,I J x.n,Z bo nb fV] 73 (0,0),rE] (gX P.s x.n) C j):=fun j f=>⟨_,H.j (O:=il p g gs P.c P.a) f.a f.b⟩;clear H;go_upto_region 12 with fail
   go_cut [] (fun wd=>∃C,bW (il p g gs P.c P.a) S w 0 [K #[I J 5,I J x.a,I J x.n,Z bo nb fV] 73 (0,0),rE] (gX P.s x.n) C wd)
   case first =>
    go_region_law (first | (go_simp;go_at_call 73;refine Ms.mono ?_;rintro e j ⟨rfl,f⟩;have HD:=aa (L.o j f);clear f))
    all_goals
     go_wp2;go_meet;exact HD.o
   case rest =>
    obtain⟨C,T⟩:=hcut;have HRe:=dr.lH (w:=wc) T.b;obtain⟨y0,y1⟩:=dr.a T.b;have HT:=aa T;clear T c0 c1 k0 k1 k2 k3;go_wp2_with fail;refine HRe.mono ?_;rintro e w4 ⟨rfl,f⟩;obtain⟨⟨z0,z1,z2,f0,f1,f2⟩,W⟩:=(HT.o.E (O':=il p g gs (fun _=>eL) P.a) f.a (fun _ e=>e) f.b).r (ar _ _) (i:=1) rfl (b:=w.heap.size+1) rfl ⟨0,[],[]⟩ (ci:=0) rfl (ao:=U) (jC:=0) (an:=0) (uo:=U) (gQ:=0) (un:=0) rfl rfl (az.e _) (az.e _) (fun q=>absurd rfl q);clear f y0 y1;go_wp2;generalize (((w4.setCell ⟨w.heap.size+1,0,U⟩ _).setCell ⟨w.heap.size+1,1,U⟩ _).setCell ⟨w.heap.size+1,2,U⟩ _)=wf at *;obtain⟨q0,q1,q2,q3⟩:=W.o;refine aS (v:=.agg #[I J 0,Z U 0 0,Z U 0 0]) (by simp[results,results28,go_sem,q0,q1,q2]) rfl ?_;rw[z.o];exact q3
 . rw[if_neg h1,if_neg h2,if_neg h3,if_neg h4,if_neg h5] at z;have t1:(B==1)=F:=aO.2 h1;have t2:(B==2)=F:=aO.2 h2;have t3:(B==3)=F:=aO.2 h3;have t4:(B==4)=F:=aO.2 h4;have t5:(B==5)=F:=aO.2 h5;obtain⟨⟨z0,z1,z2,f0,f1,f2⟩,W⟩:=r.o.r (ar _ _) (i:=1) rfl (b:=w.heap.size+1) rfl ⟨11,[],[]⟩ (ci:=11) rfl (ao:=U) (uo:=U) (jC:=0) (gQ:=0) (an:=0) (un:=0) rfl rfl (az.e _) (az.e _) (fun q=>absurd rfl q);go_wp2;generalize (((t.setCell ⟨w.heap.size+1,0,U⟩ _).setCell ⟨w.heap.size+1,1,U⟩ _).setCell ⟨w.heap.size+1,2,U⟩ _)=wf at *;obtain⟨q0,q1,q2,q3⟩:=W.o;refine aS (v:=.agg #[I J 11,Z U 0 0,Z U 0 0]) (by simp[results,results28,go_sem,q0,q1,q2]) rfl ?_;rw[z.o];exact q3
end
theorem dr.kW {w:X}{b:Nat->Prop}{g gs:Nat}(h:gj w b g gs iX (fun _=>eL)):dr (w.alloc (K #[Q (M ⟨g,0,U⟩),Z U 0 0] 78)) (fun k=>(b k∧k<w.heap.size)∨k=w.heap.size) w.heap.size g gs mZ:=by
 have j:=(ar _ w).alloc (am _) (K #[Q (M ⟨g,0,U⟩),Z U 0 0] 78);classical
 refine⟨fun k=>if k=w.heap.size then .row else if b k∧k<w.heap.size then .gate else .out,U,0,fun d=>?_,fun k c=>?_⟩
 . cases d with
   | row=>exact⟨be w _,if_pos rfl⟩
   | gate=>exact gj.a ((h.a (S':=fun k=>b k∧k<w.heap.size) (fun k c e=>⟨e,c⟩)).j j) (fun k _ e=>by
    show(if k=w.heap.size then xM.row else if b k∧k<w.heap.size then .gate else .out)=.gate;rw[if_neg (by have:=e.2;omega),if_pos e])
   | tr=>exact⟨aL.q _ _ _ _,fun a e=>by cases e⟩
   | out=>trivial
 . simp only at c;by_cases f:k=w.heap.size
   . exact R f
   . rw[if_neg f] at c;by_cases i:b k∧k<w.heap.size
     . exact A i
     . rw[if_neg i] at c;exact absurd rfl c
theorem Q8 (w:X):
 Calls prog 27 #[] w fun e w'=>∃p g gs,e=Y (Q (M ⟨p,0,U⟩))∧dr w' (fun k=>w.heap.size<=k∧k<w'.heap.size) p g gs mZ∧Below w.heap.size w w':=by
 go_enter func27,ntmps27;go_wp2_with fail;refine(QI w).mono ?_;rintro e f ⟨gs,rfl,j,l⟩;have a:=aa l;go_wp2_with fail;refine(Sy j).mono ?_;rintro e i ⟨rfl,b,m⟩;have s:=a.o.size;have u:=m.b;have c:=a.o.trans (m.below (B:=w.heap.size) (fun k e=>e) s);have q:=aa (dr.kW b);have n:=aa (au c ((ar _ i).alloc (am _) (K #[Q (M ⟨f.heap.size,0,U⟩),Z U 0 0] 78)));have d:Hid (dr (i.alloc (K #[Q (M ⟨f.heap.size,0,U⟩),Z U 0 0] 78)) (fun k=>w.heap.size<=k∧k<(i.alloc (K #[Q (M ⟨f.heap.size,0,U⟩),Z U 0 0] 78)).heap.size) i.heap.size f.heap.size gs mZ):=q.o.f (fun k t e=>⟨by
  rcases e with e | e
  . rcases e.1 with r | r
    . exact r
    . omega
  . omega,t⟩)
 clear b m c q;go_wp2;go_ret;exact⟨_,_,gs,rfl,d.o,n.o⟩
theorem zf (x y:ae)(a:x.size+y.size<=99999999999):(([32]:ab).intercalate ([x,y].map (·.data.toList))).length<=100000000000:=by
 have:=cA x;have:=cA y
 simp[List.intercalate,List.intersperse] at *;omega
theorem za {W:X}(x y:ae)(t:Nat):∀(j:Nat) z,[x,y][j]? = M z->(W.alloc (K #[V x,V y] t (0,0))).cell? ⟨W.heap.size,j,U⟩=M (V z):=fun j z a=>by
 match j,a with
 | 0,a=>injection a with a;subst a;exact aq _ _ 0 _ _ _ (be W _)
 | 1,a=>injection a with a;subst a;exact aq _ _ 1 _ _ _ (be W _)
 | j+2,a=>simp at a
theorem Sq (w:X)(o:mn){ao uo:ag}{jC an gQ un:Nat}(ha:an=o.b.length)(S:un=o.c.length)(T:az w ao jC o.b)(W:az w uo gQ o.c)(hP:di w)(hc:o.a<1000000000)(hz1:an<=1000000000)(hz2:un<=1000000000):
 Calls prog 143 #[.agg #[I J (o.a:Int),Z ao an jC,Z uo un gQ]] w fun e w'=>e=Y (V ⟨(rO o).toArray⟩)∧Below w.heap.size w w':=by
 have i:=(ar _ w).alloc (am _) (K #[I J (o.a:Int),Z ao an jC,Z uo un gQ] 70);have t:(w.alloc (K #[I J (o.a:Int),Z ao an jC,Z uo un gQ] 70)).heap[w.heap.size]? = _:=be w _;obtain⟨⟨z0,z1,z2⟩,_⟩:=ss t;have HA:=aa (T.a i);have HU:=aa (W.a i);have HP:=aa (hP.a i);have p:=aa i
 obtain⟨k,b⟩:∃k,rO o=k:=⟨_,rfl⟩;rw[b];unfold rO at b;have G:=aa ha;have H:=aa S
 clear i t T W hP ha S;obtain⟨m,out,q⟩:=o;simp only at *;by_cases h0:m≠0
 . rw[if_pos h0] at b;have t0:((m:Int) != 0)=true:=by rw[dh];omega
   have HI:=mD m hc _ HP.o;have hl:=(gz 8 m).1;have u:Hid (k=fN ([⟨#[110,111]⟩,⟨(bw 8 m).toArray⟩].map (fun x:ae=>x.data.toList))):=b.symm;have hz:(⟨(bw 8 m).toArray⟩:ae).size<=9:=by show(bw 8 m).toArray.size<=9;rw[cx];exact hl
   clear b hl;generalize (⟨(bw 8 m).toArray⟩:ae)=d at *;go_enter func143,ntmps143;go_wp2_with fail;generalize w.alloc (K #[I J (m:Int),Z ao an jC,Z uo un gQ] 70)=n at *;refine HI.mono ?_;rintro e l ⟨rfl,a⟩;have c:=pZ [⟨#[110,111]⟩,d] l.heap.size 2 (l.alloc (K #[V ⟨#[110,111]⟩,V d] 9)) rfl (by decide) (za _ _ _) (zf _ _ (by show 2+_<=_;omega)) (by decide);have f:=aa (au p.o (au a ((ar _ l).alloc (am _) (K #[V ⟨#[110,111]⟩,V d] 9))));rw[<-u.o] at c;clear a HI;go_wp2_with fail;refine c.mono ?_;rintro e L ⟨rfl,a⟩;have g:=aa (au f.o a);clear a c;go_wp2;go_ret;exact⟨rfl,g.o⟩
 . rw[if_neg h0] at b;obtain rfl:m=0:=by omega
   by_cases v:q≠[]
   . rw[if_pos v] at b;have y:(un:Int) > 0:=by have:=mC.2 v;have:=H.o;omega
     have r:=yz _ q uo gQ un HU.o H.o.symm (by omega);have u:Hid (k=fN ([⟨#[117,112]⟩,⟨(dd q).toArray⟩].map (fun x:ae=>x.data.toList))):=b.symm;have hz:(⟨(dd q).toArray⟩:ae).size<=4000000000:=by show(dd q).toArray.size<=_;rw[cx];have:=mN q;have:=H.o;omega
     clear b v;generalize (⟨(dd q).toArray⟩:ae)=d at *;go_enter func143,ntmps143;go_wp2_with fail;rw[Int.natCast_zero] at r p;generalize w.alloc (K #[I J 0,Z ao an jC,Z uo un gQ] 70)=n at *;refine r.mono ?_;rintro e l ⟨rfl,a⟩;have c:=pZ [⟨#[117,112]⟩,d] l.heap.size 2 (l.alloc (K #[V ⟨#[117,112]⟩,V d] 9)) rfl (by decide) (za _ _ _) (zf _ _ (by show 2+_<=_;omega)) (by decide);have f:=aa (au p.o (au a ((ar _ l).alloc (am _) (K #[V ⟨#[117,112]⟩,V d] 9))));rw[<-u.o] at c;clear a r;go_wp2_with fail;refine c.mono ?_;rintro e L ⟨rfl,a⟩;have g:=aa (au f.o a);clear a c;go_wp2;go_ret;exact⟨rfl,g.o⟩
   . rw[if_neg v] at b;have N:q=[]:=by simpa using v
     subst N;obtain rfl:un=0:=H.o;by_cases B:out≠[]
     . rw[if_pos B] at b;have y:(an:Int) > 0:=by have:=mC.2 B;have:=G.o;omega
       have r:=yz _ out ao jC an HA.o G.o.symm (by omega);have u:Hid (k=fN ([⟨#[111,117,116]⟩,⟨(dd out).toArray⟩].map (fun x:ae=>x.data.toList))):=b.symm;have hz:(⟨(dd out).toArray⟩:ae).size<=4000000000:=by show(dd out).toArray.size<=_;rw[cx];have:=mN out;have:=G.o;omega
       clear b B;generalize (⟨(dd out).toArray⟩:ae)=d at *;go_enter func143,ntmps143;go_wp2_with fail;rw[Int.natCast_zero] at r p;generalize w.alloc (K #[I J 0,Z ao an jC,Z uo 0 gQ] 70)=n at *;refine r.mono ?_;rintro e l ⟨rfl,a⟩;have c:=pZ [⟨#[111,117,116]⟩,d] l.heap.size 2 (l.alloc (K #[V ⟨#[111,117,116]⟩,V d] 9)) rfl (by decide) (za _ _ _) (zf _ _ (by show 3+_<=_;omega)) (by decide);have f:=aa (au p.o (au a ((ar _ l).alloc (am _) (K #[V ⟨#[111,117,116]⟩,V d] 9))));rw[<-u.o] at c;clear a r;go_wp2_with fail;refine c.mono ?_;rintro e L ⟨rfl,a⟩;have g:=aa (au f.o a);clear a c;go_wp2;go_ret;exact⟨rfl,g.o⟩
     . rw[if_neg B] at b;have C:out=[]:=by simpa using B
       subst C;obtain rfl:an=0:=G.o;rw[Int.natCast_zero] at p z0;go_enter func143,ntmps143;go_wp2_with fail;obtain⟨n,D⟩:∃n,w.alloc (K #[I J 0,Z ao 0 jC,Z uo 0 gQ] 70)=n:=⟨_,rfl⟩;have c:=pZ [⟨#[111,107]⟩] n.heap.size 1 (n.alloc (K #[V ⟨#[111,107]⟩] 9)) rfl (by decide) (fun j z s=>by
        match j,s with
        | 0,s=>injection s with s;subst s;exact aq _ _ 0 _ _ _ (be n _)
        | j+1,s=>simp at s) (by decide) (by decide)
       rw[show n.heap.size=w.heap.size+1 by rw[<-D];exact bu ..] at c;rw[D] at p ⊢;have f:=aa (au p.o ((ar _ n).alloc (am _) (K #[V ⟨#[111,107]⟩] 9)));refine c.mono ?_;rintro e L ⟨rfl,a⟩;have g:=aa (au f.o a);clear a c;go_wp2;go_ret;exact⟨by rw[<-b];rfl,g.o⟩
theorem qq (n:Int):(fE n).length<=10:=by
 unfold fE jf;split
 . have:=(gz 8 (-n).toNat).1;simp;omega
 . have:=(gz 8 n.toNat).1;omega
theorem Jf (a b c d e f:ae)(g:a.size+b.size+c.size+d.size+e.size+f.size<=900000):(([32]:ab).intercalate ([a,b,c,d,e,f].map (·.data.toList))).length<=100000000000:=by
 have:=cA a;have:=cA b;have:=cA c;have:=cA d;have:=cA e;have:=cA f
 simp[List.intercalate,List.intersperse] at *;omega
theorem I4 {W:X}(a b c d e f:ae)(t:Nat):∀(j:Nat) z,[a,b,c,d,e,f][j]? = M z->(W.alloc (K #[V a,V b,V c,V d,V e,V f] t (0,0))).cell? ⟨W.heap.size,j,U⟩=M (V z):=fun j z g=>by
 have h:=be W (K #[V a,V b,V c,V d,V e,V f] t (0,0));match j,g with
 | 0,g=>injection g with g;subst g;exact aq _ _ 0 _ _ _ h
 | 1,g=>injection g with g;subst g;exact aq _ _ 1 _ _ _ h
 | 2,g=>injection g with g;subst g;exact aq _ _ 2 _ _ _ h
 | 3,g=>injection g with g;subst g;exact aq _ _ 3 _ _ _ h
 | 4,g=>injection g with g;subst g;exact aq _ _ 4 _ _ _ h
 | 5,g=>injection g with g;subst g;exact aq _ _ 5 _ _ _ h
 | j+6,g=>simp at g
theorem Hl {W:X}{g t:Nat}{a b c d e:Value}(h:W.heap[g]? = M (K #[a,b,c,d,e] t (0,0))):W.cell? ⟨g,0,U⟩=M a∧W.cell? ⟨g,1,U⟩=M b∧W.cell? ⟨g,2,U⟩=M c∧W.cell? ⟨g,3,U⟩=M d∧W.cell? ⟨g,4,U⟩=M e :=
 ⟨aq W g 0 _ _ _ h,aq W g 1 _ _ _ h,aq W g 2 _ _ _ h,aq W g 3 _ _ _ h,aq W g 4 _ _ _ h⟩
theorem CD {u:aN}(a:u.d.size<=100):(jz u).length<=500:=by
 have:=qq u.c;have:=qq u.a;have:=qq u.e;have:=mN u.d.data.toList;have:=cA u.d;have:=(gz 8 u.b.length).1
 unfold jz fN jf;simp[List.intercalate,List.intersperse] at *;omega
theorem I1 (n:Nat):fE (n:Int)=jf n:=by unfold fE;rw[if_neg (by omega)];rfl
theorem wm:∀(l:List aN) (k:Nat),l.length<=k->(∀u∈l,u.d.size<=100)->(l.flatMap jz).length<=500*k
 | [],_,_,_=>ax _
 | u::r,0,h,_=>by simp at h
 | u :: r, k + 1, h, hu => by
   have b:=CD (hu u (lO ..));have c:=wm r k (by simp at h;omega) (fun v a=>hu v (iN _ a));rw[oi,aD];omega
structure CS (u:aN):Prop where
 a:(fE u.c).length<=10
 b:(fE u.a).length<=10
 c:(fE (u.b.length:Int)).length<=10
 d:(fE u.e).length<=10
 e:(dd u.d.data.toList).length<=400
theorem I5 {u:aN}(h:CS u):(⟨#[117,112,108,111,97,100]⟩:ae).size+(⟨(fE u.c).toArray⟩:ae).size+(⟨(fE u.a).toArray⟩:ae).size+(⟨(fE (u.b.length:Int)).toArray⟩:ae).size+(⟨(fE u.e).toArray⟩:ae).size+(⟨(dd u.d.data.toList).toArray⟩:ae).size<=900000:=by
 have:=h.a;have:=h.b;have:=h.c;have:=h.d;have:=h.e
 show 6+(fE u.c).toArray.size+(fE u.a).toArray.size+(fE (u.b.length:Int)).toArray.size+(fE u.e).toArray.size+(dd u.d.data.toList).toArray.size<=900000;simp only[cx];omega
theorem Rb {w:X}{P:Nat->Prop}{d p g gs ks:Nat}{s:aB}(hS:cC w P ks s)(ok:cM s)(hl:s.a<=100000)(hP:di w)(c0:w.cell? ⟨d,0,U⟩=M (Q (M ⟨p,0,U⟩)))(c1:w.cell? ⟨p,0,U⟩=M (Q (M ⟨g,0,U⟩)))(c2:w.cell? ⟨g,0,U⟩=M (Q (M ⟨gs,0,U⟩)))(c3:w.cell? ⟨gs,0,U⟩=M (Q (M ⟨ks,0,U⟩))):
 Calls prog 139 #[Q (M ⟨d,0,U⟩)] w fun e w'=>e=Y (V ⟨(qp s.l).toArray⟩)∧Below w.heap.size w w':=by
 have f:=(ar _ w).alloc (am _) (K #[Q U,Z U 0 0] 167);have Uj:=QH s P ks _ (hS.a f) ok.G;have hbd:=ky.f w;have sw:=aa ok;obtain⟨l,L⟩:∃l,s.l=l:=⟨_,rfl⟩;have hall:∀u∈l,-1<=u.c∧u.c<1000000000∧-1<=u.a∧u.a<1000000000∧-1<=u.e∧u.e<1000000000∧u.d.size<=100∧u.b.length<=2000:=fun u hu=>by
  rw[<-L] at hu;have y:=ok.a u hu;have:=y.f;have:=y.e;have:=y.c;have:=y.d;have:=y.g;have:=y.h
  exact⟨by omega,by omega,by omega,by omega,by omega,by omega,y.b,y.a⟩
 have mF:l.length<=12:=by rw[<-L];exact ok.b
 rw[L] at Uj ⊢;have MK:=aa hall;have yN:=aa hbd;have HP0:=aa hP;have HB1:=aa f
 obtain⟨n,hn⟩:∃n,l.length=n:=⟨_,rfl⟩;have HN:=aa hn;rw[hn] at Uj mF;have hsz1:=bu w (K #[Q U,Z U 0 0] 167);have N:=aa hsz1;have k0:=(f.cell (ch w _ c0)).trans c0;have k1:=(f.cell (ch w _ c1)).trans c1;have k2:=(f.cell (ch w _ c2)).trans c2;have k3:=(f.cell (ch w _ c3)).trans c3
 clear hall hbd f hS hP L ok hn hsz1 c0 c1 c2 c3;go_enter func139,ntmps139;go_wp2_with fail;generalize w.alloc (K #[Q U,Z U 0 0] 167)=w1 at *;refine Uj.mono ?_;rintro e S ⟨al,rfl,hU,T⟩;have hUs:=hU.a (S':=fun k=>w1.heap.size<=k∧k<S.heap.size) (fun k y e=>⟨e,y⟩);have HUs:Hid (∀W,ak (fun j=>j=w.heap.size∨S.heap.size<=j) S W->qh W al n l):=fun W H=>by
  have h:=(hUs.q H (fun k e e2=>by have:=N.o;omega)).f;exact h
 have abI:=aa ((yN.o.a (S':=fun j=>j=w.heap.size∨S.heap.size<=j) (fun k y e=>A (by have:=N.o;omega))).j T);have HB2:=aa (au HB1.o T);have Du:=aa T.size
 clear hU hUs Uj yN T HB1 k0 k1 k2 k3;go_wp2;go_loopw [21] (fun v21 wr=>∃k:Nat,k<=n∧v21=I J k∧ak (fun j=>j=w.heap.size∨S.heap.size<=j) S wr∧ky wr (fun j=>j=w.heap.size∨S.heap.size<=j) w.heap.size ((l.take k).flatMap jz)) (fun v _=>n-(intOf v).toNat)
 case atStart=>exact⟨0,ax _,rfl,ak.r _ _,abI.o⟩
 case round =>
  obtain⟨k,y,rfl,H,B⟩:=hrel;by_cases hlt:k<n
  . have hkl:k<l.length:=by rw[HN.o];exact hlt
    have hlt':(k:Int)<n:=by omega
    obtain⟨b,o,q,hal,d0,d1,d2,d3,d4,_⟩:=(HUs.o _ H).a k hkl;obtain⟨e1,e2,e3,e4,e5,e6,e7,e8⟩:=MK.o l[k] (eX hkl);have hnx:(l.take (k+1)).flatMap jz=(l.take k).flatMap jz++jz l[k]:=by rw[fR hkl,List.flatMap_append];simp
    have C:((l.take k).flatMap jz).length<=500*k:=wm _ k (by rw[bV];omega) (fun u hu=>(MK.o u (List.mem_of_mem_take hu)).2.2.2.2.2.2.1);have RL:=CD e7;subst hal;have D:=(ar _ wr).alloc (am _) (K #[I J l[k].c,I J l[k].a,V l[k].d,Z q.a l[k].b.length q.b,I J l[k].e] 92);have hzz:=bu wr (K #[I J l[k].c,I J l[k].a,V l[k].d,Z q.a l[k].b.length q.b,I J l[k].e] 92);have G:=be wr (K #[I J l[k].c,I J l[k].a,V l[k].d,Z q.a l[k].b.length q.b,I J l[k].e] 92);have jG:=H.b;have hUp:jz l[k]=fN ([⟨#[117,112,108,111,97,100]⟩,⟨(fE l[k].c).toArray⟩,⟨(fE l[k].a).toArray⟩,⟨(fE (l[k].b.length:Int)).toArray⟩,⟨(fE l[k].e).toArray⟩,⟨(dd l[k].d.data.toList).toArray⟩].map (fun x:ae=>x.data.toList)):=by rw[I1];rfl
    have l1:=qq l[k].c;have l2:=qq l[k].a;have l3:=qq (l[k].b.length:Int);have l4:=qq l[k].e;have l5:=mN l[k].d.data.toList
    have hnl:=cA l[k].d;have e9:(-1:Int)<=(l[k].b.length:Int):=by omega
    have e10:(l[k].b.length:Int)<1000000000:=by omega
    have YB:=aa (fun(z:Int) (h0:z=l[k].c∨z=l[k].a∨z=(l[k].b.length:Int)∨z=l[k].e) (W:X) (hP:di W)=>Ra z (by rcases h0 with h | h | h | h <;> omega) (by rcases h0 with h | h | h | h <;> omega) W hP);have c:=fun W=>EO (P:=prog) W l[k].d 9 31 5 underlying9 underlying31 underlying5;obtain⟨adr,c⟩:=Classical.skolem.1 c;obtain⟨wF,c⟩:=Classical.skolem.1 c;have hcv:=fun W=>(c W).1;have HwF:=aa (fun W=>(c W).2.1);have HwI:=aa (fun W=>(c W).2.2.2)
    clear c;obtain⟨zs,hzs⟩:∃zs,zs=jz l[k]:=⟨_,rfl⟩;rw[<-hzs] at hUp hnx RL;have MS:=aa hUp;have AB:=aa hnx;have HNl:=aa hnl
    have ajh:Hid (CS l[k]):=⟨l1,l2,l3,l4,by rw[hnl] at l5;omega⟩;clear hzs hUp hnx hnl l1 l2 l3 l4 l5 e8;generalize l[k]=u at *;go_upto_region 5 with fail
    obtain⟨r,hwz⟩:∃r,wr.alloc (K #[I J u.c,I J u.a,V u.d,Z q.a u.b.length q.b,I J u.e] 92)=r:=⟨_,rfl⟩;rw[hwz] at D hzz G ⊢;clear hwz d0 d1 d2 d3 d4;have HC:Hid (∀W,Below r.heap.size r W->W.cell? ⟨wr.heap.size,0,U⟩=M (I J u.c)∧W.cell? ⟨wr.heap.size,1,U⟩=M (I J u.a)∧W.cell? ⟨wr.heap.size,2,U⟩=M (V u.d)∧W.cell? ⟨wr.heap.size,3,U⟩=M (Z q.a u.b.length q.b)∧W.cell? ⟨wr.heap.size,4,U⟩=M (I J u.e)):=fun W hW=>Hl ((hW.block _ (by omega)).trans G);have Dr:Hid (∀W,Below r.heap.size r W->di W):=fun W hW=>HP0.o.a (HB2.o.trans ((H.below (fun j e=>by have:=N.o;have:=Du.o;omega) (by have:=N.o;have:=Du.o;omega)).trans ((au D hW).mono (by have:=N.o;have:=Du.o;omega))));have HBz:Hid (∀W,Below r.heap.size r W->ky W (fun j=>(j=w.heap.size∨S.heap.size<=j)∧j<wr.heap.size) w.heap.size ((l.take k).flatMap jz)):=fun W hW=>(B.a (fun j hj e=>⟨e,hj⟩)).j (au D hW);have a:Hid (Below r.heap.size r r.drew):=bg _ _;have IU:Hid (∀W t,Below r.heap.size r W->ak (fun j=>(j=w.heap.size∨S.heap.size<=j)∧j<wr.heap.size) W t->t.cell? ⟨wr.heap.size,0,U⟩=M (I J u.c)∧t.cell? ⟨wr.heap.size,1,U⟩=M (I J u.a)∧t.cell? ⟨wr.heap.size,2,U⟩=M (V u.d)∧t.cell? ⟨wr.heap.size,3,U⟩=M (Z q.a u.b.length q.b)∧t.cell? ⟨wr.heap.size,4,U⟩=M (I J u.e)):=fun W t hW H=>Hl (H.q ((hW.block _ (by omega)).trans G) (fun e=>by have:=e.2;omega));have q0:=HC.o _ (ar _ _);obtain⟨q0,q1,q2,q3,q4⟩:=q0;have HZz:=aa hzz;have HZn:=aa G;have HbZ:=aa D
    clear hzz G D;obtain⟨bs,hbs⟩:∃bs,(l.take k).flatMap jz=bs:=⟨_,rfl⟩;rw[hbs] at AB HBz C;clear hbs B;go_region_held_law (fun t=>t.cell? ⟨wr.heap.size,0,U⟩=M (I J u.c)∧t.cell? ⟨wr.heap.size,1,U⟩=M (I J u.a)∧t.cell? ⟨wr.heap.size,2,U⟩=M (V u.d)∧t.cell? ⟨wr.heap.size,3,U⟩=M (Z q.a u.b.length q.b)∧t.cell? ⟨wr.heap.size,4,U⟩=M (I J u.e))
     (first | with_reducible exact HC.o _ a.o | with_reducible exact HC.o _ (au a.o (HwF.o _)) | with_reducible exact HC.o _ (a.o.alloc a.o.size _) | with_reducible exact HCe.o)
     (first
      | (go_at_call 141;refine(YB.o _ (by first | with_reducible exact A rfl | with_reducible exact R (A rfl) | with_reducible exact R (R (A rfl)) | with_reducible exact R (R (R rfl))) _ (Dr.o _ (by first | with_reducible exact a.o | with_reducible exact au a.o (HwF.o _)))).mono ?_;rintro e v1 ⟨rfl,m⟩;(first | (have HIb:=aa (HIb.o.a m)) | (have HIb:=aa ((HwI.o _).a m)) | skip);first | (have a:=aa (au a.o m);clear m) | (have a:=aa (au (au a.o (HwF.o _)) m);clear m))
      | (go_at_call 41;refine(yz _ u.d.data.toList _ _ _ (by first | exact HIb.o | exact HwI.o _) HNl.o (by omega)).mono ?_;rintro e v1 ⟨rfl,m⟩;first | (have a:=aa (au a.o m);clear m) | (have a:=aa (au (au a.o (HwF.o _)) m);clear m))
      | (go_at_call 140;refine(pZ [⟨#[117,112,108,111,97,100]⟩,_,_,_,_,_] _ 6 _ rfl (by decide) (I4 _ _ _ _ _ _ _) (Jf _ _ _ _ _ _ (I5 ajh.o)) (by decide)).mono ?_;rintro e v1 ⟨rfl,m⟩;rw[<-MS.o];(have a:=aa (au (a.o.alloc a.o.size _) m));clear m)
      | (go_at_call 84;refine(C5 (HBz.o _ a.o) _ (by show _+zs.toArray.size<=_;rw[cx];omega)).mono ?_;rintro e v1 ⟨rfl,hd,ht⟩;have HD:=aa hd;have HT:=aa ht;have HCe:=aa (IU.o _ _ a.o ht);clear hd ht))
    all_goals
     go_wp2;refine⟨⟨k+1,by omega,by go_num,(H.a (ak.e (au HbZ.o a.o)) (fun i e _=>e)).a HT.o (fun i e _=>e.1),?_⟩,by simp[intOf];omega⟩;rw[AB.o];have hs1:=a.o.size;have hs2:=HZz.o
     exact HD.o.a (fun j _ e=>by
      rcases e with e | e
      . exact e.1
      . exact R (by omega))
  . obtain rfl:k=n:=by omega
    rw[hZ (by rw[HN.o];exact am _)] at B;have C:=wm l k (by rw[HN.o];exact am _) (fun u hu=>(MK.o u hu).2.2.2.2.2.2.1);have ZC:=C6 B (by omega);have Yg:Hid (qp l=l.flatMap jz++fN [[101,110,100]]):=rfl;have hzl:¬9223372036854775807<(l.flatMap jz).length+(fN [[101,110,100]]).length:=by rw[show(fN [[101,110,100]]).length=4 from rfl];omega
    have HBt:=aa (HB2.o.trans (H.below (fun j e=>by have:=N.o;have:=Du.o;omega) (by have:=N.o;have:=Du.o;omega)));have jG:=H.b;clear B C;generalize l.flatMap jz=bs at *;go_wp2_with fail;refine ZC.mono ?_;rintro e w3 ⟨rfl,ht⟩;have HB3:=aa (HBt.o.trans (ht.below (fun j e=>by have:=N.o;have:=Du.o;omega) (by have:=N.o;have:=Du.o;omega)));have UQ:=pZ [⟨#[101,110,100]⟩] w3.heap.size 1 (w3.alloc (K #[V ⟨#[101,110,100]⟩] 9)) rfl (by decide) (fun j z hj=>by
     match j,hj with
     | 0,hj=>injection hj with hj;subst hj;exact aq _ _ 0 _ _ _ (be w3 _)
     | j+1,hj=>simp at hj) (by decide) (by decide)
    clear ht ZC;go_wp2_with fail;refine UQ.mono ?_;rintro e w4 ⟨rfl,hb4⟩;have jH:=aa (HB3.o.trans (((ar _ w3).alloc (am _) (K #[V ⟨#[101,110,100]⟩] 9)).trans (hb4.mono (by rw[bu];omega)) |>.mono HB3.o.size));clear hb4 UQ;go_wp2;go_ret;exact⟨by rw[Yg.o];exact mE (ph (by rw[jy])),jH.o⟩
