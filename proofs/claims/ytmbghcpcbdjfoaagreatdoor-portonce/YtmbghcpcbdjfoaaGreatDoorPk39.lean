import Derived.Test.YtmbghcpcbdjfoaaGreatDoorPk37
import Derived.Test.YtmbghcpcbdjfoaaGreatDoorPk36
open Go.Value renaming int->I,string->V,slice->Z,pointer->Q
open Go.IntKind renaming i64->J
open Go.Obj renaming cells->K
open Go.Ending renaming returned->Y
open Option renaming none->U,some->M
open Bool renaming false->F
open Or renaming inl->A,inr->R
open Go renaming World->X
set_option maxHeartbeats 6400000
set_option maxRecDepth 100000
open Go.Proofs.Tryz
namespace Go.Proofs.YtmbghcpcbdjfoaaGreatDoor
open Go.RowKit
structure dJ (w0:X)(κ:Nat->mw)(g gs:Nat)(s:av)(v:Nat->List Value)(c:Nat->cU)(x:Nat->lq)(z:Nat->dC)(o:dC)(w:X):Prop where
 a:fm (gc g gs s v 4 c x z o) κ w
 f:fu w0
 b:Below w0.heap.size w0 w
 d:∀i,κ i≠.out->w0.heap.size<=i
section
variable {w0 w w':X} {κ:Nat->mw} {g gs:Nat} {s s':av} {v v':Nat->List Value} {c c':Nat->cU} {x x':Nat->lq} {z:Nat->dC} {o:dC}
theorem xP {n:Nat}{d:mw}(a:∀i,κ i≠.out->w0.heap.size<=i)(b:w0.heap.size<=n):∀i,cA κ n d i≠.out->w0.heap.size<=i:=by intro l;induction l <;> grind [cA]
theorem dJ.r (a:∀k,bQ (z k))(b:bQ o)(h:dJ w0 κ g gs s v c x z o w){T N:Nat->Prop}(d:mw)(hd:d≠.out)(f:al T w w')(i:∀k,T k->κ k=d)(j:gc g gs s' v' 4 c' x' z o d w' N)(l:∀k,N k->κ k=d∨w.heap.size<=k)(m:∀e,e≠d->gc g gs s' v' 4 c' x' z o e=gc g gs s v 4 c x z o e):dJ w0 (cA κ w.heap.size d) g gs s' v' c' x' z o w' :=
 ⟨h.a.a (lK a b) f i (X':=gc g gs s' v' 4 c' x' z o) (lK a b d) j l m,h.f,h.b.trans (f.below (fun k e=>h.d k (by rw[i k e];exact hd)) h.b.size),xP h.d h.b.size⟩
theorem dJ.e (b:∀k,bQ (z k))(d:bQ o)(h:dJ w0 κ g gs s v c x z o w)(a:Below w.heap.size w w'):dJ w0 κ g gs s v c x z o w':=⟨h.a.d (lK b d) a,h.f,ar h.b a,h.d⟩
theorem dJ.jD (a:∀k,bQ (z k))(b:bQ o)(h:dJ w0 κ g gs s v c x z o w):dJ w0 (cA κ w.heap.size .out) g gs s v c x z o w:=by
 refine⟨fun d=>?_,h.f,h.b,xP h.d h.b.size⟩;exact(lK a b d).c (h.a d) (fun k f e=>(fF f).trans e)
theorem dJ.q (a:∀k,bQ (z k))(b:bQ o)(h:dJ w0 κ g gs s v c x z o w)(f:gI w' g gs v')(j:al (fun i=>i=g) w w'):dJ w0 (cA κ w.heap.size .row) g gs s v' c x z o w' :=
 h.r a b .row (by intro h;cases h) j (fun k e=>by rw[e];exact(h.a .row).2) (N:=fun k=>k=g) ⟨f,rfl⟩ (fun k e=>A (by rw[e];exact(h.a .row).2)) (fun d l=>by cases d <;> first | rfl | exact absurd rfl l)
theorem dJ.E (a:∀k,bQ (z k))(b:bQ o)(h:dJ w0 κ g gs s v c x z o w)(f:aY w' (aB (fun k=>κ k=.jl) w) gs s')(i:al (fun k=>κ k=.jl) w w'):dJ w0 (cA κ w.heap.size .jl) g gs s' v c x z o w' :=
 h.r a b .jl (by intro h;cases h) i (fun _ e=>e) f (fun _ e=>e) (fun d j=>by cases d <;> first | rfl | exact absurd rfl j)
theorem dJ.j (h:dJ w0 κ g gs s v c x z o w):gI w g gs v:=(h.a .row).1
theorem dJ.y (h:dJ w0 κ g gs s v c x z o w)(k:Nat)(hd:cf)(fo:ai)(gG:Nat)(f:jz w (fun i=>κ i=.fl k) fo gG hd.a.length (aI (bL hd.a))):dJ w0 κ g gs s v (bN c k { c k with a:=hd }) (bN x k { x k with c:=fo,d:=gG }) z o w:=by
 refine⟨fun d=>?_,h.f,h.b,h.d⟩;have a:=h.a d;cases d with
 | row=>exact a
 | jl=>exact a
 | rq j =>
   intro b;by_cases e:j=k
   . subst e;rw[dd,dd];exact a b
   . rw[em _ _ e,em _ _ e];exact a b
 | fl j =>
   refine⟨fun b=>?_,a.2⟩;by_cases e:j=k
   . subst e;rw[dd,dd];exact f
   . rw[em _ _ e,em _ _ e];exact a.1 b
 | bd j =>
   intro b;by_cases e:j=k
   . subst e;rw[dd,dd];exact a b
   . rw[em _ _ e,em _ _ e];exact a b
 | ret=>exact a
 | out=>trivial
theorem dJ.G (h:dJ w0 κ g gs s v c x z o w)(k:Nat):dJ w0 κ g gs s v (bN c k { c k with b:=[] }) (bN x k { x k with a:=U,b:=0 }) z o w:=by
 refine⟨fun d=>?_,h.f,h.b,h.d⟩;have a:=h.a d;cases d with
 | row=>exact a
 | jl=>exact a
 | rq j =>
   intro b;by_cases e:j=k
   . subst e;rw[dd,dd];exact a b
   . rw[em _ _ e,em _ _ e];exact a b
 | fl j =>
   refine⟨fun b=>?_,a.2⟩;by_cases e:j=k
   . subst e;rw[dd,dd];exact a.1 b
   . rw[em _ _ e,em _ _ e];exact a.1 b
 | bd j =>
   intro b;by_cases e:j=k
   . subst e;rw[dd,dd];exact bM.d _ _ _
   . rw[em _ _ e,em _ _ e];exact a b
 | ret=>exact a
 | out=>trivial
theorem dJ.ku (q:∀k,bQ (z k))(r:bQ o)(h:dJ w0 κ g gs s v c x z o w)(k:Nat)(t:k<4){n:ai}{p:Nat}{b:ae}(u:bM w' (fun i=>ct (c k).b (x k).a=M i∨w.heap.size<=i) 5 n p ((c k).b++b))(y:al (fun i=>ct (c k).b (x k).a=M i) w w'):dJ w0 (cA κ w.heap.size (.bd k)) g gs s v (bN c k { c k with b:=(c k).b++b }) (bN x k { x k with a:=n,b:=p }) z o w':=by
 have f:∀i,ct (c k).b (x k).a=M i->κ i=.bd k:=fun i e=>by
  unfold ct at e;split at e
  . cases e
  . rename_i l;rcases h.a (.bd k) t with ⟨_,_,B⟩ | ⟨C,_⟩
    . cases m:(x k).a with
      | none=>rw[m] at e;cases e
      | some a=>rw[m] at e;injection e with e;rw[<-e];exact B a m
    . exact absurd C l
 refine h.r q r (.bd k) (by intro h;cases h) y f (N:=fun i=>ct (c k).b (x k).a=M i∨w.heap.size<=i) ?_ (fun i e=>?_) (fun d D=>?_)
 . intro _;rw[dd,dd];exact u
 . rcases e with e | e
   . exact A (f i e)
   . exact R e
 . cases d with
   | row=>rfl
   | jl=>rfl
   | rq j =>
     by_cases e:j=k
     . subst e;simp only[gc,dd]
     . simp only[gc];rw[em _ _ e,em _ _ e]
   | fl j =>
     by_cases e:j=k
     . subst e;simp only[gc,dd]
     . simp only[gc];rw[em _ _ e,em _ _ e]
   | bd j =>
     have e:j≠k:=fun e=>D (by rw[e]);simp only[gc];rw[em _ _ e,em _ _ e]
   | ret=>rfl
   | out=>rfl
end
theorem gI.y {w:X}{g gs:Nat}{v:Nat->List Value}(h:gI w g gs v){k:Nat}(a:k<4){l n a2 p q r m:Value}(s:v k=[l,n,a2,p,q,r,m]){o:Nat}(t:1+k*7=o)(b c d e f:Value):
 gI (((((w.setCell ⟨g,o+1,U⟩ b).setCell ⟨g,o+2,U⟩ c).setCell ⟨g,o+3,U⟩ d).setCell ⟨g,o+4,U⟩ e).setCell ⟨g,o+5,U⟩ f) g gs (bN v k [l,b,c,d,e,f,m])∧al (fun i=>i=g) w (((((w.setCell ⟨g,o+1,U⟩ b).setCell ⟨g,o+2,U⟩ c).setCell ⟨g,o+3,U⟩ d).setCell ⟨g,o+4,U⟩ e).setCell ⟨g,o+5,U⟩ f):=by
 subst t;refine⟨?_,gX g [b,c,d,e,f] (1+k*7+1) w⟩;have:=((((h.d a (j:=1) (by decide) b).d a (j:=2) (by decide) c).d a (j:=3) (by decide) d).d a (j:=4) (by decide) e).d a (j:=5) (by decide) f;simp only[pw,dd,s] at this;exact this
def xp {C:Type}(κ D6:Nat->C)(n:Nat):Prop:=∀i,i<n->D6 i=κ i
theorem xp.a {C:Type}{κ a:Nat->C}{n m:Nat}(h:xp κ a n)(c:n<=m)(d:C):xp κ (cA a m d) n:=fun i b=>by rw[fF (by omega)];exact h i b
theorem xp.d {C:Type}(κ:Nat->C)(n:Nat):xp κ κ n:=fun _ _=>rfl
structure oO (w0:X)(κ:Nat->mw)(g gs:Nat)(c:Nat->cU)(z:Nat->dC)(o:dC)(k:Nat)(w:X)(G:eW)(e:Ending)(w':X):Prop where
 d:∃(ao:ai) (cap n:Nat),e=Y (Z ao n cap)∧n=G.a.length∧ay w' ao cap G.a
 b:∃D6 x',dJ w0 D6 g gs G.s (eK (bN c k ⟨(c k).c,G.c,G.b⟩) x') (bN c k ⟨(c k).c,G.c,G.b⟩) x' z o w'∧xp κ D6 w.heap.size
 a:al (fun i=>κ i=.row∨κ i=.jl∨κ i=.bd k) w w'
section
variable {w0 w:X} {κ:Nat->mw} {g gs:Nat} {s:av} {c:Nat->cU} {x:Nat->lq} {z:Nat->dC} {o:dC} {k:Nat}
theorem Iu {hd:cf}(h:iD hd){fo:ai}{gG:Nat}(a:bx w fo gG hd.a.length (aI (bL hd.a))):gz w (pL hd.a) fo gG hd.a.length :=
 ⟨a, by rw[show pL hd.a = bL hd.a from rfl]; exact om _, by have := h.a; omega, fun p b => by
  obtain⟨f,d,rfl⟩:=jT.1 b;have:=h.b f d;refine⟨?_,?_⟩
  . show f.1.toArray.size<=_;rw[cN];omega
  . show f.2.toArray.size<=_;rw[cN];omega⟩
theorem R7 (u:∀k,bQ (z k))(v:bQ o)(h:dJ w0 κ g gs s (eK c x) c x z o w)(b:k<4)(hd:cf){fo bo n:ai}{gG nf nb gF p r:Nat}(y:hd.a.length=nf)(H:jz w (fun i=>κ i=.fl k) fo gG nf (aI (bL hd.a))):
 Calls prog 44 #[Q (M ⟨g,0,U⟩),Q (M ⟨g,1+k*7,U⟩),.agg #[I J 1,V ⟨hd.c.toArray⟩,V ⟨hd.b.toArray⟩,I J (hd.e:Int),Z fo nf gG,I J hd.d,Z bo nb gF,V ⟨#[]⟩,V ⟨#[]⟩,V ⟨#[]⟩,Z n p r,I J 0]] w fun e w'=>oO w0 κ g gs c z o k w ⟨s,hd,(c k).b,[]⟩ e w':=by
 have l:=(aq _ w).alloc (ak _) (K #[I J 1,V ⟨hd.c.toArray⟩,V ⟨hd.b.toArray⟩,I J (hd.e:Int),Z fo nf gG,I J hd.d,Z bo nb gF,V ⟨#[]⟩,V ⟨#[]⟩,V ⟨#[]⟩,Z n p r,I J 0] 98);have B:=h.e u v l;have a:=B.j;have d:eK c x k=[Q (M ⟨(x k).e,0,U⟩),V ⟨(c k).a.c.toArray⟩,V ⟨(c k).a.b.toArray⟩,I J ((c k).a.e:Int),Z (x k).c (c k).a.a.length (x k).d,I J (c k).a.d,Z (x k).a (c k).b.length (x k).b]:=rfl;have L:=a.a b (j:=1) (by decide) (by rw[d];rfl);have N:=a.a b (j:=2) (by decide) (by rw[d];rfl);have T:=a.a b (j:=3) (by decide) (by rw[d];rfl);have W:=a.a b (j:=4) (by decide) (by rw[d];rfl);have c5:=a.a b (j:=5) (by decide) (by rw[d];rfl);have f1:=a.e (1+k*7+1);have f2:=a.e (1+k*7+2);have f3:=a.e (1+k*7+3);have f4:=a.e (1+k*7+4);have f5:=a.e (1+k*7+5)
 obtain⟨q,C⟩:∃q,1+k*7=q:=⟨_,rfl⟩;have D:=a.y b d C (V ⟨hd.c.toArray⟩) (V ⟨hd.b.toArray⟩) (I J (hd.e:Int)) (Z fo nf gG) (I J hd.d);rw[C] at L N T W c5 f1 f2 f3 f4 f5 ⊢;have t:=H.d (al.d (S:=fun _=>False) l) (fun _ _ e=>e);have f:∀m,gI m g gs (bN (eK c x) k [Q (M ⟨(x k).e,0,U⟩),V ⟨hd.c.toArray⟩,V ⟨hd.b.toArray⟩,I J (hd.e:Int),Z fo nf gG,I J hd.d,Z (x k).a (c k).b.length (x k).b])->al (fun i=>i=g) (w.alloc (K #[I J 1,V ⟨hd.c.toArray⟩,V ⟨hd.b.toArray⟩,I J (hd.e:Int),Z fo nf gG,I J hd.d,Z bo nb gF,V ⟨#[]⟩,V ⟨#[]⟩,V ⟨#[]⟩,Z n p r,I J 0] 98)) m->oO w0 κ g gs c z o k w ⟨s,hd,(c k).b,[]⟩ (Y (Z U 0 0)) m:=fun m hr G=>by
  have h2:=B.y k hd fo gG (by rw[y];exact t);have h3:=h2.q u v hr G;refine⟨⟨U,0,0,rfl,rfl,ay.d _⟩,⟨_,bN x k { x k with c:=fo,d:=gG },?_,(xp.d κ _).a l.size .row⟩,(al.d l).a G (fun i e _=>A (by rw[e];exact(h.a .row).2))⟩;rw[ux];have:mN ⟨(c k).c,hd,(c k).b⟩ { x k with c:=fo,d:=gG }=[Q (M ⟨(x k).e,0,U⟩),V ⟨hd.c.toArray⟩,V ⟨hd.b.toArray⟩,I J (hd.e:Int),Z fo nf gG,I J hd.d,Z (x k).a (c k).b.length (x k).b]:=by unfold mN;rw[y]
  rw[this];exact h3
 go_enter func44,ntmps44;go_wp2;go_ret;exact f _ D.1 D.2
theorem R8 (G:∀k,bQ (z k))(H:bQ o)(h:dJ w0 κ g gs s (eK c x) c x z o w)(p:k<4)(b:ae){fo bo r:ai}{gG nf nb gF t u:Nat}(hn:b.length=nb)(hB:ay w bo gF b)(hl:(c k).b.length+nb<=100000):
 Calls prog 44 #[Q (M ⟨g,0,U⟩),Q (M ⟨g,1+k*7,U⟩),.agg #[I J 2,V ⟨#[]⟩,V ⟨#[]⟩,I J 0,Z fo nf gG,I J 0,Z bo nb gF,V ⟨#[]⟩,V ⟨#[]⟩,V ⟨#[]⟩,Z r t u,I J 0]] w fun e w'=>oO w0 κ g gs c z o k w ⟨s,(c k).a,(c k).b++b,[]⟩ e w':=by
 have L:=(aq _ w).alloc (ak _) (K #[I J 2,V ⟨#[]⟩,V ⟨#[]⟩,I J 0,Z fo nf gG,I J 0,Z bo nb gF,V ⟨#[]⟩,V ⟨#[]⟩,V ⟨#[]⟩,Z r t u,I J 0] 98);have N:=(h.e G H L).e G H (bA _ _);have hg:=N.j;have hv:eK c x k=[Q (M ⟨(x k).e,0,U⟩),V ⟨(c k).a.c.toArray⟩,V ⟨(c k).a.b.toArray⟩,I J ((c k).a.e:Int),Z (x k).c (c k).a.a.length (x k).d,I J (c k).a.d,Z (x k).a (c k).b.length (x k).b]:=rfl;have c6:=hg.a p (j:=6) (by decide) (by rw[hv];rfl);have S:=N.a (.bd k) p;have HB:=(hB.a L).a (bA _ _);obtain⟨j0,T,W,hy1,hy2⟩:=info_parts il;have Hj:=T;have Jj:=aa W;have Jk:=aa hy1;have Jl:=aa hy2
 obtain⟨q,hq⟩:∃q,1+k*7=q:=⟨_,rfl⟩;have sH:∀f l d,bM d (fun i=>ct (c k).b (x k).a=M i∨(w.alloc (K #[I J 2,V ⟨#[]⟩,V ⟨#[]⟩,I J 0,Z fo nf gG,I J 0,Z bo nb gF,V ⟨#[]⟩,V ⟨#[]⟩,V ⟨#[]⟩,Z r t u,I J 0] 98)).drew.heap.size<=i) 5 f l ((c k).b++b)->al (fun i=>ct (c k).b (x k).a=M i) (w.alloc (K #[I J 2,V ⟨#[]⟩,V ⟨#[]⟩,I J 0,Z fo nf gG,I J 0,Z bo nb gF,V ⟨#[]⟩,V ⟨#[]⟩,V ⟨#[]⟩,Z r t u,I J 0] 98)).drew d->(d.cell? ⟨g,q+6,U⟩=M (Z (x k).a (c k).b.length (x k).b)∧d.frozen? ⟨g,q+6,U⟩=F)∧oO w0 κ g gs c z o k w ⟨s,(c k).a,(c k).b++b,[]⟩ (Y (Z U 0 0)) (d.setCell ⟨g,q+6,U⟩ (Z f ((c k).b.length+nb) l)):=fun f l d O4 v=>by
  have h5:=N.ku G H k p O4 v;have m:=h5.j;have hr:=m.d p (j:=6) (by decide) (Z f ((c k).b.length+nb) l);have n:al (fun i=>i=g) d (d.setCell ⟨g,1+k*7+6,U⟩ (Z f ((c k).b.length+nb) l)):=al.f _ _ _ _ rfl;have h6:=h5.q G H hr n;rw[hq] at h6 n;have y:=m.a p (j:=6) (by decide) (by rw[hv];rfl);have B:=m.e (1+k*7+6);rw[hq] at y B;have hz5:=v.b;have hza:(w.alloc (K #[I J 2,V ⟨#[]⟩,V ⟨#[]⟩,I J 0,Z fo nf gG,I J 0,Z bo nb gF,V ⟨#[]⟩,V ⟨#[]⟩,V ⟨#[]⟩,Z r t u,I J 0] 98)).drew.heap.size=w.heap.size+1:=by show(w.alloc _).heap.size=_;rw[ch]
  refine⟨⟨y,B⟩,⟨⟨U,0,0,rfl,rfl,ay.d _⟩,⟨cA (cA κ (w.alloc (K #[I J 2,V ⟨#[]⟩,V ⟨#[]⟩,I J 0,Z fo nf gG,I J 0,Z bo nb gF,V ⟨#[]⟩,V ⟨#[]⟩,V ⟨#[]⟩,Z r t u,I J 0] 98)).drew.heap.size (.bd k)) d.heap.size .row,bN x k { x k with a:=f,b:=l },?_,((xp.d κ _).a (by omega) _).a (by omega) _⟩,((al.d (ar L (bA _ _))).a v (fun i e _=>?_)).a n (fun i e _=>A (by rw[e];exact(h.a .row).2))⟩⟩
  . rw[ux];have:mN ⟨(c k).c,(c k).a,(c k).b++b⟩ { x k with a:=f,b:=l }=(eK c x k).set 6 (Z f ((c k).b.length+nb) l):=by unfold mN eK;rw[aF,hn];rfl
    rw[this];exact h6
  . have C:(c k).b≠[]:=fun e2=>by unfold ct at e;rw[if_pos e2] at e;cases e
    rcases h.a (.bd k) p with ⟨_,_,h3⟩ | ⟨h3,_⟩
    . unfold ct at e;rw[if_neg C] at e;cases ug:(x k).a with
      | none=>rw[ug] at e;cases e
      | some a=>rw[ug] at e;injection e with e;rw[<-e];exact R (R (h3 a ug))
    . exact absurd h3 C
 rw[hq] at c6 ⊢;generalize hbl:(c k).b.length=nl at *;go_enter func44,ntmps44;go_upto_region 5 with fail
 go_region_law ((refine Cn (by rfl) (.tmp 24) (.tmp 26) 31 (by rfl) 5 j0 underlying31 Hj Jj.o Jk.o Jl.o (by rfl) (by rfl) S hbl HB hn (by omega) ?_;intro bo5 D d yT v;obtain⟨⟨d6,e6⟩,hm⟩:=sH bo5 D d yT v;have HM:=aa hm;clear yT v hm))
 all_goals
  go_wp2;go_ret;exact HM.o
theorem Ty (L:∀k,bQ (z k))(N:bQ o)(h:dJ w0 κ g gs s (eK c x) c x z o w)(T:k<4)(ok:aN s)(hc:pG (c k)){fo bo p:ai}{gG nf nb gF q r:Nat}(hl:(c k).b.length<=20000):
 Calls prog 44 #[Q (M ⟨g,0,U⟩),Q (M ⟨g,1+k*7,U⟩),.agg #[I J 3,V ⟨#[]⟩,V ⟨#[]⟩,I J 0,Z fo nf gG,I J 0,Z bo nb gF,V ⟨#[]⟩,V ⟨#[]⟩,V ⟨#[]⟩,Z p q r,I J 0]] w fun e w'=>oO w0 κ g gs c z o k w (dh bq ⟨s,(c k).a,(c k).b,[]⟩ .fin) e w':=by
 have hb:=(aq _ w).alloc (ak _) (K #[I J 3,V ⟨#[]⟩,V ⟨#[]⟩,I J 0,Z fo nf gG,I J 0,Z bo nb gF,V ⟨#[]⟩,V ⟨#[]⟩,V ⟨#[]⟩,Z p q r,I J 0] 98);have f:(w.alloc (K #[I J 3,V ⟨#[]⟩,V ⟨#[]⟩,I J 0,Z fo nf gG,I J 0,Z bo nb gF,V ⟨#[]⟩,V ⟨#[]⟩,V ⟨#[]⟩,Z p q r,I J 0] 98)).heap.size=w.heap.size+1:=ch ..;have h0:=h.jD L N;have h1:=h0.e L N hb;have H0:=h;have H1:=aa h1;have j:=aa L;have W:=aa N;have u:=aa hc;have vX:=aa ok
 have HZa:=aa f;obtain⟨a,hR⟩:∃a,a=xF bq s (c k).a (c k).b:=⟨_,rfl⟩;have HG:dh bq ⟨s,(c k).a,(c k).b,[]⟩ .fin=⟨a.1,nE,[],mE a.2⟩:=by rw[hR];rfl
 have l:=aa hR;rw[HG];clear h h0 f  hR HG L N hc ok;go_enter func44,ntmps44;go_wp2_with fail;refine(zu h1.j T (rfl:eK c x k=[Q (M ⟨(x k).e,0,U⟩),V ⟨(c k).a.c.toArray⟩,V ⟨(c k).a.b.toArray⟩,I J ((c k).a.e:Int),Z (x k).c (c k).a.a.length (x k).d,I J (c k).a.d,Z (x k).a (c k).b.length (x k).b])).mono ?_;rintro e w2 ⟨rfl,hr2,kD⟩;have b:=H1.o.q j.o W.o hr2 kD;have hz2:=kD.b;have v:∀i,i=g->cA κ w.heap.size .out i=.row:=fun i e=>by rw[e];exact(H1.o.a .row).2
 have hfl:=((b.a (.fl k)).1 T).b;have hby:=bM.f (b.a (.bd k) T);have H2:=aa b;have HT2:=aa kD
 go_wp2_with fail;refine(P0 (m:=⟨(c k).a.c.toArray⟩) (t:=⟨(c k).a.b.toArray⟩) (mi:=((c k).a.e:Int)) (ln:=(c k).a.d) ⟨b.f,b.b,fun i e=>b.d i (by rw[e];intro h;cases h)⟩ (b.a .jl) vX.o b.j.q (Iu u.o.a hfl) (c k).b rfl hby hl (by show(c k).a.b.toArray.size<=_;rw[cN];have:=u.o.a.c;omega)).mono ?_;rintro e w3 ⟨⟨fo3,ah2,nf3,bo3,ah3,nb3,rfl,y,B,C,D,_,_⟩,kr,pW⟩;rw[show kV bq s ⟨(c k).a.c.toArray⟩ ⟨(c k).a.b.toArray⟩ (pL (c k).a.a) (c k).b=a from l.o.symm] at y B C D kr;rw[show kV bq s ⟨(c k).a.c.toArray⟩ ⟨(c k).a.b.toArray⟩ (pL (c k).a.a) (c k).b=a from l.o.symm];have h3:=H2.o.E j.o W.o kr pW;have hz3:=pW.b;have hsm:pI a.2:=by rw[l.o];exact Ew vX.o _ _ _ _
 have H3:=aa h3;have HT3:=aa pW
 go_wp2_with fail;refine(E8 w3 a.2 fo3 bo3 nf3 ah2 nb3 ah3 hsm y B C D (h3.f.a h3.b)).mono ?_;rintro e w4 ⟨⟨tK,d,n4,rfl,O8,G⟩,n⟩;have h4:=H3.o.e j.o W.o n;have h5:=(h4.y k nE U 0 (jz.a _ _)).G k;rw[pw,pw,dd,dd] at h5;have H:Hid (oO w0 κ g gs c z o k w ⟨a.1,nE,[],mE a.2⟩ (Y (Z tK n4 d)) w4):=by
  have f:=HZa.o;refine⟨⟨tK,d,n4,rfl,O8,G⟩,⟨_,bN x k { e:=(x k).e,c:=U,d:=0,a:=U,b:=0 },?_,(((xp.d κ w.heap.size).a (ak _) .out).a (m:=(w.alloc (K #[I J 3,V ⟨#[]⟩,V ⟨#[]⟩,I J 0,Z fo nf gG,I J 0,Z bo nb gF,V ⟨#[]⟩,V ⟨#[]⟩,V ⟨#[]⟩,Z p q r,I J 0] 98)).heap.size) (by omega) .row).a (m:=w2.heap.size) (by omega) .jl⟩,?_⟩
  . rw[ux];exact h5
  . refine(((al.d hb).a HT2.o (fun i e hi=>A ?_)).a HT3.o (fun i e hi=>R (A ?_))).a (al.d (S:=fun _=>False) n) (fun _ e _=>e.elim)
    . have:=v i e;rw[fF hi] at this;exact this
    . have e:cA (cA κ w.heap.size .out) (w.alloc (K #[I J 3,V ⟨#[]⟩,V ⟨#[]⟩,I J 0,Z fo nf gG,I J 0,Z bo nb gF,V ⟨#[]⟩,V ⟨#[]⟩,V ⟨#[]⟩,Z p q r,I J 0] 98)).heap.size .row i=.jl:=e;rw[fF (by omega),fF hi] at e;exact e
 clear h4 h5 n G v O8;go_wp2;go_ret;exact H.o
theorem RM (y:∀k,bQ (z k))(B:bQ o)(h:dJ w0 κ g gs s (eK c x) c x z o w)(hk:k<4)(a:Nat){fo bo j:ai}{gG nf nb gF l n:Nat}:
 Calls prog 44 #[Q (M ⟨g,0,U⟩),Q (M ⟨g,1+k*7,U⟩),.agg #[I J 4,V ⟨#[]⟩,V ⟨#[]⟩,I J 0,Z fo nf gG,I J 0,Z bo nb gF,V ⟨#[]⟩,V ⟨#[]⟩,V ⟨#[]⟩,Z j l n,I J (a:Int)]] w fun e w'=>oO w0 κ g gs c z o k w ⟨s,nE,[],mE (pM a)⟩ e w':=by
 have hb:=(aq _ w).alloc (ak _) (K #[I J 4,V ⟨#[]⟩,V ⟨#[]⟩,I J 0,Z fo nf gG,I J 0,Z bo nb gF,V ⟨#[]⟩,V ⟨#[]⟩,V ⟨#[]⟩,Z j l n,I J (a:Int)] 98);have p:(w.alloc (K #[I J 4,V ⟨#[]⟩,V ⟨#[]⟩,I J 0,Z fo nf gG,I J 0,Z bo nb gF,V ⟨#[]⟩,V ⟨#[]⟩,V ⟨#[]⟩,Z j l n,I J (a:Int)] 98)).heap.size=w.heap.size+1:=ch ..;have h0:=h.jD y B;have h1:=h0.e y B hb;have C:w.heap.size≠g:=by have:=h.j.f;omega
 have H1:=h1;have d:=aa y;have D:=aa B
 have G:=aa p;have mX:=bw w (K #[I J 4,V ⟨#[]⟩,V ⟨#[]⟩,I J 0,Z fo nf gG,I J 0,Z bo nb gF,V ⟨#[]⟩,V ⟨#[]⟩,V ⟨#[]⟩,Z j l n,I J (a:Int)] 98);go_enter func44,ntmps44;go_wp2_with fail;refine(zu h1.j hk (rfl:eK c x k=[Q (M ⟨(x k).e,0,U⟩),V ⟨(c k).a.c.toArray⟩,V ⟨(c k).a.b.toArray⟩,I J ((c k).a.e:Int),Z (x k).c (c k).a.a.length (x k).d,I J (c k).a.d,Z (x k).a (c k).b.length (x k).b])).mono ?_;rintro e w2 ⟨rfl,H,v⟩;have h2:=H1.q d.o D.o H v;have hz2:=v.b;have a11:=am w2 _ 11 _ _ _ (v.j mX C);have q:∀i,i=g->cA κ w.heap.size .out i=.row:=fun i e=>by rw[e];exact(H1.a .row).2
 have H2:=h2;have L:=aa v
 go_wp2_with fail;refine((fun W=>Of a W) _).mono ?_;rintro e w3 ⟨rfl,r⟩;have N:=H2.e d.o D.o r;have H3:=N;have T:=aa r
 go_wp2_with fail;refine(E8 w3 (pM a) U U 0 0 0 0 (EI a) rfl (bx.f _) rfl (ay.d _) (N.f.a N.b)).mono ?_;rintro e w4 ⟨⟨tK,b,n4,rfl,O8,t⟩,f⟩;have h4:=H3.e d.o D.o f;have h5:=(h4.y k nE U 0 (jz.a _ _)).G k;rw[pw,pw,dd,dd] at h5;have u:oO w0 κ g gs c z o k w ⟨s,nE,[],mE (pM a)⟩ (Y (Z tK n4 b)) w4:=by
  have p:=G.o;refine⟨⟨tK,b,n4,rfl,O8,t⟩,⟨_,bN x k { e:=(x k).e,c:=U,d:=0,a:=U,b:=0 },?_,((xp.d κ w.heap.size).a (ak _) .out).a (m:=(w.alloc (K #[I J 4,V ⟨#[]⟩,V ⟨#[]⟩,I J 0,Z fo nf gG,I J 0,Z bo nb gF,V ⟨#[]⟩,V ⟨#[]⟩,V ⟨#[]⟩,Z j l n,I J (a:Int)] 98)).heap.size) (by omega) .row⟩,?_⟩
  . rw[ux];exact h5
  . refine((al.d hb).a L.o (fun i e hi=>A ?_)).a (al.d (S:=fun _=>False) (ar T.o f)) (fun _ e _=>e.elim);have:=q i e;rw[fF hi] at this;exact this
 clear h4 h5 f t q O8;go_wp2;go_ret;exact u
end
def uH (ao:ai)(cap:Nat)(es:List az):dC:=fun w S=>ms w S 98 ao cap es
theorem uH.a (ao:ai)(cap:Nat)(es:List az):bQ (uH ao cap es):=⟨fun h b a=>ms.j h b a,fun h a=>ms.a h a⟩
def Ar (ao:ai)(cap:Nat)(l:ae):dC:=fun w S=>bM w S 5 ao cap l
theorem Ar.a (ao:ai)(cap:Nat)(l:ae):bQ (Ar ao cap l):=⟨fun h b a=>bM.a h b a,fun h a=>bM.e h a⟩
def tZ (k:Nat)(b:dC):Nat->dC:=fun j w S=>j=k->b w S
theorem tZ.a {k:Nat}{b:dC}(c:bQ b):∀j,bQ (tZ k b j):=fun _=>⟨fun h d a e=>c.b (h e) d a,fun h a e=>c.c (h e) a⟩
theorem ms.f {w:X}{S:Nat->Prop}{g:Nat}{ao:ai}{cap:Nat}{es:List az}(h:ms w S g ao cap es)(k:0<es.length):∃b o,ao=M ⟨b,o,U⟩∧∀j (d:j<es.length),∃s,(∀i u,(es[j].d s)[i]? = M u->w.cell? ⟨b,o+j*12+i,U⟩=M u)∧eI w S es[j] s:=by
 obtain⟨f,rfl,l,_,m⟩:=h;have n:=l.a;obtain⟨b,o,rfl,p⟩:=n.e (by rw[tV];rw[ij] at k;omega);refine⟨b,o,rfl,fun j d=>?_⟩;have a:j<f.length:=by simpa using d
 refine⟨f[j].2,fun i u c=>?_,?_⟩
 . rw[dH] at c;have q:i<12:=(fB.1 c).1;rw[<-rP _ j a i q] at c;have:=p _ _ c;rw[fC];exact this
 . rw[dH];exact(m _ (dG a)).a (fun _ _ e=>e.1)
section
variable {w0 w w':X} {κ:Nat->mw} {g gs:Nat} {s:av} {v:Nat->List Value} {c:Nat->cU} {x:Nat->lq} {z:Nat->dC} {o o':dC} {k:Nat}
theorem dJ.jK (i:∀k,bQ (z k))(j:bQ o)(a:bQ o')(h:dJ w0 κ g gs s v c x z o w){T N:Nat->Prop}(b:al T w w')(f:∀k,T k->κ k=.ret)(l:o' w' N)(m:∀k,N k->κ k=.ret∨w.heap.size<=k):dJ w0 (cA κ w.heap.size .ret) g gs s v c x z o' w' :=
 ⟨h.a.a (lK i j) b f (X':=gc g gs s v 4 c x z o') a l m (fun d n=>by cases d <;> first | rfl | exact absurd rfl n),h.f,h.b.trans (b.below (fun k e=>h.d k (by rw[f k e];intro h;cases h)) h.b.size),xP h.d h.b.size⟩
theorem UB (c:Nat->cU)(x:Nat->lq)(k:Nat)(r:bR):eK (bN c k { c k with c:=r }) x=eK c x:=by
 funext i;unfold eK bN;split
 . next h=>subst h;rfl
 . rfl
theorem dJ.jN (h:dJ w0 κ g gs s v c x jt fi w)(B:k<4){l:ae}{e:Ending}(D:Bx w (fun i=>κ i=.rq k) (x k).e (c k).c l e w'):∃ao cap n a,e=Y (Z ao n cap)∧n=(aH (dc (c k).c l)).length∧dJ w0 a g gs s v (bN c k { c k with c:=cP (c k).c l }) x (tZ k (uH ao cap ((aH (dc (c k).c l)).map aS.d))) fi w'∧al (fun i=>κ i=.rq k) w w'∧∀i,i<w.heap.size->a i=κ i∨κ i≠.out:=by
 obtain⟨ao,cap,n,G,f,H,L,N,T,hd,hS,m,q⟩:=D;obtain⟨a,r,b,h3⟩:=h.a.e (lK (fun _=>bQ.a) bQ.a) (p:=.rq k) (e:=.fl k) (by intro h;cases h) (X':=gc g gs s v 4 (bN c k { c k with c:=cP (c k).c l }) x (tZ k (uH ao cap ((aH (dc (c k).c l)).map aS.d))) fi) q (fun _ e=>e) (P:=G) (E:=f) (fun _=>by rw[dd];exact N) (lK (tZ.a (uH.a _ _ _)) bQ.a _) hd hS m
  (fun S hX t u=>⟨fun B=>by rw[dd];exact(hX.1 B).e (fun i _ e=>t i e),fun _=>T.j.a (fun i _ e=>u i e)⟩)
  (fun d r b => by
   cases d with
   | row=>rfl
   | jl=>rfl
   | rq j =>
     have e:j≠k:=fun e=>r (by rw[e]);simp only[gc];rw[em _ _ e]
   | fl j =>
     have e:j≠k:=fun e=>b (by rw[e]);simp only[gc];rw[em _ _ e];funext W S;unfold tZ;simp[e]
   | bd j =>
     by_cases e:j=k
     . subst e;simp only[gc,dd]
     . simp only[gc];rw[em _ _ e]
   | ret=>rfl
   | out=>rfl)
 refine⟨ao,cap,n,a,H,L,⟨r,h.f,h.b.trans (q.below (fun i e=>h.d i (by rw[e];intro h;cases h)) h.b.size),fun i y=>?_⟩,q,fun i y=>?_⟩
 . rcases fe i w.heap.size with C | C
   . rcases b i C with e | e
     . exact h.d i (by rw[<-e];exact y)
     . exact h.d i (by rw[e.1];intro h;cases h)
   . have:=h.b.size;omega
 . rcases b i y with e | e
   . exact A e
   . exact R (by rw[e.1];intro h;cases h)
end
structure Ca (S:Nat->Prop)(w:X)(g gs:Nat)(c:Nat->cU)(k:Nat)(r:av×cU×ae)(code:Int)(e:Ending)(w':X):Prop where
 b:∃(ao:ai) (cap n:Nat),e=Y (.tuple #[Z ao n cap,I J code])∧n=r.2.2.length∧ay w' ao cap r.2.2
 a:gH w' (aB S w) g gs r.1 (bN c k r.2.1)
 d:al S w w'
section
variable {w0 w:X} {S:Nat->Prop} {g gs:Nat} {s:av} {c:Nat->cU}
theorem S4 {κ:Nat->mw}{x:Nat->lq}{z:Nat->dC}{o:dC}{k:Nat}(a:∀k,bQ (z k))(f:bQ o)(h:dJ w0 κ g gs s (eK c x) c x z o w)(j:k<4)(ok:aN s)(m:pG (c k))(ev:aS)(es:cJ)(l:eI w (fun i=>κ i=.fl k) ev.d es)(p:(c k).b.length+ev.d.a.length<=20000):
 Calls prog 44 #[Q (M ⟨g,0,U⟩),Q (M ⟨g,1+k*7,U⟩),.agg #[I J ev.d.b,V ev.d.i,V ev.d.j,I J ev.d.m,Z es.e ev.d.e.length es.f,I J ev.d.l,Z es.a ev.d.a.length es.b,V ev.d.g,V ev.d.f,V ev.d.h,Z es.d ev.d.c.length es.c,I J ev.d.k]] w fun e w'=>oO w0 κ g gs c z o k w (dh bq ⟨s,(c k).a,(c k).b,[]⟩ ev) e w':=by
 cases ev with
 | head hd=>exact R7 a f h j hd (om _).symm l.c
 | body b=>exact R8 a f h j b rfl l.b.b (by have:(aS.body b).d.a.length=b.length:=rfl;omega)
 | fin=>exact Ty a f h j ok m (by omega)
 | fail n=>exact RM a f h j n
theorem Ln (s:av)(hd:cf)(body out:ae)(e:aS):dh bq ⟨s,hd,body,out⟩ e={ dh bq ⟨s,hd,body,[]⟩ e with a:=out++(dh bq ⟨s,hd,body,[]⟩ e).a }:=by
 have:=LC bq ⟨s,hd,body,[]⟩ out e;rw[show({ (⟨s,hd,body,[]⟩:eW) with a:=out++[] }:eW)=⟨s,hd,body,out⟩ from by rw[eN]] at this;exact this
structure xV (w0:X)(S:Nat->Prop)(w:X)(g gs:Nat)(c:Nat->cU)(k:Nat)(ro:bR)(eo:ai)(ec:Nat)(es:List aS)(G:eW)(ao:ai)(cap:Nat)(wr:X):Prop where
 a:∃κ x,dJ w0 κ g gs G.s (eK (bN c k ⟨ro,G.c,G.b⟩) x) (bN c k ⟨ro,G.c,G.b⟩) x (tZ k (uH eo ec (es.map aS.d))) (Ar ao cap G.a) wr∧∀i,κ i≠.out->aB S w i
 e:al S w wr
 d:aN G.s
 b:iD G.c
theorem UI:∀{s:av},aN s->∀m t l body,aN (bq s m t l body).1:=fun h m t l b=>B3 h m t l b
theorem TI {κ:Nat->mw}{k:Nat}{ro:bR}{eo:ai}{ec:Nat}{es:List aS}{G G':eW}{ao:ai}{cap:Nat}{u w5:X}{e:Ending}(H:∀i,κ i≠.out->aB S w i)(L:al S w u)(p:oO w0 κ g gs (bN c k ⟨ro,G.c,G.b⟩) (tZ k (uH eo ec (es.map aS.d))) (Ar ao cap G.a) k u G' e w5)(ok:aN G'.s)(v:iD G'.c):
 ∃(q:ai) (b r:Nat) (B:Nat->Prop),e=Y (Z q r b)∧r=G'.a.length∧ay w5 q b G'.a∧bM w5 B 5 ao cap G.a∧∀x f t,bM t (fun i=>ct G.a ao=M i∨w5.heap.size<=i) 5 x f (G.a++G'.a)->al (fun i=>ct G.a ao=M i) w5 t->xV w0 S w g gs c k ro eo ec es { G' with a:=G.a++G'.a } x f t:=by
 obtain⟨q,b,r,W,y,hB⟩:=p.d;obtain⟨j,x5,z,hE⟩:=p.b;have hz5:=p.a.b;have hzb:=L.b;rw[pw,dd] at z;have N:bM w5 (fun i=>j i=.ret) 5 ao cap G.a:=z.a .ret;have l:∀i,ct G.a ao=M i->j i=.ret:=fun i e=>by
  unfold ct at e;split at e
  . cases e
  . rename_i C;rcases N with ⟨_,_,h3⟩ | ⟨h1,_⟩
    . cases D:ao with
      | none=>rw[D] at e;cases e
      | some a=>rw[D] at e;injection e with e;rw[<-e];exact h3 a D
    . exact absurd h1 C
 have n:∀i,j i≠.out->aB S w i:=fun i m=>by
  rcases fe i u.heap.size with o | o
  . exact H i (by rw[<-hE i o];exact m)
  . exact R (by omega)
 refine⟨q,b,r,_,W,y,hB,N,fun x f t TA T=>⟨⟨cA j w5.heap.size .ret,x5,z.jK (tZ.a (uH.a _ _ _)) (Ar.a _ _ _) (Ar.a _ _ _) T l TA (fun i e=>?_),fun i m=>?_⟩,(L.a p.a (fun i e m=>?_)).a T (fun i e m=>?_),ok,v⟩⟩
 . rcases e with e | e
   . exact A (l i e)
   . exact R e
 . rcases fe i w5.heap.size with o | o
   . rw[fF o] at m;exact n i m
   . exact R (by omega)
 . have y:κ i≠.out:=by rcases e with e | e | e <;> (rw[e];intro h;cases h)
   rcases H i y with h | h
   . exact h
   . omega
 . rcases n i (by rw[l i e];intro h;cases h) with h | h
   . exact h
   . omega
theorem xV.f {k:Nat}{ro:bR}{eo:ai}{ec:Nat}{es:List aS}{G:eW}{ao:ai}{cap:Nat}{wr:X}(h:xV w0 S w g gs c k ro eo ec es G ao cap wr):ay wr ao cap G.a∧gH wr (aB S w) g gs G.s (bN c k ⟨ro,G.c,G.b⟩)∧al S w wr:=by
 obtain⟨a,x,b,e⟩:=h.a;have f:bM wr (fun i=>a i=.ret) 5 ao cap G.a:=b.a .ret;refine⟨f.f,⟨a,x,fun d=>?_,e⟩,h.e⟩;have hd:=b.a d;cases d with
 | fl j=>exact⟨hd.1,trivial⟩
 | ret=>trivial
 | row=>exact hd
 | jl=>exact hd
 | rq j=>exact hd
 | bd j=>exact hd
 | out=>trivial
end
section
variable {w0 w:X} {S:Nat->Prop} {g gs:Nat} {s:av} {c:Nat->cU}
theorem Nn (k:Int)(b:k<0∨4<=k)(bo:ai)(gF n:Nat)(w:X):
 Calls prog 13 #[Q (M ⟨g,0,U⟩),I J k,Z bo n gF] w fun e w'=>e=Y (.tuple #[Z U 0 0,I J 1])∧w'=w:=by
 have a:=fun W=>zf k W;rw[show(decide (0<=k)&&decide (k<4))=F from by rcases b with h | h <;> simp <;> omega] at a;go_enter func13,ntmps13;go_wp2_with fail;refine(a _).mono ?_;rintro e f ⟨rfl,d⟩;subst d;go_wp2;go_ret2;exact⟨rfl,rfl⟩
theorem Ss (hP:fu w0)(hW:Below w0.heap.size w0 w)(hF:∀i,S i->w0.heap.size<=i)(h:gH w S g gs s c)(ok:aN s)(k:Nat)(hk:k<4)(hc:pG (c k))(l:ae){bo:ai}{gF n:Nat}(hB:ay w bo gF l)(ug:l≠[]->∀a,bo=M a->¬S a.block)(hn:l.length=n)(hl:(c k).b.length+n<=20000):
 Calls prog 13 #[Q (M ⟨g,0,U⟩),I J (k:Int),Z bo n gF] w fun e w'=>Ca S w g gs c k (nw bq s (c k) l) (if (c k).c.a=4 then 18 else 0) e w':=by
 have HI:=fun W=>zf (k:Int) W;rw[show(decide ((0:Int)<=(k:Int))&&decide ((k:Int)<4))=true from by simp;omega] at HI;obtain⟨κ,x,hH,hS⟩:=h;have hG0:dJ w0 κ g gs s (eK c x) c x jt fi w:=⟨hH,hP,hW,fun i e=>hF i (hS i e)⟩;have cg:w.cell? ⟨g,1+k*7,U⟩=M (Q (M ⟨(x k).e,0,U⟩)):=hG0.j.a hk (j:=0) (u:=Q (M ⟨(x k).e,0,U⟩)) (by decide) rfl;have HD:=Fs w (fun i=>κ i=.rq k) (x k).e (c k).c (hH (.rq k) hk);have k0:(0:Int)<=(k:Int):=by omega
 have k4:(k:Int)<4:=by omega
 by_cases T:(c k).c.a=4
 . rw[if_pos T];rw[aV T] at HD;have hfd:nw bq s (c k) l=(s,c k,[]):=by
    have:=BO l (c k).c T;unfold nw uX;rw[this.1,this.2];rfl
   rw[hfd];have r:Ca S w g gs c k (s,c k,[]) 18 (Y (.tuple #[Z U 0 0,I J 18])) w:=⟨⟨U,0,0,rfl,rfl,ay.d _⟩,by rw[Vg];exact gH.a ⟨κ,x,hH,hS⟩ (fun i _ e=>A e),al.r _ _⟩;go_enter func13,ntmps13;go_wp2_with fail;refine(HI _).mono ?_;rintro e w1 ⟨rfl,hw⟩;rw[hw];go_wp2_with fail;refine HD.mono ?_;rintro e w1 ⟨rfl,hw⟩;rw[hw];go_wp2;go_ret2;exact r
 . rw[if_neg T];rw[aW T] at HD;have HFe:=Nm w (fun i=>κ i=.rq k) (x k).e (c k).c l bo gF n (hH (.rq k) hk) hc.b hB (fun t a e e2=>ug t a e (hS _ (by rw[e2];intro h;cases h))) hn (by omega);have HG0:=hG0;have HS:=aa hS
   go_enter func13,ntmps13;go_wp2_with fail;refine(HI _).mono ?_;rintro e w1 ⟨rfl,hw⟩;rw[hw];go_wp2_with fail;refine HD.mono ?_;rintro e w1 ⟨rfl,hw⟩;rw[hw];go_wp2_with fail;refine HFe.mono ?_;rintro e w1 hFr;obtain⟨eo,ec,ne,κ1,rfl,t,p,hT1,hE1⟩:=HG0.jN hk hFr;have hS1:∀i,κ1 i≠.out->aB S w i:=fun i hi=>by
    rcases fe i w.heap.size with hl | hl
    . rcases hE1 i hl with e | e
      . exact A (HS.o i (by rw[<-e];exact hi))
      . exact A (HS.o i e)
    . exact R hl
   rw[<-UB c x k (cP (c k).c l)] at p;have nN:=GN (c k).c l;obtain⟨es,v⟩:∃es,es=aH (dc (c k).c l):=⟨_,rfl⟩;have ad5:∀e∈es,e.e:=by rw[v];exact vK _ (BJ l hc.b)
   have Ef:nw bq s (c k) l=((eX bq ⟨s,(c k).a,(c k).b,[]⟩ es).s,⟨cP (c k).c l,(eX bq ⟨s,(c k).a,(c k).b,[]⟩ es).c,(eX bq ⟨s,(c k).a,(c k).b,[]⟩ es).b⟩,(eX bq ⟨s,(c k).a,(c k).b,[]⟩ es).a):=by rw[v,vc];rfl
   rw[<-v] at t p nN;have hR0:xV w0 S w g gs c k (cP (c k).c l) eo ec es ⟨s,(c k).a,(c k).b,[]⟩ U 0 w1:=⟨⟨κ1,x,⟨fun d=>by
    have hd:=p.a d;cases d with
    | ret =>
      show bM w1 (fun i=>κ1 i=.ret) 5 U 0 [];exact bM.d _ _ _
    | fl j=>exact hd
    | row=>exact hd
    | jl=>exact hd
    | rq j=>exact hd
    | bd j=>exact hd
    | out=>trivial,p.f,p.b,p.d⟩,hS1⟩,hT1.e (fun i e=>HS.o i (by rw[e];intro h;cases h)),ok,hc.a⟩
   have hbd:∀i (hi:i<es.length),(eX bq ⟨s,(c k).a,(c k).b,[]⟩ (es.take i)).b.length+es[i].d.a.length<=20000:=fun i hi=>by
    have h1:=Aw bq (es.take i) ⟨s,(c k).a,(c k).b,[]⟩;have h2:bT (es.take i)+es[i].d.a.length<=bT es:=by
     conv=>rhs;rw[<-jn i es,rh,gS hi]
     generalize es[i]=e;cases e with
     | body b=>show _+b.length<=_+(b.length+_);omega
     | head _=>exact Nat.add_le_add_left (ax _) _
     | fin=>exact Nat.add_le_add_left (ax _) _
     | fail _=>exact Nat.add_le_add_left (ax _) _
    have h3:=nN.2.1;have T:(⟨s,(c k).a,(c k).b,[]⟩:eW).b.length=(c k).b.length:=rfl;omega
   have hol:∀i,i<=es.length->(eX bq ⟨s,(c k).a,(c k).b,[]⟩ (es.take i)).a.length<=6000*40000:=fun i hi=>by
    have h1:=Ex (es.take i) (g:=⟨s,(c k).a,(c k).b,[]⟩) ok;rw[bP] at h1;have h3:=nN.1;have T:(⟨s,(c k).a,(c k).b,[]⟩:eW).a.length=0:=rfl;omega
   have hlen:es.length<=40000:=by have:=nN.1;omega
   have ah5:fX (cP (c k).c l):=hc.b.j l;have Ta:=hR0;have Ea:=aa hbd;have HOl:=aa hol;have Oi:=aa ad5;have HRo:=aa ah5
   obtain⟨j0,hj0,hy0,hy1,hy2⟩:=info_parts il;have Hj:=hj0;have Jj:=aa hy0;have Jk:=aa hy1;have Jl:=aa hy2
   subst t;clear p hT1 hE1 hS1 nN ad5 v hR0 hbd hol ah5 HG0 HFe HI HD hFr cg hj0 hy0 hy1 hy2;generalize cP (c k).c l=ro at *;generalize alW:(⟨s,(c k).a,(c k).b,[]⟩:eW)=G0 at *;go_wp2;go_loopw [9,37] (fun vo vi wr=>∃(i m:Nat) (ao:ai) (cap:Nat),i<=es.length∧vi=I J i∧vo=Z ao m cap∧m=(eX bq G0 (es.take i)).a.length∧xV w0 S w g gs c k ro eo ec es (eX bq G0 (es.take i)) ao cap wr) (fun _ vi _=>es.length-(intOf vi).toNat)
   case atStart=>exact⟨0,0,U,0,ax _,rfl,rfl,by rw[<-alW];rfl,Ta⟩
   case round =>
    obtain⟨i,m,ao,cap,hi,rfl,rfl,hm,y⟩:=hrel;by_cases z:i<es.length
    . have hlt':(i:Int)<es.length:=by omega
      have hTk:eX bq G0 (es.take (i+1))=dh bq (eX bq G0 (es.take i)) es[i]:=by rw[go z,K0];rfl
      have hbi:=Ea.o i z;have C:=HOl.o (i+1) (by omega);have alX:=HOl.o i (by omega);have hfi:=Oi.o es[i] (dG z);obtain⟨κ,x2,hG,hS2⟩:=y.a;have hEv:ms wr (fun j=>κ j=.fl k) 98 eo ec (es.map aS.d):=(hG.a (.fl k)).2 rfl;have hcap:es.length<=ec:=by have:=hEv.d.1;rw[ij] at this;exact this
      obtain⟨b,o,rfl,ah6⟩:=hEv.f (by rw[ij];omega);obtain⟨q,f,hIn⟩:=ah6 i (by rw[ij];exact z);rw[dH] at f hIn;generalize eX bq G0 (es.take i)=G at *;rw[hTk] at C;generalize hev:es[i]=ev at *;have jm:=(aq _ wr).alloc (ak _) (K #[I J ev.d.b,V ev.d.i,V ev.d.j,I J ev.d.m,Z q.e ev.d.e.length q.f,I J ev.d.l,Z q.a ev.d.a.length q.b,V ev.d.g,V ev.d.f,V ev.d.h,Z q.d ev.d.c.length q.c,I J ev.d.k] 98);have hGA:=hG.e (tZ.a (uH.a _ _ _)) (Ar.a _ _ _) jm;have ah7:=hIn.d (al.d (S:=fun _=>False) jm) (fun _ _ e=>e);have HMt:=S4 (tZ.a (uH.a _ _ _)) (Ar.a _ _ _) hGA hk y.d (by rw[dd];exact⟨HRo.o,y.b⟩) ev q ah7 (by rw[dd];exact hbi);rw[dd] at HMt;have hNx:=fun(w5:X) (e5:Ending)=>TI (e:=e5) (w5:=w5) (G:=G) (G':=dh bq ⟨G.s,G.c,G.b,[]⟩ ev) (κ:=κ) (es:=es) (eo:=M ⟨b,o,U⟩) (ec:=ec) (ao:=ao) (cap:=cap) (ro:=ro) (k:=k) (c:=c) (g:=g) (gs:=gs) (w0:=w0) hS2 (y.e.a (al.d (S:=fun _=>False) jm) (fun _ e _=>e.elim));have hfr:dh bq G ev={ dh bq ⟨G.s,G.c,G.b,[]⟩ ev with a:=G.a++(dh bq ⟨G.s,G.c,G.b,[]⟩ ev).a }:=Ln G.s G.c G.b G.a ev;have D:aN (dh bq ⟨G.s,G.c,G.b,[]⟩ ev).s:=AE bq UI (g:=⟨G.s,G.c,G.b,[]⟩) y.d ev;have ah8:iD (dh bq ⟨G.s,G.c,G.b,[]⟩ ev).c:=EG bq (g:=⟨G.s,G.c,G.b,[]⟩) y.b hfi;have H:G.a.length+(dh bq ⟨G.s,G.c,G.b,[]⟩ ev).a.length<=6000*40000:=by rw[<-aF];rw[hfr] at C;exact C
      have c0:wr.cell? ⟨b,o+i*12,U⟩=M (I J ev.d.b):=f 0 _ rfl;have c1:wr.cell? ⟨b,o+i*12+1,U⟩=M (V ev.d.i):=f 1 _ rfl;have c2:wr.cell? ⟨b,o+i*12+2,U⟩=M (V ev.d.j):=f 2 _ rfl;have c3:wr.cell? ⟨b,o+i*12+3,U⟩=M (I J ev.d.m):=f 3 _ rfl;have c4:wr.cell? ⟨b,o+i*12+4,U⟩=M (Z q.e ev.d.e.length q.f):=f 4 _ rfl;have c5:wr.cell? ⟨b,o+i*12+5,U⟩=M (I J ev.d.l):=f 5 _ rfl;have c6:wr.cell? ⟨b,o+i*12+6,U⟩=M (Z q.a ev.d.a.length q.b):=f 6 _ rfl;have c7:wr.cell? ⟨b,o+i*12+7,U⟩=M (V ev.d.g):=f 7 _ rfl;have c8:wr.cell? ⟨b,o+i*12+8,U⟩=M (V ev.d.f):=f 8 _ rfl;have c9:wr.cell? ⟨b,o+i*12+9,U⟩=M (V ev.d.h):=f 9 _ rfl;have c10:wr.cell? ⟨b,o+i*12+10,U⟩=M (Z q.d ev.d.c.length q.c):=f 10 _ rfl;have c11:wr.cell? ⟨b,o+i*12+11,U⟩=M (I J ev.d.k):=f 11 _ rfl;have XL:=hNx;have qw:=aa hTk;have HFr:=aa hfr;have alZ:=aa D;have al0:=aa ah8;have HM:=aa hm
      clear y hG hS2 hEv ah6 f hIn jm hGA ah7 hNx hTk hfr D ah8 hbi C alX hfi hm;generalize ev.d=ed at *;generalize dh bq ⟨G.s,G.c,G.b,[]⟩ ev=G' at *;go_wp2_with fail;refine HMt.mono ?_;rintro e w5 hMt;obtain⟨AZ,cap5,n5,B,rfl,hn5,wG,ah9,L⟩:=XL w5 e hMt alZ.o al0.o;have oP:=wG;have HGr:=aa ah9;have Lg:=aa L;have HN5:=aa hn5.symm;have HM2:=aa HM.o.symm
      have hml:m+n5<=240000000:=by rw[hn5,HM.o];exact H
      clear hMt wG ah9 L hn5 HMt XL H;go_wp2_with (at_builtin;refine yH rfl (.tmp 41) (.tmp 45) 31 rfl 5 j0 underlying31 Hj Jj.o Jk.o Jl.o rfl rfl HGr.o HM2.o oP HN5.o (by omega) ?_;intro Ua N w6 vZ yX;have HF6:=aa (Lg.o Ua N w6 vZ yX);clear vZ yX)
      go_roundw
      case rel=>exact⟨i+1,m+n5,Ua,N,by omega,by go_num,rfl,by rw[qw.o,HFr.o];show _=(G.a++G'.a).length;rw[aF,HM.o,HN5.o],by rw[qw.o,HFr.o];exact HF6.o⟩
      case measure=>simp[intOf];omega
    . obtain rfl:i=es.length:=by omega
      rw[fD] at hm y;obtain⟨qM,hG9,rE⟩:=y.f;have r:Ca S w g gs c k (nw bq s (c k) l) 0 (Y (.tuple #[Z ao m cap,I J 0])) wr:=by
       rw[Ef];exact⟨⟨ao,cap,m,rfl,hm,qM⟩,hG9,rE⟩
      go_wp2;go_ret2;exact r
end
section
variable {w0 w:X} {S:Nat->Prop} {g gs:Nat} {s:av} {c:Nat->cU}
def pR (gp:Nat):lq:=⟨gp,U,0,U,0⟩
structure pz (S:Nat->Prop)(w:X)(g gs:Nat)(s:av)(n:Nat)(wr:X):Prop where
 b:∃κ v x,fm (gc g gs s v n (fun _=>fj) x jt fi) κ wr∧(∀k,k<n->v k=mN fj (x k))∧∀i,κ i≠.out->aB S w i
 c:al S w wr
theorem gI.j {v:Nat->List Value}(h:gI w g gs v){k:Nat}(a:k<4)(b d e f l m n:Value):
 gI (((((((w.setCell ⟨g,1+k*7,U⟩ b).setCell ⟨g,1+k*7+1,U⟩ d).setCell ⟨g,1+k*7+2,U⟩ e).setCell ⟨g,1+k*7+3,U⟩ f).setCell ⟨g,1+k*7+4,U⟩ l).setCell ⟨g,1+k*7+5,U⟩ m).setCell ⟨g,1+k*7+6,U⟩ n) g gs (bN v k [b,d,e,f,l,m,n])∧al (fun i=>i=g) w (((((((w.setCell ⟨g,1+k*7,U⟩ b).setCell ⟨g,1+k*7+1,U⟩ d).setCell ⟨g,1+k*7+2,U⟩ e).setCell ⟨g,1+k*7+3,U⟩ f).setCell ⟨g,1+k*7+4,U⟩ l).setCell ⟨g,1+k*7+5,U⟩ m).setCell ⟨g,1+k*7+6,U⟩ n):=by
 refine⟨?_,gX g [b,d,e,f,l,m,n] (1+k*7) w⟩;have:=((((((h.d a (j:=0) (by decide) b).d a (j:=1) (by decide) d).d a (j:=2) (by decide) e).d a (j:=3) (by decide) f).d a (j:=4) (by decide) l).d a (j:=5) (by decide) m).d a (j:=6) (by decide) n;obtain⟨p,q,r,t,u,x,y,o⟩:=rT (h.b k a);simp only[pw,dd,o] at this;exact this
theorem pz.f {n gp:Nat}{wr o:X}(h:pz S w g gs s n wr)(D:dT o (fun k=>wr.heap.size<=k) gp qb)(p:Below wr.heap.size wr o):∃v,gI o g gs v∧∀f,gI f g gs (bN v n (mN fj (pR gp)))->al (fun i=>i=g) o f->pz S w g gs s (n+1) f:=by
 obtain⟨⟨q,v,x,b,G,y⟩,z⟩:=h;have l:=(b .row).1.f;have W:=z.b;refine⟨v,⟨(p.block g l).trans (b .row).1.c,(b .row).1.b⟩,fun f r t=>?_⟩;have a:∀d,d≠.row->gc g gs s v n (fun _=>fj) x jt fi d f (fun i=>cA q wr.heap.size (.rq n) i=d):=fun d H=>by
  have L:bQ (gc g gs s v n (fun _=>fj) x jt fi d):=lK (fun _=>bQ.a) bQ.a d;have N:=L.c (b d) (S':=fun i=>q i=d∧i<wr.heap.size) (fun i m e=>⟨e,m⟩);have T:=L.b (L.b N (al.d (S:=fun _=>False) p) (fun _ _ e=>e)) t (fun i e B=>H (by rw[<-e.1,B];exact(b .row).2));exact L.c T (fun i _ e=>(fF e.2).trans e.1)
 refine⟨⟨cA q wr.heap.size (.rq n),bN v n (mN fj (pR gp)),bN x n (pR gp),fun d=>?_,fun j u=>?_,fun i m=>?_⟩,(z.a (al.d (S:=fun _=>False) p) (fun _ e _=>e.elim)).a t (fun i e m=>?_)⟩
 . cases d with
   | row=>exact⟨r,(fF l).trans (b .row).2⟩
   | jl=>exact a .jl (by intro h;cases h)
   | rq j =>
     intro u;by_cases e:j=n
     . subst e;rw[dd];exact(D.d t (fun i e B=>by omega)).a (fun i _ e=>qz e)
     . rw[em _ _ e];exact a (.rq j) (by intro h;cases h) (by omega)
   | fl j =>
     refine⟨fun u=>?_,trivial⟩;by_cases e:j=n
     . subst e;rw[dd];exact jz.a _ _
     . rw[em _ _ e];exact(a (.fl j) (by intro h;cases h)).1 (by omega)
   | bd j =>
     intro u;by_cases e:j=n
     . subst e;rw[dd];exact bM.d _ _ _
     . rw[em _ _ e];exact a (.bd j) (by intro h;cases h) (by omega)
   | ret=>trivial
   | out=>trivial
 . by_cases e:j=n
   . subst e;rw[dd,dd]
   . rw[em _ _ e,em _ _ e];exact G j (by omega)
 . rcases fe i wr.heap.size with C | C
   . rw[fF C] at m;exact y i m
   . exact R (by omega)
 . rcases y i (by rw[e,(b .row).2];intro h;cases h) with h | h
   . exact h
   . omega
theorem pz.e {wr:X}(h:pz S w g gs s 4 wr):gH wr (aB S w) g gs s (fun _=>fj)∧al S w wr:=by
 obtain⟨⟨e,v,x,f,b,i⟩,l⟩:=h;refine⟨⟨e,x,fun d=>?_,i⟩,l⟩;have a:=f d;cases d with
 | row =>
   refine⟨⟨?_,fun k m=>rfl⟩,a.2⟩;have:=a.1.c;unfold lt at this ⊢;rw[b 0 (by omega),b 1 (by omega),b 2 (by omega),b 3 (by omega)] at this;exact this
 | jl=>exact a
 | rq j=>exact a
 | fl j=>exact a
 | bd j=>exact a
 | ret=>trivial
 | out=>trivial
theorem Es (h:pz S w g gs s 0 w):
 Calls prog 33 #[Q (M ⟨g,0,U⟩)] w fun e w'=>e=Y (.tuple #[])∧gH w' (aB S w) g gs s (fun _=>fj)∧al S w w':=by
 go_enter func33,ntmps33;go_wp2;go_loopw [3] (fun l wr=>∃i:Nat,i<=4∧l=I J i∧pz S w g gs s i wr) (fun l _=>4-(intOf l).toNat)
 case atStart=>exact⟨0,ax _,rfl,h⟩
 case round =>
  obtain⟨i,hi,rfl,n⟩:=hrel;by_cases b:i<4
  . have p:(i:Int)<4:=by omega
    have t:(0:Int)<=(i:Int):=by omega
    have y:pz S w g gs s i wr.drew:=by
     obtain⟨⟨z,v,x,B,d,C⟩,D⟩:=n;exact⟨⟨z,v,x,B.d (lK (fun _=>bQ.a) bQ.a) (bA _ _),d,C⟩,D.a (al.y (fun _=>False) wr 1) (fun _ e _=>e.elim)⟩
    go_upto_region 3 with fail
    go_region_law ((go_simp;go_at_call 37;refine((fun W=>Dh W) _).mono ?_;rintro e G ⟨q,rfl,r,f⟩;obtain⟨v,a,k⟩:=y.f r f;obtain⟨H,L,N,T,a4,a5,a6,d⟩:=rT (a.b i b);have c0:G.cell? ⟨g,1+i*7,U⟩=M H:=a.a b (j:=0) (by decide) (by rw[d];rfl);have c1:=a.a b (j:=1) (by decide) (u:=L) (by rw[d];rfl);have c2:=a.a b (j:=2) (by decide) (u:=N) (by rw[d];rfl);have c3:=a.a b (j:=3) (by decide) (u:=T) (by rw[d];rfl);have c4:=a.a b (j:=4) (by decide) (u:=a4) (by rw[d];rfl);have c5:=a.a b (j:=5) (by decide) (u:=a5) (by rw[d];rfl);have c6:=a.a b (j:=6) (by decide) (u:=a6) (by rw[d];rfl);have fz:=fun j=>a.e j;have sH:=aa (k _ (a.j b (Q (M ⟨q,0,U⟩)) (V ⟨#[]⟩) (V ⟨#[]⟩) (I J 0) (Z U 0 0) (I J 0) (Z U 0 0)).1 (a.j b (Q (M ⟨q,0,U⟩)) (V ⟨#[]⟩) (V ⟨#[]⟩) (I J 0) (Z U 0 0) (I J 0) (Z U 0 0)).2);clear r f k d))
    all_goals
     go_wp2;go_roundw
     case rel=>exact⟨i+1,by omega,by go_num,sH.o⟩
     case measure=>simp[intOf];omega
  . obtain rfl:i=4:=by omega
    have m:=n.e;go_wp2;go_end0
    exact⟨rfl,m⟩
end
section
variable {w w':X} {S S':Nat->Prop} {g gs:Nat} {s s':av} {c:Nat->cU}
theorem gH.e (h:gH w S g gs s c):∃a:Nat->Prop,aY w a gs s∧(∀k,a k->S k)∧w.cell? ⟨g,0,U⟩=M (Q (M ⟨gs,0,U⟩))∧∀s' w',aY w' (aB a w) gs s'->al a w w'->gH w' (aB S w) g gs s' c:=by
 obtain⟨i,x,b,j⟩:=h;refine⟨fun k=>i k=.jl,b .jl,fun k e=>j k (by rw[e];intro q;cases q),(b .row).1.q,fun s' w' m n=>⟨cA i w.heap.size .jl,x,?_,fun k l=>?_⟩⟩
 . exact b.a (lK (fun _=>bQ.a) bQ.a) n (fun _ e=>e) (X':=gc g gs s' (eK c x) 4 c x jt fi) (lK (fun _=>bQ.a) bQ.a .jl) m (fun _ e=>e) (fun d o=>by cases d <;> first | rfl | exact absurd rfl o)
 . rcases fe k w.heap.size with f | f
   . rw[fF f] at l;exact A (j k l)
   . exact R f
theorem pz.a (h:gH w S g gs s c):pz S w g gs s 0 w:=by
 obtain⟨f,x,i,l⟩:=h;refine⟨⟨f,eK c x,x,fun d=>?_,fun k b=>absurd b (pk k),fun k b=>A (l k b)⟩,al.r _ _⟩;have e:=i d;cases d with
 | row=>exact e
 | jl=>exact e
 | rq j=>exact fun a=>absurd a (pk j)
 | fl j=>exact⟨fun a=>absurd a (pk j),trivial⟩
 | bd j=>exact fun a=>absurd a (pk j)
 | ret=>trivial
 | out=>trivial
end
inductive yx
 | row
 | gate
 | tr
 | out
def yK (g:Nat)(io:ai)(ni gZ:Nat):Obj:=K #[Q (M ⟨g,0,U⟩),Z io ni gZ] 78 (0,0)
def wK (p g gs:Nat)(o:Obj)(P:cV)(io:ai)(gZ:Nat):yx->dC
 | .row=>ut p o
 | .gate=>fun w S=>gH w S g gs P.s P.c
 | .tr=>qJ io gZ P.a
 | .out=>fun _ _=>True
theorem qI {p g gs:Nat}{o:Obj}{P:cV}{b:ai}{c:Nat}:∀d,bQ (wK p g gs o P b c d)
 | .row=>ut.a _ _
 | .gate=>⟨fun h e a=>gH.d h e a,fun h a=>gH.a h a⟩
 | .tr=>qJ.a _ _ _
 | .out=>bQ.a
def dr (w:X)(S:Nat->Prop)(p g gs:Nat)(P:cV):Prop:=∃κ io gZ,fm (wK p g gs (yK g io P.a.length gZ) P io gZ) κ w∧∀k,κ k≠.out->S k
section
variable {w w':X} {S S':Nat->Prop} {p g gs:Nat} {P:cV}
theorem dr.j (h:dr w S p g gs P)(c:al S' w w')(f:∀k,S k->¬S' k):dr w' S p g gs P:=by
 obtain⟨i,j,l,m,a⟩:=h;refine⟨i,j,l,fun d=>?_,a⟩;by_cases b:d=.out
 . subst b;exact trivial
 . exact(qI d).b (m d) c (fun k e=>f k (a k (by rw[e];exact b)))
theorem dr.q (h:dr w S p g gs P)(a:Below w.heap.size w w'):dr w' S p g gs P:=h.j (al.d (S:=fun _=>False) a) (fun _ _ e=>e)
theorem dr.a (h:dr w S p g gs P)(c:∀k,k<w.heap.size->S k->S' k):dr w S' p g gs P:=by
 obtain⟨f,i,j,l,m⟩:=h;refine⟨cA f w.heap.size .out,i,j,fun d=>?_,fun k a=>?_⟩
 . by_cases n:d=.out
   . subst n;exact trivial
   . exact(qI d).c (l d) (fun k a e=>(fF a).trans e)
 . rcases fe k w.heap.size with b | b
   . rw[fF b] at a;exact c k b (m k a)
   . exact absurd (qz b) a
theorem IH {κ:Nat->yx}{d:yx}(c:∀k,κ k≠.out->S k):∀k,cA κ w.heap.size d k≠.out->aB S w k:=fun k b=>by
 rcases fe k w.heap.size with a | a
 . rw[fF a] at b;exact A (c k b)
 . exact R a
theorem dr.f (h:dr w S p g gs P):∃a:Nat->Prop,gH w a g gs P.s P.c∧(∀k,a k->S k)∧w.cell? ⟨p,0,U⟩=M (Q (M ⟨g,0,U⟩))∧∀b f w',gH w' (aB a w) g gs b f->al a w w'->dr w' (aB S w) p g gs ⟨b,f,P.a⟩:=by
 obtain⟨m,i,j,l,n⟩:=h;refine⟨fun k=>m k=.gate,l .gate,fun k e=>n k (by rw[e];intro q;cases q),am w p 0 _ _ _ (l .row).1,fun b f w' o r=>⟨cA m w.heap.size .gate,i,j,?_,IH n⟩⟩;exact l.a qI r (fun _ e=>e) (X':=wK p g gs (yK g i P.a.length j) ⟨b,f,P.a⟩ i j) (qI .gate) o (fun _ e=>e) (fun d t=>by cases d <;> first | rfl | exact absurd rfl t)
theorem dr.y (h:dr w S p g gs P):∃f u,aG w 0 3 1 f u P.a.length (eE P.a)∧w.cell? ⟨p,1,U⟩=M (Z f P.a.length u)∧w.frozen? ⟨p,1,U⟩=F∧S p∧(∀k,au f=M k->S k) ∧
 ∀l m i w', aG w' 0 3 1 l m (P.a.length + 1) (eE P.a ++ [I J i]) -> w.grownBy w' (au f) -> (∀j, au l = M j -> au f = M j ∨ w.heap.size <= j) ->
   (w'.cell? ⟨p,1,U⟩=M (Z f P.a.length u)∧w'.frozen? ⟨p,1,U⟩=F)∧dr (w'.setCell ⟨p,1,U⟩ (Z l (P.a.length+1) m)) (aB S w) p g gs ⟨P.s,P.c,P.a++[i]⟩∧al S w (w'.setCell ⟨p,1,U⟩ (Z l (P.a.length+1) m)):=by
 obtain⟨x,f,u,B,y⟩:=h;have v:=B .row;have r:∀k,au f=M k->x k=.tr:=fun k e=>by
  cases f with
  | none=>cases e
  | some a=>injection e with e;rw[<-e];exact(B .tr).2 a rfl
 have C:∀{a b:yx} {k:Nat},x k=a->x k=b->a=b:=fun e e2=>e.symm.trans e2;refine⟨f,u,(B .tr).1,am w p 1 _ _ _ v.1,aD w p 1 _ _ v.1,y p (by rw[v.2];intro q;cases q),fun k e=>y k (by rw[r k e];intro q;cases q),fun l m i w' hO hG D=>?_⟩;have n:=al.q (S:=fun k=>x k=.tr) hG r;have t:=n.j v.1 (fun e=>by have:=C v.2 e;cases this);have hz:=n.b;have T:al (fun k=>k=p) w' (w'.setCell ⟨p,1,U⟩ (Z l (P.a.length+1) m)):=al.f (fun k=>k=p) w' _ _ rfl;have G:=aQ w' p 1 _ _ (Z l (P.a.length+1) m) t;have o:(P.a++[i]).length=P.a.length+1:=by simp
 have z:eE (P.a++[i])=eE P.a++[I J i]:=by simp[eE]
 refine⟨⟨am w' p 1 _ _ _ t,aD w' p 1 _ _ t⟩,?_,(n.e (fun k e=>y k (by rw[e];intro q;cases q))).a T (fun k e _=>by rw[e];exact y p (by rw[v.2];intro q;cases q))⟩;have H:fm (wK p g gs (yK g f P.a.length u) ⟨P.s,P.c,P.a++[i]⟩ l m) (cA x w.heap.size .tr) w' :=
  B.a qI n (fun _ e=>e) (qI .tr) (N:=fun k=>au f=M k∨w.heap.size<=k) (by
   refine⟨?_,fun a e=>D a.block (by rw[e];rfl)⟩;show aG w' 0 3 1 l m (P.a++[i]).length (eE (P.a++[i]));rw[o,z];exact hO) (fun k e=>by
   rcases e with e | e
   . exact A (r k e)
   . exact R e) (fun d L=>by cases d <;> first | rfl | exact absurd rfl L)
 have h2:=H.a qI T (c:=.row) (fun k e=>by rw[e];exact(H .row).2) (X':=wK p g gs (yK g l (P.a++[i]).length m) ⟨P.s,P.c,P.a++[i]⟩ l m) (qI .row) (N:=fun k=>k=p) (by
  refine⟨?_,rfl⟩;rw[o];exact G) (fun k e=>A (by rw[e];exact(H .row).2)) (fun d L=>by cases d <;> first | rfl | exact absurd rfl L)
 refine⟨_,l,m,h2,fun k W=>?_⟩;rcases fe k w'.heap.size with hl | hl
 . rw[fF hl] at W;exact IH (w:=w) y k W
 . exact R (by omega)
theorem dr.ku (h:dr w S p g gs P):p<w.heap.size:=by
 obtain⟨b,c,d,a,e⟩:=h;exact(bH.1 (a .row).1).1
end
section
variable {w w':X} {S:Nat->Prop} {p g gs:Nat} {P:cV}
theorem dr.e (h:dr w S p g gs P):∃B:Nat->Prop,aY w B gs P.s∧(∀k,B k->S k)∧(w.cell? ⟨p,0,U⟩=M (Q (M ⟨g,0,U⟩))∧w.cell? ⟨g,0,U⟩=M (Q (M ⟨gs,0,U⟩)))∧∀a w',aY w' (aB B w) gs a->al B w w'->dr w' (aB S w) p g gs ⟨a,P.c,P.a⟩:=by
 obtain⟨r,j,l,m,n⟩:=h.f;obtain⟨B,o,f,b,d⟩:=j.e;exact⟨B,o,fun k e=>l k (f k e),⟨m,b⟩,fun a w' q i=>n a P.c w' (d a w' q i) (i.e f)⟩
structure oQ (S:Nat->Prop)(w:X)(p g gs:Nat)(P:cV)(w':X):Prop where
 a:dr w' (aB S w) p g gs P
 b:al S w w'
theorem dr.B (h:dr w S p g gs P)(ok:aN P.s)(id:Int):Calls prog 98 #[Q (M ⟨gs,0,U⟩),I J id] w fun e w'=>e=Y (I J ((ex P.s id).2:Int))∧oQ S w p g gs ⟨(ex P.s id).1,P.c,P.a⟩ w':=by
 obtain⟨B,a,b,_,f⟩:=h.e;exact(M9 a ok id).mono fun e w' d=>⟨d.f,f _ _ d.c d.b,d.b.e b⟩
theorem dr.G (h:dr w S p g gs P)(ok:aN P.s)(id:Int):Calls prog 101 #[Q (M ⟨gs,0,U⟩),I J id] w fun e w'=>e=Y (I J ((lW P.s id).2:Int))∧oQ S w p g gs ⟨(lW P.s id).1,P.c,P.a⟩ w':=by
 obtain⟨B,a,b,_,f⟩:=h.e;exact(Sb a ok id).mono fun e w' d=>⟨d.f,f _ _ d.c d.b,d.b.e b⟩
theorem dr.r (h:dr w S p g gs P):Calls prog 99 #[Q (M ⟨gs,0,U⟩)] w fun e w'=>e=Y (.tuple #[])∧oQ S w p g gs ⟨ey P.s,P.c,P.a⟩ w':=by
 obtain⟨B,b,d,_,f⟩:=h.e;exact(rM b).mono fun e w' ⟨i,j,a⟩=>⟨i,f _ _ (j.a fun k _ e=>A e) a,a.e d⟩
theorem dr.d (h:dr w S p g gs P):w.cell? ⟨p,0,U⟩=M (Q (M ⟨g,0,U⟩))∧w.cell? ⟨g,0,U⟩=M (Q (M ⟨gs,0,U⟩)):=by
 obtain⟨B,_,_,a,_⟩:=h.e;exact a
def iz (p g gs:Nat)(c:Nat->cU)(tr:List Int):nO:=fun w S _ s=>dr w S p g gs ⟨s,c,tr⟩
theorem mt {c:Nat->cU}{tr:List Int}:oR (iz p g gs c tr):=⟨fun h b a=>dr.j h b a,fun h a=>dr.a h a⟩
theorem cj.E {O O':nO}{S' b:Nat->Prop}{W W':X}{bs:List Obj}{s d:av}(h:cj O S w g bs s S' W)(f:O' W' b g d)(j:∀k,b k->aB S' W k)(c:al S' W W'):cj O' S w g bs d b W':=by
 have l:=h.c;refine⟨fun i m=>?_,f,fun k e=>?_,h.j.a c (fun k e n=>?_),ce l c.b⟩
 . refine(c.c _ (by omega) (fun e=>?_)).trans (h.l i m);rcases h.h _ e with a | a
   . omega
   . omega
 . rcases j k e with e | e
   . exact h.h k e
   . exact R (by omega)
 . rcases h.h k e with a | a
   . exact a
   . omega
theorem cj.nS {O:nO}{S':Nat->Prop}{W:X}{bs:List Obj}{s:av}(L:oR O)(h:cj O S w g bs s S' W):cj O S w g bs s (fun k=>S' k∧k<W.heap.size) W:=⟨h.l,L.a h.b (fun _ a e=>⟨e,a⟩),fun k e=>h.h k e.1,h.j,h.c⟩
structure qW (S:Nat->Prop)(w:X)(p g gs:Nat)(r:cV×oj)(e:Ending)(w':X):Prop where
 d:∃(ao uo:ai) (jQ an gT un:Nat),e=Y (.agg #[I J (r.2.a:Int),Z ao an jQ,Z uo un gT])∧an=r.2.c.length∧un=r.2.b.length∧ay w' ao jQ r.2.c∧ay w' uo gT r.2.b∧∃Pd,dr w' Pd p g gs r.1∧(∀k,Pd k->aB S w k)∧(r.2.b≠[]->∀a,uo=M a->w.heap.size<=a.block∧¬Pd a.block)
 c:dr w' (aB S w) p g gs r.1
 b:al S w w'
def rf (x0 x1 x2:Value):Obj:=K #[x0,x1,x2] 70 (0,0)
theorem ay.mh {W d:X}{b:Nat}{ao:ai}{cap:Nat}{l:ae}(o:W.heap[b]? = M (rf (I J 0) (Z U 0 0) (Z U 0 0)))(h:ay W ao cap l)(q:al (fun k=>k=b) W d):ay d ao cap l:=by
 by_cases i:l=[]
 . subst i;exact ay.B d h
 . have j:=kH.2 i;obtain⟨m,r,rfl,_⟩:=h.j j;refine h.e q (fun a e=>?_);injection e with e;subst e;intro f;have f:m=b:=f;subst f;have c:=h.q 0 j;rw[ga,am W m _ _ _ _ o] at c;match r,c with
   | 0,c=>cases c
   | 1,c=>cases c
   | 2,c=>cases c
   | n+3,c=>simp at c
theorem cj.r {c:Nat->cU}{tr:List Int}{S':Nat->Prop}{W W':X}{bs:List Obj}{s:av}(h:cj (iz p g gs c tr) S w 0 bs s S' W)(q:Below W.heap.size W W'){i:Nat}(j:bs[i]? = M (rf (I J 0) (Z U 0 0) (Z U 0 0))){b:Nat}(r:w.heap.size+i=b)(o:oj){ci:Int}(t:(o.a:Int)=ci){ao uo:ai}{jQ an gT un:Nat}(u:an=o.c.length)(v:un=o.b.length)(x:ay W' ao jQ o.c)(y:ay W' uo gT o.b)(B:o.b≠[]->∀a,uo=M a->w.heap.size<=a.block∧¬S' a.block):
 (W'.cell? ⟨b,0,U⟩=M (I J 0)∧W'.cell? ⟨b,1,U⟩=M (Z U 0 0)∧W'.cell? ⟨b,2,U⟩=M (Z U 0 0)∧W'.frozen? ⟨b,0,U⟩=F∧W'.frozen? ⟨b,1,U⟩=F∧W'.frozen? ⟨b,2,U⟩=F) ∧
 Hid ((((W'.setCell ⟨b,0,U⟩ (I J ci)).setCell ⟨b,1,U⟩ (Z ao an jQ)).setCell ⟨b,2,U⟩ (Z uo un gT)).cell? ⟨b,0,U⟩=M (I J ci)∧(((W'.setCell ⟨b,0,U⟩ (I J ci)).setCell ⟨b,1,U⟩ (Z ao an jQ)).setCell ⟨b,2,U⟩ (Z uo un gT)).cell? ⟨b,1,U⟩=M (Z ao an jQ)∧(((W'.setCell ⟨b,0,U⟩ (I J ci)).setCell ⟨b,1,U⟩ (Z ao an jQ)).setCell ⟨b,2,U⟩ (Z uo un gT)).cell? ⟨b,2,U⟩=M (Z uo un gT)∧qW S w p g gs (⟨s,c,tr⟩,o) (Y (.agg #[I J ci,Z ao an jQ,Z uo un gT])) (((W'.setCell ⟨b,0,U⟩ (I J ci)).setCell ⟨b,1,U⟩ (Z ao an jQ)).setCell ⟨b,2,U⟩ (Z uo un gT))):=by
 subst r;have d:=h.a mt q;obtain⟨z,C⟩:=rZ (d.B i j) (I J ci) (Z ao an jQ) (Z uo un gT);have D:=(fB.1 j).1;refine⟨z,?_⟩;obtain⟨G,H,L,l⟩:=C.o;generalize (((W'.setCell ⟨w.heap.size+i,0,U⟩ _).setCell ⟨w.heap.size+i,1,U⟩ _).setCell ⟨w.heap.size+i,2,U⟩ _)=N at *;have T:=d.b;have f:dr N S' p g gs ⟨s,c,tr⟩:=T.j l (fun k e e2=>by
  rcases d.h k e with m | m
  . omega
  . omega)
 have n:∀k,S' k->aB S w k:=fun k e=>by
  rcases d.h k e with m | m
  . exact A m.1
  . exact R (by omega)
 exact⟨G,H,L,⟨ao,uo,jQ,an,gT,un,by rw[<-t],u,v,x.mh (d.B i j) l,y.mh (d.B i j) l,S',f,n,B⟩,f.a (fun k _ e=>n k e),(d.j.e (fun k e=>e.1)).a l (fun k e hk=>by omega)⟩
end
theorem Su (w:X)(m t:ag)(mi ln:Int)(l:aC)(fo bo:ai)(gG nf gF nb:Nat)(body:ae)(b:bx w fo gG nf (aI l))(c:l.length=nf)(d:nf<=1000000)(f:∀p∈l,p.1.size<=2000∧p.2.size<=2000)(g:m.size+t.size<=10000)(i:body.length=nb)(a:ay w bo gF body)(k:nb<=100000)(n:fu w):
 Calls prog 150 #[.agg #[V m,V t,I J mi,Z fo nf gG,I J ln],Z bo nb gF] w fun e w'=>B9 w (pd m t l) body e w':=by
 by_cases j:pe (cT m.data.toList) (jh t.data.toList) (m.data.toList.length+t.data.toList.length+10) nb nf (aE fg l).length (aE fh l).length (aE eQ l).length=0
 . exact OS w m t ⟨(ba 8 nb).toArray⟩ mi ln l fo bo gG nf gF nb body b c d f g i a (fun W o=>qE nb (by omega) W (n.a o)) rfl j
 . exact No w m t mi ln l fo bo gG nf gF nb body b c d f g i j
section
variable {w0 w w':X}
theorem OT (u:aL)(n:Nat)(hid:u.b=(n:Int))(hn:n<1000000000){bo:ai}{gF nb:Nat}(C:ay w bo gF u.a)(hb:u.a.length=nb)(hnb:nb<=100000)(hz:u.d.size<=2000)(hP:fu w)(sz st:Int):
 Calls prog 100 #[.agg #[I J (n:Int),I J sz,V u.d,Z bo nb gF,I J st]] w fun e w'=>∃(ao:ai) (cap m:Nat),e=Y (Z ao m cap)∧m=(iU u).length∧ay w' ao cap (iU u)∧Below w.heap.size w w'∧∀a,ao=M a->w.heap.size<=a.block:=by
 have G:=(aq _ w).alloc (ak _) (K #[I J (n:Int),I J sz,V u.d,Z bo nb gF,I J st] 92);have H:=qE n hn _ (hP.a G);obtain⟨d,hd⟩:∃d:ag,d=⟨(ba 8 n).toArray⟩:=⟨_,rfl⟩;have hdz:d.size<=9:=by
  rw[hd];show(ba 8 n).toArray.size<=9;rw[cN];exact(jq 8 n).1
 rw[<-hd] at H;have L:vF u.b=oY++d:=by
  unfold vF fb;rw[hid,Int.toNat_natCast,hd]
 have TS:lb u=pd vW (oY++d) (gL u.d):=by unfold lb;rw[L];rfl
 have XP:Hid (iU u=(ic (pd ⟨#[80,79,83,84]⟩ ((⟨#[47,116,97,107,101,47]⟩:ag)++d) (gL u.d)) u.a).1):=by unfold Hid iU;rw[TS];rfl
 have hzt:((⟨#[47,116,97,107,101,47]⟩:ag)++d).size<=15:=by rw[mj];show 6+d.size<=_;omega
 have hz1:¬(9223372036854775807<6+d.size):=by omega
 clear TS L hd;go_enter func100,ntmps100;go_wp2_with fail;refine H.mono ?_;rintro e b ⟨rfl,N⟩;have HR:=(N.block w.heap.size (by simp)).trans (bw w _);have x2:=am b _ 2 _ _ _ HR;have x3:=am b _ 3 _ _ _ HR;simp at x2 x3;have HB1:=ar G N;obtain⟨T,htb⟩:∃T,(u.d.toList==[])=T:=⟨_,rfl⟩;have W:(T=true->u.d.size=0)∧(T=F->¬u.d.size=0):=by
  rw[<-htb,Lib.toList_data];have e:u.d.data.toList.length=u.d.size:=by rw[cy];rfl
  exact⟨fun h=>by rw[<-e,cM.1 h];rfl,fun h h2=>aO.1 h (gW (e.trans h2))⟩
 have r:=(bH.1 HR).1;have hA1:=(aq _ b).alloc (ak _) (K #[V ⟨#[72,111,115,116]⟩,V ⟨#[105,110,108,97,110,100]⟩] 128);have hA2:=ar hA1 ((aq _ (b.alloc (K #[V ⟨#[72,111,115,116]⟩,V ⟨#[105,110,108,97,110,100]⟩] 128))).alloc (ak _) (K #[V ⟨#[80,79,83,84]⟩,V ((⟨#[47,116,97,107,101,47]⟩:ag)++d),I J 0,Z (M ⟨b.heap.size,0,U⟩) 1 1,I J 0] 82));have s:=(hA2.block w.heap.size r).trans HR;have p:=bw (b.alloc (K #[V ⟨#[72,111,115,116]⟩,V ⟨#[105,110,108,97,110,100]⟩] 128)) (K #[V ⟨#[80,79,83,84]⟩,V ((⟨#[47,116,97,107,101,47]⟩:ag)++d),I J 0,Z (M ⟨b.heap.size,0,U⟩) 1 1,I J 0] 82);have hs1:(b.alloc (K #[V ⟨#[72,111,115,116]⟩,V ⟨#[105,110,108,97,110,100]⟩] 128)).heap.size=b.heap.size+1:=ch ..;rw[hs1] at p;have yZ:aG ((b.alloc (K #[V ⟨#[72,111,115,116]⟩,V ⟨#[105,110,108,97,110,100]⟩] 128)).alloc (K #[V ⟨#[80,79,83,84]⟩,V ((⟨#[47,116,97,107,101,47]⟩:ag)++d),I J 0,Z (M ⟨b.heap.size,0,U⟩) 1 1,I J 0] 82)) b.heap.size 128 2 (M ⟨b.heap.size,0,U⟩) 1 1 (aI [(pS,pX)]):=by
  have h0:aG (b.alloc (K #[V ⟨#[72,111,115,116]⟩,V ⟨#[105,110,108,97,110,100]⟩] 128)) b.heap.size 128 2 (M ⟨b.heap.size,0,U⟩) 1 1 (aI [(pS,pX)]):=⟨rfl,.inr ⟨b.heap.size,1,_,rfl,ak _,bw b _,ak _,by decide,rfl,rfl⟩⟩;exact h0.q _
 have t:=ar HB1 hA2;have hs2:((b.alloc (K #[V ⟨#[72,111,115,116]⟩,V ⟨#[105,110,108,97,110,100]⟩] 128)).alloc (K #[V ⟨#[80,79,83,84]⟩,V ((⟨#[47,116,97,107,101,47]⟩:ag)++d),I J 0,Z (M ⟨b.heap.size,0,U⟩) 1 1,I J 0] 82)).heap.size=b.heap.size+2:=by rw[ch,hs1]
 have HS2:=aa hs2;clear hs2;have hsz:=r;obtain⟨i0,hi0,hq0,hq1,hq2⟩:=info_parts pv;have Hi:=aa hi0;have kT:=aa hq0;have kL:=aa hq1;have kU:=aa hq2
 have v:Hid (nb=u.a.length∧nb<=100000∧ay w bo gF u.a):=⟨hb.symm,hnb,C⟩;have Lp:=aa hP;go_upto_region 2 with fail
 generalize ((⟨#[47,116,97,107,101,47]⟩:ag)++d)=tg at *;generalize ((b.alloc (K #[V ⟨#[72,111,115,116]⟩,V ⟨#[105,110,108,97,110,100]⟩] 128)).alloc (K #[V ⟨#[80,79,83,84]⟩,V tg,I J 0,Z (M ⟨b.heap.size,0,U⟩) 1 1,I J 0] 82))=x at *;have x2:=am x _ 2 _ _ _ s;simp at x2;have h3:=am x _ 3 _ _ _ p;simp at h3;have hf3:=aD x _ 3 _ _ p;generalize b.heap.size=f at *;go_upto_if 15 with fail
 go_cut [] (fun wd=>∃(fo:ai) (fc nf:Nat),wd.heap[f+1]? = M (K #[V ⟨#[80,79,83,84]⟩,V tg,I J 0,Z fo nf fc,I J 0] 82 (0,0))∧nf=(gL u.d).length∧bx wd fo fc nf (aI (gL u.d))∧Below w.heap.size w wd∧wd.heap[w.heap.size]? = M (K #[I J (n:Int),I J sz,V u.d,Z bo nb gF,I J st] 92 (0,0)))
 case first =>
  cases T
  case true =>
   have y:=W.1 rfl;have zV:Hid (gL u.d=[(pS,pX)]):=by unfold Hid gL;rw[if_pos y]
   go_wp2;go_meet;exact⟨M ⟨f,0,U⟩,1,1,p,by rw[zV.o];rfl,by rw[zV.o];exact yZ.a,t,s⟩
  case false =>
   have y:=W.2 rfl;have zV:Hid (gL u.d=[(pS,pX)]++[(gR,u.d)]):=by unfold Hid gL;rw[if_neg y];rfl
   have Hf:Hid (Below x.heap.size x (x.alloc (K #[V ⟨#[85,112,108,111,97,100,45,77,101,116,97,100,97,116,97]⟩,V u.d] 128))):=(aq _ _).alloc (ak _) _;have mX:=aa (yZ.r Hf.o);have sH:Hid (∀g j l,(x.alloc (K #[V ⟨#[85,112,108,111,97,100,45,77,101,116,97,100,97,116,97]⟩,V u.d] 128)).grownBy g (M f)->aG g f 128 2 j l 2 (aI [(pS,pX)]++[V gR,V u.d])->(g.cell? ⟨f+1,3,U⟩=M (Z (M ⟨f,0,U⟩) 1 1)∧g.frozen? ⟨f+1,3,U⟩=F)∧((g.setCell ⟨f+1,3,U⟩ (Z j 2 l)).heap[f+1]? = M (K #[V ⟨#[80,79,83,84]⟩,V tg,I J 0,Z j 2 l,I J 0] 82 (0,0))∧bx (g.setCell ⟨f+1,3,U⟩ (Z j 2 l)) j l 2 (aI ([(pS,pX)]++[(gR,u.d)]))∧Below w.heap.size w (g.setCell ⟨f+1,3,U⟩ (Z j 2 l))∧(g.setCell ⟨f+1,3,U⟩ (Z j 2 l)).heap[w.heap.size]? = M (K #[I J (n:Int),I J sz,V u.d,Z bo nb gF,I J st] 92 (0,0)))):=fun g j l hG hO=>by
    have D:=(al.d (S:=fun k=>k=f) Hf.o).a (al.q hG (fun k e=>by injection e with e;exact e.symm)) (fun _ e _=>e);have r4:=D.j p (by omega);have u4:=D.j s (by omega);have xI:al (fun k=>k=f+1) g (g.setCell ⟨f+1,3,U⟩ (Z j 2 l)):=al.f (fun k=>k=f+1) g _ _ rfl;have hne:=iJ r4 hO (by decide);rw[dI] at hne;have yT:=hO.e xI (fun a e e2=>hne (by rw[e];show M a.block=_;rw[e2]));have hB4:=(t.trans (D.below (B:=w.heap.size) (fun k e=>by omega) t.size));refine⟨⟨am g _ 3 _ _ _ r4,aD g _ 3 _ _ r4⟩,aQ g _ 3 _ _ _ r4,yT.a,hB4.trans (xI.below (B:=w.heap.size) (fun k e=>by omega) hB4.size),xI.j u4 (by omega)⟩
   go_wp2_with (at_builtin;go_loud (refine fE rfl (.tmp 17) (.tmp 21) 80 rfl f 128 i0 (.agg #[V ⟨#[]⟩,V ⟨#[]⟩]) 2 32 underlying80 Hi.o kT.o kL.o kU.o rfl (by decide) rfl mX.o rfl (bx.d _ _ 1 _ _) rfl (xS _ _) (by decide) (by decide) (by rw[ch];have:=HS2.o;omega) ?_;intro j l g hO4 hG4 NQ;obtain⟨⟨e3,ef3⟩,hst⟩:=sH.o g j l hG4 hO4;have Lg:=aa hst;clear hO4 hG4 NQ hst))
   go_meet;exact⟨j,l,2,Lg.o.1,by rw[zV.o];rfl,by rw[zV.o];exact Lg.o.2.1,Lg.o.2.2.1,Lg.o.2.2.2⟩
 case rest =>
  obtain⟨fo,fc,nf,i,hnf,hV,C,hru⟩:=hcut;have b0:=am wc _ 0 _ _ _ i;have b1:=am wc _ 1 _ _ _ i;have b2:=am wc _ 2 _ _ _ i;have b3:=am wc _ 3 _ _ _ i;have b4:=am wc _ 4 _ _ _ i;have x3:=am wc _ 3 _ _ _ hru;simp at b0 b1 b2 b3 b4 x3;have nN:(gL u.d).length<=2:=by unfold gL;split <;> simp
  have HWr:=Su wc ⟨#[80,79,83,84]⟩ tg 0 0 (gL u.d) fo bo fc nf gF nb u.a hV hnf.symm (by omega) (fun q hq=>by
   unfold gL at hq;rcases fr.1 hq with e | e
   . subst e;exact⟨by decide,by decide⟩
   . split at e
     . cases e
     . rw[cD.1 e];exact⟨show gR.size<=2000 by decide,hz⟩) (by show 4+tg.size<=_;omega) v.o.1.symm (v.o.2.2.a C) v.o.2.1 (Lp.o.a C)
  have Gw:=aa C;clear hV C hru i hnf nN;go_wp2_with fail;refine HWr.mono ?_;intro e w5 hw;have HFin:∃(ao:ai) (cap k cd:Nat),e=Y (.tuple #[Z ao k cap,I J (cd:Int)])∧k=(iU u).length∧ay w5 ao cap (iU u)∧Below w.heap.size w w5∧∀a,ao=M a->w.heap.size<=a.block:=by
   cases hw with
   | bad c hc he ht z=>exact⟨U,0,0,c,he,by rw[XP.o,ht];rfl,by rw[XP.o,ht];exact ay.d _,ar Gw.o z,fun a e=>by cases e⟩
   | ok gb cap k he hk ht hO z=>exact⟨M ⟨gb,0,U⟩,cap,k,0,he,by rw[XP.o];exact hk,by rw[XP.o];exact hO.q,ar Gw.o z,fun a e=>by injection e with e;subst e;exact ce Gw.o.size hO.c⟩
  obtain⟨ao,cap,k,cd,rfl,D⟩:=HFin;have HT:=aa D;clear hw D;go_wp2;go_ret;exact⟨ao,cap,k,rfl,HT.o⟩
end
section
variable {w0 w w':X} {S:Nat->Prop} {p g gs:Nat} {P:cV}
def rW:Obj:=rf (I J 0) (Z U 0 0) (Z U 0 0)
theorem Iw (h:dr w S p g gs P):cj (iz p g gs P.c P.a) S w 0 [rW] P.s (fun k=>S k∧k<w.heap.size) (w.alloc (K #[I J 0,Z U 0 0,Z U 0 0] 70)) :=
 (cj.G mt (s:=P.s) h).q mt rfl (fun _ e=>e.2) _
theorem Sv (h:dr w S p g gs P)(ok:aN P.s)(id:Int):
 Calls prog 58 #[Q (M ⟨p,0,U⟩),I J id] w fun e w'=>qW S w p g gs (pV P id) e w':=by
 obtain⟨a,k⟩:∃a,a=pV P id:=⟨_,rfl⟩;rw[<-k];unfold pV at k;have t:=Iw h;have x0:=dr.d t.b;have d:=dr.G t.b ok id;have f:(lW P.s id).2≠0->(lW P.s id).1=P.s:=qh;generalize lW P.s id=r at *;obtain⟨s2,l⟩:=r;simp only at k d f;have m:=k;have G:=aa f
 go_enter func58,ntmps58;go_wp2_with fail;refine d.mono ?_;rintro e H ⟨rfl,D⟩;have n:=t.f (O:=iz p g gs P.c P.a) D.a D.b;have y0:=dr.d n.b;by_cases u:l=0
 . subst u;rw[if_neg (by simp)] at m;have L:=dr.r n.b;go_wp2_with fail;refine L.mono ?_;rintro e N ⟨rfl,j⟩;have T:=n.f (O:=iz p g gs P.c P.a) j.a j.b;obtain⟨⟨W,z1,z2,f0,f1,f2⟩,x⟩:=T.r (aq _ _) (i:=0) rfl (b:=w.heap.size) rfl ⟨0,[],[]⟩ (ci:=0) rfl (ao:=U) (uo:=U) (jQ:=0) (gT:=0) rfl rfl (ay.d _) (ay.d _) (fun q=>absurd rfl q);go_wp2;generalize (((N.setCell ⟨w.heap.size,0,U⟩ _).setCell ⟨w.heap.size,1,U⟩ _).setCell ⟨w.heap.size,2,U⟩ _)=wf at *;obtain⟨y,z,B,C⟩:=x.o;refine aR (v:=.agg #[I J 0,Z U 0 0,Z U 0 0]) (by simp[results,results58,go_sem,y,z,B]) rfl ?_;rw[m];exact C
 . rw[if_pos (by simpa using u)] at m;have e:=G.o u;subst e;have tc:=aO.2 (by omega);obtain⟨⟨W,z1,z2,f0,f1,f2⟩,x⟩:=n.r (aq _ _) (i:=0) rfl (b:=w.heap.size) rfl ⟨l,[],[]⟩ (ci:=(l:Int)) rfl (ao:=U) (uo:=U) (jQ:=0) (gT:=0) rfl rfl (ay.d _) (ay.d _) (fun q=>absurd rfl q);go_wp2;generalize (((H.setCell ⟨w.heap.size,0,U⟩ _).setCell ⟨w.heap.size,1,U⟩ _).setCell ⟨w.heap.size,2,U⟩ _)=wf at *;obtain⟨y,z,B,C⟩:=x.o;refine aR (v:=.agg #[I J (l:Int),Z U 0 0,Z U 0 0]) (by simp[results,results58,go_sem,y,z,B]) rfl ?_;rw[m];exact C
theorem S6 (hP:fu w0)(hW:Below w0.heap.size w0 w)(hF:∀i,S i->w0.heap.size<=i)(h:dr w S p g gs P)(ok:aN P.s)(htr:P.a.length<=1000000)(id:Int):
 Calls prog 57 #[Q (M ⟨p,0,U⟩),I J id] w fun e w'=>qW S w p g gs (pa P id) e w':=by
 obtain⟨z,hR⟩:∃z,z=pa P id:=⟨_,rfl⟩;rw[<-hR];unfold pa at hR;have T1:=Iw h;have x0:=dr.d T1.b;have C:=dr.B T1.b ok id;have D:(ex P.s id).2≠0->(ex P.s id).1=P.s:=qh;have G:(ex P.s id).2=0->∃i u,cq (ex P.s id).1.h.l id=M i∧(ex P.s id).1.h.l[i]? = M { u with e:=1 }∧vC (ex P.s id).1.h id=iU u∧u.b=id∧1<=id∧id<=100000∧u.d.size<=100∧u.a.length<=2000:=fun H=>by
  obtain⟨i,u,hp,m,t,_,_,he⟩:=Bo H;obtain⟨h1,h2,h3⟩:=Gg hp m he;have hk:=ok.h.a u (mm m);have:=hk.f;have:=hk.c;have:=ok.j
  exact⟨i,u,h1,h2,h3,t,by omega,by omega,hk.b,hk.a⟩
 have KI:=ok.r id;generalize ex P.s id=r at *;obtain⟨s2,c2⟩:=r;simp only at hR C D G KI;have L:=hR;have F7:=aa D;have HYs:=aa G
 have HP:=hP;have HW:=aa hW;have HF:=aa hF
 go_enter func57,ntmps57;go_wp2_with fail;refine C.mono ?_;rintro e w2 ⟨rfl,hd⟩;have T2:=T1.f (O:=iz p g gs P.c P.a) hd.a hd.b;obtain⟨y0,y1⟩:=dr.d T2.b;by_cases H:c2=0
 . subst H;rw[if_neg (by simp)] at L;obtain⟨i,u,hp,m,hsu,t,hlo,hhi,hnz,hbz⟩:=HYs.o rfl;rw[hsu] at L;have Lf:=dr.r T2.b;have N:=hp;have HUi:=aa m;have T:=aa t;have HNz:=aa hnz;have HBz:=aa hbz
   obtain⟨n,rfl⟩:∃n:Nat,id=n:=⟨id.toNat,by omega⟩;go_wp2_with fail;refine Lf.mono ?_;rintro e w3 ⟨rfl,W⟩;have T3:=T2.f (O:=iz p g gs P.c P.a) W.a W.b;have hba:=(aq _ w3).alloc (ak _) (K #[I J (n:Int)] 3);have T4:=T3.a mt hba;have hpl:=dr.ku T3.b;obtain⟨io,gZ,hO,hc1,hf1,_,_,hK⟩:=dr.y T4.b;have c3:=((hba.cell (p:=⟨p,1,U⟩) hpl).symm).trans hc1;have HO:aG (w3.alloc (K #[I J (n:Int)] 3)) 0 3 1 io gZ P.a.length (eE P.a):=hO;obtain⟨i0,hi0,hq0,hq1,hq2⟩:=info_parts wT;have Hi:=hi0;have kT:=aa hq0;have kL:=aa hq1;have kU:=aa hq2
   have sH:Hid (∀f x d,aG d 0 3 1 f x (P.a.length+1) (eE P.a++[I J (n:Int)])->(w3.alloc (K #[I J (n:Int)] 3)).grownBy d (au io)->(∀j,au f=M j->au io=M j∨(w3.alloc (K #[I J (n:Int)] 3)).heap.size<=j) ->
    (d.cell? ⟨p,1,U⟩=M (Z io P.a.length gZ)∧d.frozen? ⟨p,1,U⟩=F)∧∃Pd,cj (iz p g gs P.c (P.a++[(n:Int)])) S w 0 [rW] (ey s2) Pd (d.setCell ⟨p,1,U⟩ (Z f (P.a.length+1) x))):=fun f x d h1 h2 h3=>by
    obtain⟨k1,k2,k3⟩:=hK f x (n:Int) d h1 h2 h3;exact⟨k1,_,T4.E (O':=iz p g gs P.c (P.a++[(n:Int)])) k2 (fun _ e=>e) k3⟩
   generalize P.a.length=tn at *;go_upto_region 5 with fail
   go_upto_region 6 with (at_builtin;go_loud (refine fE rfl (.tmp 33) (.tmp 35) 55 rfl 0 3 i0 (I J 0) 1 8 underlying55 Hi kT.o kL.o kU.o rfl (by decide) rfl HO rfl (bx.d _ _ 1 _ _) rfl (fun u m=>by simp at m;rw[m];rfl) (by omega) (by omega) (ax _) ?_;intro f x d hO4 hG4 NQ;obtain⟨⟨e1,ef1⟩,hA4⟩:=sH.o f x d hO4 hG4 (fun j e=>by rcases NQ with q | q;exact A (q▸e);exact R (by rw[q] at e;injection e with e;omega));have HA4:=aa hA4;clear hO4 hG4 NQ hA4))
   obtain⟨A5,T5⟩:=HA4.o;generalize (d.setCell ⟨p,1,U⟩ (Z f (tn+1) x))=w5 at *;obtain⟨B,hSt,_,⟨y0,y1⟩,_⟩:=dr.e T5.b;obtain⟨gp,gl,lo,lca,Pp,hI⟩:=hSt;obtain⟨⟨y2,_⟩,_⟩:=cX hI.a;have hlt:=lk N;have hget:s2.h.l[i]={ u with e:=1 }:=by
    have:=HUi.o;rw[gU hlt] at this;injection this
   have y:=zw s2.h Pp gp (n:Int) i w5 hI.e KI.h N hlt;rw[hget] at y;simp only[T.o] at y;go_wp2_with fail;refine y.mono ?_;rintro e w6 ⟨bo,gF,rfl,Zv,hb6⟩;have hbx:=(aq _ w6).alloc (ak _) (K #[I J (n:Int),I J u.c,V u.d,Z bo u.a.length gF,I J 1] 92);have T7:=(T5.a mt hb6).a mt hbx;have Ht:=Zv.a hbx;have hr7:=bw w6 (K #[I J (n:Int),I J u.c,V u.d,Z bo u.a.length gF,I J 1] 92);have hW7:=HW.o.trans ((T7.j.e (S':=S) (fun k e=>e.1)).below (B:=w0.heap.size) (fun k e=>HF.o k e) HW.o.size);have HOn:=OT (w:=w6.alloc (K #[I J (n:Int),I J u.c,V u.d,Z bo u.a.length gF,I J 1] 92)) u n T.o (by omega) Ht rfl (by have:=HBz.o;omega) (by have:=HNz.o;omega) (HP.a hW7) u.c 1;have Z6:=(T7.nS mt);have Lj:=aa hr7
   go_upto_region 7 with fail
   generalize (w6.alloc (K #[I J (n:Int),I J u.c,V u.d,Z bo u.a.length gF,I J 1] 92))=W7 at *;have b0:=am W7 _ 0 _ _ _ Lj.o;have b1:=am W7 _ 1 _ _ _ Lj.o;have b2:=am W7 _ 2 _ _ _ Lj.o;have b3:=am W7 _ 3 _ _ _ Lj.o;have b4:=am W7 _ 4 _ _ _ Lj.o;simp at b0 b1 b2 b3 b4;go_wp2_with fail;refine HOn.mono ?_;rintro e w8 ⟨uo,gT,un,rfl,hun,hU8,hb8,hnw⟩;obtain⟨⟨z0,z1,z2,f0,f1,f2⟩,HE⟩:=Z6.r hb8 (i:=0) rfl (b:=w.heap.size) rfl ⟨0,[],iU u⟩ (ci:=0) rfl (ao:=U) (jQ:=0) (an:=0) rfl hun (ay.d _) hU8 (fun _ a e=>by have h1:=hnw a e;have h2:=Z6.c;exact⟨by omega,fun q=>by have:=q.2;omega⟩);clear b0 b1 b2 b3 b4 hun hU8 hb8 hnw;go_wp2;generalize (((w8.setCell ⟨w.heap.size,0,U⟩ _).setCell ⟨w.heap.size,1,U⟩ _).setCell ⟨w.heap.size,2,U⟩ _)=wf at *;obtain⟨q0,q1,q2,q3⟩:=HE.o;refine aR (v:=.agg #[I J 0,Z U 0 0,Z uo un gT]) (by simp[results,results57,go_sem,q0,q1,q2]) rfl ?_;rw[L];exact q3
 . rw[if_pos (by simpa using H)] at L;have e:=F7.o H;subst e;have tc:=cW.2 (by omega);obtain⟨⟨z0,z1,z2,f0,f1,f2⟩,HE⟩:=T2.r (aq _ _) (i:=0) rfl (b:=w.heap.size) rfl ⟨c2,[],[]⟩ (ci:=(c2:Int)) rfl (ao:=U) (uo:=U) (jQ:=0) (gT:=0) rfl rfl (ay.d _) (ay.d _) (fun q=>absurd rfl q);clear y0 y1;go_wp2;generalize (((w2.setCell ⟨w.heap.size,0,U⟩ _).setCell ⟨w.heap.size,1,U⟩ _).setCell ⟨w.heap.size,2,U⟩ _)=wf at *;obtain⟨q0,q1,q2,q3⟩:=HE.o;refine aR (v:=.agg #[I J (c2:Int),Z U 0 0,Z U 0 0]) (by simp[results,results57,go_sem,q0,q1,q2]) rfl ?_;rw[L];exact q3
end
section
variable {w0 w w1 wf wr:X} {S:Nat->Prop} {g gs:Nat} {s:av} {c:Nat->cU} {κ:Nat->mw} {x:Nat->lq} {v:Nat->List Value} {k gp:Nat}
theorem dJ.lH (h:dJ w0 κ g gs s v c x jt fi wr)(t:dT w1 (fun i=>wr.heap.size<=i) gp qb)(o:Below wr.heap.size wr w1)(l:gI wf g gs (bN v k (mN fj (pR gp))))(m:al (fun i=>i=g) w1 wf):
 dJ w0 (cA κ wr.heap.size (.rq k)) g gs s (bN v k (mN fj (pR gp))) (bN c k fj) (bN x k (pR gp)) jt fi wf:=by
 have b:=h.a;have n:=(b .row).1.f;have p:=h.b.size;have a:∀d,d≠.row->gc g gs s v 4 c x jt fi d wf (fun i=>cA κ wr.heap.size (.rq k) i=d):=fun d u=>by
  have L:bQ (gc g gs s v 4 c x jt fi d):=lK (fun _=>bQ.a) bQ.a d;have y:=L.c (b d) (S':=fun i=>κ i=d∧i<wr.heap.size) (fun i z e=>⟨e,z⟩);have C:=L.b (L.b y (al.d (S:=fun _=>False) o) (fun _ _ e=>e)) m (fun i e r=>u (by rw[<-e.1,r];exact(b .row).2));exact L.c C (fun i _ e=>(fF e.2).trans e.1)
 refine⟨fun d=>?_,h.f,h.b.trans ((al.d o).a m (fun i e _=>e) |>.below (B:=w0.heap.size) (fun i e=>by rw[e];exact h.d g (by rw[(b .row).2];intro q;cases q)) p),xP h.d p⟩;cases d with
 | row=>exact⟨l,(fF n).trans (b .row).2⟩
 | jl=>exact a .jl (by intro q;cases q)
 | rq j =>
   intro f;by_cases e:j=k
   . subst e;rw[dd,dd];exact(t.d m (fun i e r=>by omega)).a (fun i _ e=>qz e)
   . rw[em _ _ e,em _ _ e];exact a (.rq j) (by intro q;cases q) f
 | fl j =>
   refine⟨fun f=>?_,trivial⟩;by_cases e:j=k
   . subst e;rw[dd,dd];exact jz.a _ _
   . rw[em _ _ e,em _ _ e];exact(a (.fl j) (by intro q;cases q)).1 f
 | bd j =>
   intro f;by_cases e:j=k
   . subst e;rw[dd,dd];exact bM.d _ _ _
   . rw[em _ _ e,em _ _ e];exact a (.bd j) (by intro q;cases q) f
 | ret=>trivial
 | out=>trivial
theorem By {d:mw}{n:Nat}(h:∀i,κ i≠.out->aB S w i)(e:w.heap.size<=n):∀i,cA κ n d i≠.out->aB S w i:=fun i a=>by
 rcases fe i n with b | b
 . rw[fF b] at a;exact h i a
 . exact R (by omega)
theorem dJ.B (h:dJ w0 κ g gs s (eK c x) c x jt fi wr)(a:∀i,κ i≠.out->aB S w i):gH wr (aB S w) g gs s c:=⟨κ,x,h.a,a⟩
theorem Np (j:Int)(b:j<0∨4<=j)(w:X):
 Calls prog 11 #[Q (M ⟨g,0,U⟩),I J j] w fun e w'=>e=Y (I J 1)∧w'=w:=by
 have a:=fun W=>zf j W;rw[show(decide (0<=j)&&decide (j<4))=F from by rcases b with h | h <;> simp <;> omega] at a;go_enter func11,ntmps11;go_wp2_with fail;refine(a _).mono ?_;rintro e w1 ⟨rfl,d⟩;subst d;go_wp2;go_ret;exact⟨rfl,rfl⟩
structure yr (S:Nat->Prop)(w:X)(g gs:Nat)(c:Nat->cU)(k:Nat)(s:av)(w':X):Prop where
 a:gH w' (aB S w) g gs s (bN c k fj)
 b:al S w w'
theorem Sw (hP:fu w0)(hW:Below w0.heap.size w0 w)(hF:∀i,S i->w0.heap.size<=i)(h:gH w S g gs s c)(ok:aN s)(k:Nat)(r:k<4)(hc:pG (c k))(hl:(c k).b.length<=20000):
 Calls prog 11 #[Q (M ⟨g,0,U⟩),I J (k:Int)] w fun e w'=>e=Y (I J 0)∧yr S w g gs c k (oe bq s (c k)) w':=by
 have HI:=fun W=>zf (k:Int) W;rw[show(decide ((0:Int)<=(k:Int))&&decide ((k:Int)<4))=true from by simp;omega] at HI;obtain⟨κ,x,hH,hS⟩:=h;have hG0:dJ w0 κ g gs s (eK c x) c x jt fi w:=⟨hH,hP,hW,fun i e=>hF i (hS i e)⟩;have G:∀k,bQ (jt k):=fun _=>bQ.a;have H:bQ fi:=bQ.a;have HIp:=fun W=>M6 ⟨(c k).a.c.toArray⟩ ⟨(c k).a.b.toArray⟩ ((c k).a.e:Int) (c k).a.d (x k).c (x k).a (c k).a.a.length (x k).d (c k).b.length (x k).b W (by show(c k).a.b.toArray.size<=_;rw[cN];have:=hc.a.c;omega);have HNc:=fun W=>Dh W;have k0:(0:Int)<=(k:Int):=by omega
 have k4:(k:Int)<4:=by omega
 have Lm:=zu hG0.j r (rfl:eK c x k=[Q (M ⟨(x k).e,0,U⟩),V ⟨(c k).a.c.toArray⟩,V ⟨(c k).a.b.toArray⟩,I J ((c k).a.e:Int),Z (x k).c (c k).a.a.length (x k).d,I J (c k).a.d,Z (x k).a (c k).b.length (x k).b]);obtain⟨y,hR⟩:∃y,y=oe bq s (c k):=⟨_,rfl⟩;rw[<-hR];unfold oe at hR;obtain⟨bp,hbp⟩:∃b,(decide ((⟨(c k).a.c.toArray⟩:ag)=uW)&&uV ⟨(c k).a.b.toArray⟩)=b:=⟨_,rfl⟩;simp only[hbp] at HIp;have hpc:(je (c k).a.c=uW∧uV (je (c k).a.b)=true)<->bp=true:=by
  rw[<-hbp,gr,decide_eq_true_iff];rfl
 go_enter func11,ntmps11;go_wp2_with fail;refine(HI _).mono ?_;rintro e w1 ⟨rfl,hw⟩;rw[hw];go_wp2_with fail;refine Lm.mono ?_;rintro e n ⟨rfl,hr2,kD⟩;have h2:=hG0.q G H hr2 kD;have hS2:=By (d:=.row) (w:=w) (S:=S) (fun i e=>A (hS i e)) (ak _);have hbx:=(aq _ n).alloc (ak _) (K #[V ⟨(c k).a.c.toArray⟩,V ⟨(c k).a.b.toArray⟩,I J ((c k).a.e:Int),Z (x k).c (c k).a.a.length (x k).d,I J (c k).a.d,Z (x k).a (c k).b.length (x k).b] 84);have T:=bw n (K #[V ⟨(c k).a.c.toArray⟩,V ⟨(c k).a.b.toArray⟩,I J ((c k).a.e:Int),Z (x k).c (c k).a.a.length (x k).d,I J (c k).a.d,Z (x k).a (c k).b.length (x k).b] 84);have h3:=h2.e G H hbx;have hlt2:n.heap.size<(n.alloc (K #[V ⟨(c k).a.c.toArray⟩,V ⟨(c k).a.b.toArray⟩,I J ((c k).a.e:Int),Z (x k).c (c k).a.a.length (x k).d,I J (c k).a.d,Z (x k).a (c k).b.length (x k).b] 84)).heap.size:=by rw[ch];omega
 have hg2:=hr2.f;have pW:al S w (n.alloc (K #[V ⟨(c k).a.c.toArray⟩,V ⟨(c k).a.b.toArray⟩,I J ((c k).a.e:Int),Z (x k).c (c k).a.a.length (x k).d,I J (c k).a.d,Z (x k).a (c k).b.length (x k).b] 84)):=(kD.e (fun i e=>by rw[e];exact hS g (by rw[(hH .row).2];intro h;cases h))).a (al.d (S:=fun _=>False) hbx) (fun _ e _=>e.elim);go_upto_region 4 with fail
 generalize (n.alloc (K #[V ⟨(c k).a.c.toArray⟩,V ⟨(c k).a.b.toArray⟩,I J ((c k).a.e:Int),Z (x k).c (c k).a.a.length (x k).d,I J (c k).a.d,Z (x k).a (c k).b.length (x k).b] 84))=W2 at *;have sH:Hid (∀gp C wf,dT C (fun i=>W2.drew.heap.size<=i) gp qb->Below W2.drew.heap.size W2.drew C->gI wf g gs (bN (bN (eK c x) k [Q (M ⟨(x k).e,0,U⟩),V ⟨#[]⟩,V ⟨#[]⟩,I J 0,Z U 0 0,I J 0,Z U 0 0]) k (mN fj (pR gp)))->al (fun i=>i=g) C wf ->
  (∃D6 x',dJ w0 D6 g gs s (eK (bN c k fj) x') (bN c k fj) x' jt fi wf∧∀i,D6 i≠.out->aB S w i)∧wf.heap[n.heap.size]? = M (K #[V ⟨(c k).a.c.toArray⟩,V ⟨(c k).a.b.toArray⟩,I J ((c k).a.e:Int),Z (x k).c (c k).a.a.length (x k).d,I J (c k).a.d,Z (x k).a (c k).b.length (x k).b] 84 (0,0))∧al S w wf∧bx wf (x k).c (x k).d (c k).a.a.length (aI (bL (c k).a.a))∧ay wf (x k).a (x k).b (c k).b):=fun gp C wf O7 z hrf Xb=>by
  have h4:=(h3.e G H (bA _ _));have h5:=h4.lH O7 z hrf Xb;rw[pw,<-ux] at h5;have B:=ar (bA _ _) z;have L:=h3.e G H B;have hgr:cA κ w.heap.size .row g=.row:=(h2.a .row).2;refine⟨⟨_,_,h5,By hS2 ?_⟩,Xb.j ((B.block _ hlt2).trans T) (fun e=>by have e:n.heap.size=g:=e;omega),(pW.a (al.d (S:=fun _=>False) B) (fun _ e _=>e.elim)).a Xb (fun i e _=>by rw[e];exact hS g (by rw[(hH .row).2];intro h;cases h)),?_,?_⟩
  . exact pW.b
  . exact(((L.a (.fl k)).1 r).d Xb (fun i e e2=>by rw[e2] at e;have:=hgr.symm.trans e;cases this)).b
  . exact bM.f ((L.a (.bd k) r).a Xb (fun i e e2=>by rw[e2] at e;have:=hgr.symm.trans e;cases this))
 have HR3:∀W,Below W2.heap.size W2 W->gI W g gs _:=fun W hW=>(h3.e G H hW).j;go_cut [] (fun wd=>(∃D6 x',dJ w0 D6 g gs s (eK (bN c k fj) x') (bN c k fj) x' jt fi wd∧∀i,D6 i≠.out->aB S w i)∧wd.heap[n.heap.size]? = M (K #[V ⟨(c k).a.c.toArray⟩,V ⟨(c k).a.b.toArray⟩,I J ((c k).a.e:Int),Z (x k).c (c k).a.a.length (x k).d,I J (c k).a.d,Z (x k).a (c k).b.length (x k).b] 84 (0,0))∧al S w wd∧bx wd (x k).c (x k).d (c k).a.a.length (aI (bL (c k).a.a))∧ay wd (x k).a (x k).b (c k).b)
 case first =>
  go_region_law ((go_simp;go_at_call 37;refine(HNc _).mono ?_;rintro e C ⟨gp,rfl,O7,z⟩;have B:Below W2.heap.size W2 C:=ar (bA _ _) z;have a:=HR3 C B;obtain⟨a0,a1,a2,a3,a4,a5,a6,N⟩:=rT (a.b k r);have c0:C.cell? ⟨g,1+k*7,U⟩=M a0:=a.a r (j:=0) (by decide) (by rw[N];rfl);have c1:=a.a r (j:=1) (by decide) (u:=a1) (by rw[N];rfl);have c2:=a.a r (j:=2) (by decide) (u:=a2) (by rw[N];rfl);have c3:=a.a r (j:=3) (by decide) (u:=a3) (by rw[N];rfl);have c4:=a.a r (j:=4) (by decide) (u:=a4) (by rw[N];rfl);have c5:=a.a r (j:=5) (by decide) (u:=a5) (by rw[N];rfl);have c6:=a.a r (j:=6) (by decide) (u:=a6) (by rw[N];rfl);have fz:=fun j=>a.e j;have Lg:=aa (sH.o gp C _ O7 z (a.j r (Q (M ⟨gp,0,U⟩)) (V ⟨#[]⟩) (V ⟨#[]⟩) (I J 0) (Z U 0 0) (I J 0) (Z U 0 0)).1 (a.j r (Q (M ⟨gp,0,U⟩)) (V ⟨#[]⟩) (V ⟨#[]⟩) (I J 0) (Z U 0 0) (I J 0) (Z U 0 0)).2);clear O7 z N B a))
  all_goals
   go_wp2;go_meet;exact Lg.o
 case rest =>
  obtain⟨⟨κ3,x3,hG3,Ll⟩,l,hTw,hFV,hBV⟩:=hcut;have b0:=am wc _ 0 _ _ _ l;have b1:=am wc _ 1 _ _ _ l;have b2:=am wc _ 2 _ _ _ l;have b3:=am wc _ 3 _ _ _ l;have b4:=am wc _ 4 _ _ _ l;have b5:=am wc _ 5 _ _ _ l;have Xl:=(bH.1 l).1;have HRw:=l;have HTw:=hTw;have Av:=hG3;have Au:=aa Ll;have HFV:=hFV;have HBV:=hBV
  go_wp2_with fail;refine(HIp _).mono ?_;rintro e w5 ⟨rfl,f⟩;have xI:al S w w5:=HTw.a (al.d (S:=fun _=>False) f) (fun _ e _=>e.elim);have h5:=Av.e G H f;have b6:=(f.cell (p:=⟨n.heap.size,5,U⟩) Xl).trans b5;have xE:s=y->yr S w g gs c k y w5:=fun e=>⟨by rw[<-e];exact h5.B Au.o,xI⟩;cases bp with
  | false =>
    have HN:=xE (by rw[hR,if_neg (fun e=>by have:=hpc.1 ⟨e.1,e.2.1⟩;cases this)]);go_wp2;go_ret;exact⟨rfl,HN⟩
  | true =>
    by_cases D:(c k).b=[]
    . have HN:=aa (xE (by rw[hR,if_neg (fun e=>e.2.2 D)]));have hl0:(c k).b.length=0:=by rw[D];rfl
      have t:decide (((c k).b.length:Int) > 0)=F:=aW (by omega);go_wp2;go_ret;exact⟨rfl,HN⟩
    . have hp:=hpc.2 rfl;rw[if_pos ⟨hp.1,hp.2,D⟩] at hR;have hl0:=kH.2 D;have t:decide (((c k).b.length:Int) > 0)=true:=aV (by omega);have L:dJ w0 κ3 g gs s (eK (bN c k fj) x3) (bN c k fj) x3 jt fi w5.drew:=h5.e G H (bA _ _);have HDo:=Hv (m:=⟨(c k).a.c.toArray⟩) (t:=⟨(c k).a.b.toArray⟩) (mi:=((c k).a.e:Int)) (ln:=(c k).a.d) ⟨L.f,L.b,fun i e=>L.d i (by rw[e];intro h;cases h)⟩ (L.a .jl) ok (Iu hc.a ((hFV.a f).a (bA _ _))) (c k).b rfl ((hBV.a f).a (bA _ _)) (by omega) (by show(c k).a.b.toArray.size<=_;rw[cN];have:=hc.a.c;omega);have hz5:=xI.b;have HDn:∀w9,aY w9 (aB (fun i=>κ3 i=.jl) w5.drew) gs (bq s ⟨(c k).a.c.toArray⟩ ⟨(c k).a.b.toArray⟩ (pL (c k).a.a) (c k).b).1->al (fun i=>κ3 i=.jl) w5.drew w9->yr S w g gs c k y w9:=fun w9 kC rE=>by
       have h9:=L.E G H kC rE;refine⟨?_,(xI.a (al.y (fun _=>False) w5 1) (fun _ e _=>e.elim)).a rE (fun i e hi=>?_)⟩
       . rw[hR];exact h9.B (By Au.o hz5)
       . rcases Au.o i (by rw[e];intro h;cases h) with q | q
         . exact q
         . omega
      have y0:=h5.j.q;have y1:=(f.cell (p:=⟨n.heap.size,0,U⟩) Xl).trans b0;have y2:=(f.cell (p:=⟨n.heap.size,1,U⟩) Xl).trans b1;have y3:=(f.cell (p:=⟨n.heap.size,2,U⟩) Xl).trans b2;have y4:=(f.cell (p:=⟨n.heap.size,3,U⟩) Xl).trans b3;have y5:=(f.cell (p:=⟨n.heap.size,4,U⟩) Xl).trans b4;go_upto_region 6 with fail
      go_cut [] (fun wd=>yr S w g gs c k y wd)
      case first =>
       go_region_law (first | (go_simp;go_at_call 39;refine HDo.mono ?_;rintro e w9 ⟨⟨jI,iB,n9,rfl,mK,jY⟩,kC,rE⟩;have XQ:=aa (HDn w9 kC rE);clear mK jY kC rE))
       all_goals
        go_wp2;go_meet;exact XQ.o
      case rest =>
       go_wp2;go_ret;exact⟨rfl,hcut⟩
end
section
variable {w0 w:X} {S:Nat->Prop} {g gs:Nat} {s:av} {c:Nat->cU}
def vz:List Value:=[Q U,V ⟨#[]⟩,V ⟨#[]⟩,I J 0,Z U 0 0,I J 0,Z U 0 0]
theorem pz.d (h:aY w S gs s):pz (fun k=>(S k∧k<w.heap.size)∨k=w.heap.size) (w.alloc (K (lt gs (fun _=>vz)).toArray 89)) w.heap.size gs s 0 (w.alloc (K (lt gs (fun _=>vz)).toArray 89)):=by
 have l:=(aq _ w).alloc (ak _) (K (lt gs (fun _=>vz)).toArray 89);classical
 refine⟨⟨fun k=>if k=w.heap.size then .row else if S k∧k<w.heap.size then .jl else .out,fun _=>vz,fun _=>pR 0,fun d=>?_,fun k a=>absurd a (pk k),fun k a=>?_⟩,al.r _ _⟩
 . cases d with
   | row=>exact⟨⟨bw w _,fun _ _=>rfl⟩,if_pos rfl⟩
   | jl=>exact aY.a ((aY.a h (S':=fun k=>S k∧k<w.heap.size) (fun k a e=>⟨e,a⟩)).d l) (fun k _ e=>by
    show(if k=w.heap.size then mw.row else if S k∧k<w.heap.size then .jl else .out)=.jl;rw[if_neg (by have:=e.2;omega),if_pos e])
   | rq j=>exact fun b=>absurd b (pk j)
   | fl j=>exact⟨fun b=>absurd b (pk j),trivial⟩
   | bd j=>exact fun b=>absurd b (pk j)
   | ret=>trivial
   | out=>trivial
 . simp only at a;by_cases f:k=w.heap.size
   . exact A (R f)
   . rw[if_neg f] at a;by_cases i:S k∧k<w.heap.size
     . exact A (A i)
     . rw[if_neg i] at a;exact absurd rfl a
theorem S7 (h:aY w S gs s):
 Calls prog 9 #[Q (M ⟨gs,0,U⟩)] w fun e w'=>e=Y (Q (M ⟨w.heap.size,0,U⟩))∧gH w' (aB S w) w.heap.size gs s (fun _=>fj)∧al S w w':=by
 have b:=(aq _ w).alloc (ak _) (K (lt gs (fun _=>vz)).toArray 89);go_enter func9,ntmps9;go_wp2_with fail;refine(Es (pz.d h)).mono ?_;rintro e d ⟨rfl,f,i⟩;have a:gH d (aB S w) w.heap.size gs s (fun _=>fj)∧al S w d:=by
  have j:=b.size;refine⟨f.a (fun k _ e=>?_),(al.d b).a i (fun k e l=>?_)⟩
  . rcases e with (e | e) | e
    . exact A e.1
    . exact R (by omega)
    . exact R (by omega)
  . rcases e with e | e
    . exact e.1
    . omega
 go_wp2;go_ret;exact⟨rfl,a⟩
end
section
variable {w0 w w':X} {S:Nat->Prop} {p g gs N:Nat} {P:cV}
theorem dr.jD (t:fu w0)(u:Below w0.heap.size w0 w)(v:∀i,S i->w0.heap.size<=i)(h:dr w S p g gs P)(ok:mF P N)(k:Int)(l:ae){bo:ai}{gF n:Nat}(x:ay w bo gF l)(y:l≠[]->∀a,bo=M a->¬S a.block)(z:l.length=n)(L:N+n<=20000):
 Calls prog 13 #[Q (M ⟨g,0,U⟩),I J k,Z bo n gF] w fun e w'=>∃ao cap m,e=Y (.tuple #[Z ao m cap,I J ((lT P k l).2.a:Int)])∧m=(lT P k l).2.c.length∧ay w' ao cap (lT P k l).2.c∧oQ S w p g gs (lT P k l).1 w':=by
 unfold lT;by_cases b:pT k
 . rw[if_pos b];obtain⟨T,B,d,_,C⟩:=h.f;have W:=b.1;have h4:=b.2
   obtain⟨j,rfl⟩:∃j:Nat,k=j:=⟨k.toNat,by omega⟩;rw[Int.toNat_natCast];refine(Ss t u (fun i e=>v i (d i e)) B ok.s j (by omega) (ok.c j) l x (fun f a e q=>y f a e (d _ q)) z (by have:=ok.a j;omega)).mono ?_;rintro e D ⟨⟨ao,cap,m,rfl,G,H⟩,o,r⟩;refine⟨ao,cap,m,?_,G,H,C _ _ _ o r,r.e d⟩;split <;> rfl
 . rw[if_neg b];refine(Nn k (by unfold pT at b;omega) bo gF n w).mono ?_;rintro e D ⟨rfl,rfl⟩;exact⟨U,0,0,rfl,rfl,ay.d _,h.a (fun _ _ e=>A e),al.r _ _⟩
theorem dr.jK (l:fu w0)(m:Below w0.heap.size w0 w)(n:∀i,S i->w0.heap.size<=i)(h:dr w S p g gs P)(ok:mF P N)(t:N<=20000)(k:Int):
 Calls prog 11 #[Q (M ⟨g,0,U⟩),I J k] w fun e w'=>e=Y (I J ((mG P k).2.a:Int))∧oQ S w p g gs (mG P k).1 w':=by
 unfold mG;by_cases a:pT k
 . rw[if_pos a];obtain⟨u,o,d,_,q⟩:=h.f;have v:=a.1;have x:=a.2
   obtain⟨j,rfl⟩:∃j:Nat,k=j:=⟨k.toNat,by omega⟩;rw[Int.toNat_natCast];refine(Sw l m (fun i e=>n i (d i e)) o ok.s j (by omega) (ok.c j) (by have:=ok.a j;omega)).mono ?_;rintro e r ⟨rfl,b,f⟩;exact⟨rfl,q _ _ _ b f,f.e d⟩
 . rw[if_neg a];refine(Np k (by unfold pT at a;omega) w).mono ?_;rintro e r ⟨rfl,rfl⟩;exact⟨rfl,h.a (fun _ _ e=>A e),al.r _ _⟩
theorem dr.E (h:dr w S p g gs P)(ok:aN P.s)(n:Int):Calls prog 59 #[Q (M ⟨gs,0,U⟩),I J n] w fun e w'=>e=Y (.tuple #[])∧oQ S w p g gs ⟨ie P.s n,P.c,P.a⟩ w':=by
 obtain⟨B,b,d,_,f⟩:=h.e;exact(Nb b ok n).mono fun e w' ⟨i,a⟩=>⟨i,f _ _ a.b a.a,a.a.e d⟩
theorem dr.lH (h:dr w S p g gs P):Calls prog 33 #[Q (M ⟨g,0,U⟩)] w fun e w'=>e=Y (.tuple #[])∧oQ S w p g gs ⟨P.s,fun _=>fj,P.a⟩ w':=by
 obtain⟨j,b,c,_,d⟩:=h.f;exact(Es (pz.a b)).mono fun e w' ⟨f,i,a⟩=>⟨f,d _ _ _ i a,a.e c⟩
theorem N4 (P:cV)(k:Int)(l:ae):(lT P k l).2.b=[]∧(lT P k l).1.a=P.a:=by
 unfold lT;split <;> exact⟨rfl,rfl⟩
theorem N5 (P:cV)(k:Int):(mG P k).2.b=[]∧(mG P k).2.c=[]∧(mG P k).1.a=P.a:=by
 unfold mG;split <;> exact⟨rfl,rfl,rfl⟩
theorem UM (h:dr w S p g gs P)(o:Obj):cj (iz p g gs P.c P.a) S w 0 [o,rW] P.s (fun k=>S k∧k<w.heap.size) ((w.alloc o).alloc (K #[I J 0,Z U 0 0,Z U 0 0] 70)) :=
 ((cj.G mt (s:=P.s) h).q mt rfl (fun _ e=>e.2) o).q mt (by rw[ch];rfl) (fun k e=>by rw[ch];have:=e.2;omega) _
theorem FH (hP:fu w0)(hW:Below w0.heap.size w0 w)(hF:∀i,S i->w0.heap.size<=i)(h:dr w S p g gs P)(ok:mF P N)(htr:P.a.length<=1000000)(x:di){bo:ai}{gF nb:Nat}(hB:ay w bo gF x.b)(ug:x.b≠[]->∀a,bo=M a->¬S a.block)(hn:x.b.length=nb)(hl:N+nb<=20000):
 Calls prog 25 #[Q (M ⟨p,0,U⟩),.agg #[I J x.c,I J x.a,I J x.n,Z bo nb gF]] w fun e w'=>qW S w p g gs (dk P x) e w':=by
 obtain⟨d,hR⟩:∃d,d=dk P x:=⟨_,rfl⟩;rw[<-hR];unfold dk at hR;have T2:=UM h (K #[I J x.c,I J x.a,I J x.n,Z bo nb gF] 73 (0,0));have hb2:Below w.heap.size w ((w.alloc (K #[I J x.c,I J x.a,I J x.n,Z bo nb gF] 73)).alloc (K #[I J 0,Z U 0 0,Z U 0 0] 70)):=ar ((aq _ w).alloc (ak _) _) ((aq _ _).alloc (ak _) _);have hB2:=hB.a hb2;have hW2:=ar hW hb2;have HP:=hP;have HF:=aa hF;have y:=aa hR
 obtain⟨kd,hkd⟩:∃kd,x.c=kd:=⟨_,rfl⟩;rw[hkd] at y T2 hB2 hW2 ⊢;clear hb2 hR hP hF hB hW h;go_enter func25,ntmps25;go_upto_region 1 with fail
 generalize ((w.alloc (K #[I J kd,I J x.a,I J x.n,Z bo nb gF] 73)).alloc (K #[I J 0,Z U 0 0,Z U 0 0] 70))=t at *;have hrx:=T2.B 0 rfl;have k0:=am t _ 0 _ _ _ hrx;have k1:=am t _ 1 _ _ _ hrx;have k2:=am t _ 2 _ _ _ hrx;have k3:=am t _ 3 _ _ _ hrx;simp at k0 k1 k2 k3;have c0:=dr.d T2.b;have r:=T2;have HB2:=aa hB2;have HW2:=aa hW2
 by_cases h1:kd=1
 . subst h1;rw[if_pos rfl] at y;have l:=N4 P x.a x.b;have T3:=r.a mt (bA t.heap.size _);have HFe:=dr.jD (w:=t.drew) (N:=N) HP (ar HW2.o (bA _ _)) (fun i e=>HF.o i e.1) T3.b ok x.a x.b (HB2.o.a (bA _ _)) (fun hne a e q=>ug hne a e q.1) hn hl;rw[<-y.o] at HFe l;have sH:∀f,oQ (fun k=>S k∧k<w.heap.size) t.drew p g gs d.1 f->∃z,cj (iz p g gs d.1.c d.1.a) S w 0 [K #[I J 1,I J x.a,I J x.n,Z bo nb gF] 73 (0,0),rW] d.1.s z f:=fun f j=>⟨_,T3.E (O':=iz p g gs d.1.c d.1.a) j.a (fun _ e=>e) j.b⟩;go_upto_region 3 with fail
   go_cut [5,6] (fun v5 v6 wd=>∃(ao:ai) (u m:Nat) (z:Nat->Prop),v5=Z ao m u∧v6=I J (d.2.a:Int)∧m=d.2.c.length∧ay wd ao u d.2.c∧cj (iz p g gs d.1.c d.1.a) S w 0 [K #[I J 1,I J x.a,I J x.n,Z bo nb gF] 73 (0,0),rW] d.1.s z wd)
   case first =>
    go_region_law (first | (go_simp;go_at_call 13;refine HFe.mono ?_;rintro e f ⟨ao,u,m,rfl,hm,hI,j⟩;have HM:=aa hm;have HI:=aa hI;have HD:=aa (sH f j);clear hm hI j))
    all_goals
     go_wp2;go_meet;obtain⟨z,hA⟩:=HD.o;exact⟨ao,u,m,z,rfl,rfl,HM.o,HI.o,hA⟩
   case rest =>
    obtain⟨ao,u,m,z,rfl,rfl,hm,hI,W⟩:=hcut;obtain⟨⟨z0,z1,z2,f0,f1,f2⟩,C⟩:=W.r (aq _ _) (i:=1) rfl (b:=w.heap.size+1) rfl d.2 (ci:=(d.2.a:Int)) rfl (ao:=ao) (jQ:=u) (an:=m) (uo:=U) (gT:=0) (un:=0) hm (by rw[l.1];rfl) hI (by rw[l.1];exact ay.d _) (fun q=>absurd l.1 q);clear hm hI W HFe;generalize d.2.a=B at *;go_wp2;generalize (((wc.setCell ⟨w.heap.size+1,0,U⟩ _).setCell ⟨w.heap.size+1,1,U⟩ _).setCell ⟨w.heap.size+1,2,U⟩ _)=wf at *;obtain⟨D,G,H,L⟩:=C.o;refine aR (v:=.agg #[I J (B:Int),Z ao m u,Z U 0 0]) (by simp[results,results25,go_sem,D,G,H]) rfl ?_;exact L
 by_cases h2:kd=2
 . subst h2;rw[if_neg (by decide),if_pos rfl] at y;have l:=N5 P x.a;have T3:=r.a mt (bA t.heap.size _);have HGo:=dr.jK (w:=t.drew) (N:=N) HP (ar HW2.o (bA _ _)) (fun i e=>HF.o i e.1) T3.b ok (by omega) x.a;rw[<-y.o] at HGo l;obtain⟨B,hcd⟩:∃B,d.2.a=B:=⟨_,rfl⟩;rw[hcd] at HGo;have sH:∀f,oQ (fun k=>S k∧k<w.heap.size) t.drew p g gs d.1 f->_:=fun f j=>(T3.E (O':=iz p g gs d.1.c d.1.a) j.a (fun _ e=>e) j.b).r (aq _ _) (i:=1) rfl (b:=w.heap.size+1) rfl d.2 (ci:=(B:Int)) (by rw[hcd]) (ao:=U) (jQ:=0) (an:=0) (uo:=U) (gT:=0) (un:=0) (by rw[l.2.1];rfl) (by rw[l.1];rfl) (by rw[l.2.1];exact ay.d _) (by rw[l.1];exact ay.d _) (fun q=>absurd l.1 q);clear T3 l hcd;have t1:((2:Int)==1)=F:=rfl;go_upto_region 6 with fail
   go_cut [] (fun wd=>wd.cell? ⟨w.heap.size+1,0,U⟩=M (I J (B:Int))∧wd.cell? ⟨w.heap.size+1,1,U⟩=M (Z U 0 0)∧wd.cell? ⟨w.heap.size+1,2,U⟩=M (Z U 0 0)∧qW S w p g gs d (Y (.agg #[I J (B:Int),Z U 0 0,Z U 0 0])) wd)
   case first =>
    go_region_law (first | (go_simp;go_at_call 11;refine HGo.mono ?_;rintro e f ⟨rfl,j⟩;obtain⟨⟨z0,z1,z2,f0,f1,f2⟩,C⟩:=sH f j;clear j))
    all_goals
     go_wp2;go_meet;exact C.o
   case rest =>
    obtain⟨D,G,H,L⟩:=hcut;go_wp2;refine aR (v:=.agg #[I J (B:Int),Z U 0 0,Z U 0 0]) (by simp[results,results25,go_sem,D,G,H]) rfl ?_;exact L
 by_cases h3:kd=3
 . subst h3;rw[if_neg (by decide),if_neg (by decide),if_pos rfl] at y;have T:=S6 (w:=t) HP HW2.o (fun i e=>HF.o i e.1) r.b ok.s htr x.n;rw[<-y.o] at T;have sH:∀e f,qW (fun k=>S k∧k<w.heap.size) t p g gs d e f->∃(ao uo:ai) (jQ an gT un:Nat),e=Y (.agg #[I J (d.2.a:Int),Z ao an jQ,Z uo un gT])∧_:=fun e f j=>by
    obtain⟨⟨ao,uo,jQ,an,gT,un,he,han,hun,hI1,hI2,z,hA,hAs,hAu⟩,hat,W⟩:=j;exact⟨ao,uo,jQ,an,gT,un,he,(r.E (O':=iz p g gs d.1.c d.1.a) hA hAs W).r (aq _ _) (i:=1) rfl (b:=w.heap.size+1) rfl d.2 (ci:=(d.2.a:Int)) rfl (ao:=ao) (jQ:=jQ) (an:=an) (uo:=uo) (gT:=gT) (un:=un) han hun hI1 hI2 (fun q a e=>by obtain⟨h1,h2⟩:=hAu q a e;have:=r.c;exact⟨by omega,h2⟩)⟩
   go_wp2_with fail;refine T.mono ?_;intro e f j;obtain⟨ao,uo,jQ,an,gT,un,rfl,⟨z0,z1,z2,f0,f1,f2⟩,C⟩:=sH e f j;generalize d.2.a=B at *;go_wp2;generalize (((f.setCell ⟨w.heap.size+1,0,U⟩ _).setCell ⟨w.heap.size+1,1,U⟩ _).setCell ⟨w.heap.size+1,2,U⟩ _)=wf at *;obtain⟨D,G,H,L⟩:=C.o;refine aR (v:=.agg #[I J (B:Int),Z ao an jQ,Z uo un gT]) (by simp[results,results25,go_sem,D,G,H]) rfl ?_;exact L
 by_cases h4:kd=4
 . subst h4;rw[if_neg (by decide),if_neg (by decide),if_neg (by decide),if_pos rfl] at y;have T:=Sv (w:=t) r.b ok.s x.n;rw[<-y.o] at T;have sH:∀e f,qW (fun k=>S k∧k<w.heap.size) t p g gs d e f->∃(ao uo:ai) (jQ an gT un:Nat),e=Y (.agg #[I J (d.2.a:Int),Z ao an jQ,Z uo un gT])∧_:=fun e f j=>by
    obtain⟨⟨ao,uo,jQ,an,gT,un,he,han,hun,hI1,hI2,z,hA,hAs,hAu⟩,hat,W⟩:=j;exact⟨ao,uo,jQ,an,gT,un,he,(r.E (O':=iz p g gs d.1.c d.1.a) hA hAs W).r (aq _ _) (i:=1) rfl (b:=w.heap.size+1) rfl d.2 (ci:=(d.2.a:Int)) rfl (ao:=ao) (jQ:=jQ) (an:=an) (uo:=uo) (gT:=gT) (un:=un) han hun hI1 hI2 (fun q a e=>by obtain⟨h1,h2⟩:=hAu q a e;have:=r.c;exact⟨by omega,h2⟩)⟩
   go_wp2_with fail;refine T.mono ?_;intro e f j;obtain⟨ao,uo,jQ,an,gT,un,rfl,⟨z0,z1,z2,f0,f1,f2⟩,C⟩:=sH e f j;generalize d.2.a=B at *;go_wp2;generalize (((f.setCell ⟨w.heap.size+1,0,U⟩ _).setCell ⟨w.heap.size+1,1,U⟩ _).setCell ⟨w.heap.size+1,2,U⟩ _)=wf at *;obtain⟨D,G,H,L⟩:=C.o;refine aR (v:=.agg #[I J (B:Int),Z ao an jQ,Z uo un gT]) (by simp[results,results25,go_sem,D,G,H]) rfl ?_;exact L
 by_cases h5:kd=5
 . subst h5;rw[if_neg (by decide),if_neg (by decide),if_neg (by decide),if_neg (by decide),if_pos rfl] at y;have T3:=r.a mt (bA t.heap.size _);have Q5:=dr.E (w:=t.drew) T3.b ok.s x.n;have sH:∀f,oQ (fun k=>S k∧k<w.heap.size) t.drew p g gs ⟨ie P.s x.n,P.c,P.a⟩ f->∃z,cj (iz p g gs P.c P.a) S w 0 [K #[I J 5,I J x.a,I J x.n,Z bo nb gF] 73 (0,0),rW] (ie P.s x.n) z f:=fun f j=>⟨_,T3.f (O:=iz p g gs P.c P.a) j.a j.b⟩;go_upto_region 12 with fail
   go_cut [] (fun wd=>∃z,cj (iz p g gs P.c P.a) S w 0 [K #[I J 5,I J x.a,I J x.n,Z bo nb gF] 73 (0,0),rW] (ie P.s x.n) z wd)
   case first =>
    go_region_law (first | (go_simp;go_at_call 59;refine Q5.mono ?_;rintro e f ⟨rfl,j⟩;have HD:=aa (sH f j);clear j))
    all_goals
     go_wp2;go_meet;exact HD.o
   case rest =>
    obtain⟨z,W⟩:=hcut;have HRe:=dr.lH (w:=wc) W.b;have y0:=dr.d W.b;go_wp2_with fail;refine HRe.mono ?_;rintro e w4 ⟨rfl,j⟩;obtain⟨⟨z0,z1,z2,f0,f1,f2⟩,C⟩:=(W.E (O':=iz p g gs (fun _=>fj) P.a) j.a (fun _ e=>e) j.b).r (aq _ _) (i:=1) rfl (b:=w.heap.size+1) rfl ⟨0,[],[]⟩ (ci:=0) rfl (ao:=U) (jQ:=0) (an:=0) (uo:=U) (gT:=0) (un:=0) rfl rfl (ay.d _) (ay.d _) (fun q=>absurd rfl q);go_wp2;generalize (((w4.setCell ⟨w.heap.size+1,0,U⟩ _).setCell ⟨w.heap.size+1,1,U⟩ _).setCell ⟨w.heap.size+1,2,U⟩ _)=wf at *;obtain⟨D,G,H,L⟩:=C.o;refine aR (v:=.agg #[I J 0,Z U 0 0,Z U 0 0]) (by simp[results,results25,go_sem,D,G,H]) rfl ?_;rw[y.o];exact L
 . rw[if_neg h1,if_neg h2,if_neg h3,if_neg h4,if_neg h5] at y;have t1:=aO.2 h1;have t2:=aO.2 h2;have t3:=aO.2 h3;have t4:=aO.2 h4;have t5:=aO.2 h5;obtain⟨⟨z0,z1,z2,f0,f1,f2⟩,C⟩:=r.r (aq _ _) (i:=1) rfl (b:=w.heap.size+1) rfl ⟨11,[],[]⟩ (ci:=11) rfl (ao:=U) (uo:=U) (jQ:=0) (gT:=0) (an:=0) (un:=0) rfl rfl (ay.d _) (ay.d _) (fun q=>absurd rfl q);go_wp2;generalize (((t.setCell ⟨w.heap.size+1,0,U⟩ _).setCell ⟨w.heap.size+1,1,U⟩ _).setCell ⟨w.heap.size+1,2,U⟩ _)=wf at *;obtain⟨D,G,H,L⟩:=C.o;refine aR (v:=.agg #[I J 11,Z U 0 0,Z U 0 0]) (by simp[results,results25,go_sem,D,G,H]) rfl ?_;rw[y.o];exact L
end
theorem dr.jN {w:X}{b:Nat->Prop}{g gs:Nat}(h:gH w b g gs jj (fun _=>fj)):dr (w.alloc (K #[Q (M ⟨g,0,U⟩),Z U 0 0] 78)) (fun k=>(b k∧k<w.heap.size)∨k=w.heap.size) w.heap.size g gs dj:=by
 have j:=(aq _ w).alloc (ak _) (K #[Q (M ⟨g,0,U⟩),Z U 0 0] 78);classical
 refine⟨fun k=>if k=w.heap.size then .row else if b k∧k<w.heap.size then .gate else .out,U,0,fun d=>?_,fun k c=>?_⟩
 . cases d with
   | row=>exact⟨bw w _,if_pos rfl⟩
   | gate=>exact gH.a ((h.a (S':=fun k=>b k∧k<w.heap.size) (fun k c e=>⟨e,c⟩)).f j) (fun k _ e=>by
    show(if k=w.heap.size then yx.row else if b k∧k<w.heap.size then .gate else .out)=.gate;rw[if_neg (by have:=e.2;omega),if_pos e])
   | tr=>exact⟨aG.f _ _ _ _,fun a e=>by cases e⟩
   | out=>trivial
 . simp only at c;by_cases f:k=w.heap.size
   . exact R f
   . rw[if_neg f] at c;by_cases i:b k∧k<w.heap.size
     . exact A i
     . rw[if_neg i] at c;exact absurd rfl c
theorem ET (w:X):
 Calls prog 24 #[] w fun e w'=>∃p g gs,e=Y (Q (M ⟨p,0,U⟩))∧dr w' (fun k=>w.heap.size<=k∧k<w'.heap.size) p g gs dj∧Below w.heap.size w w':=by
 go_enter func24,ntmps24;go_wp2_with fail;refine(Sa w).mono ?_;rintro e c ⟨gs,rfl,f,a⟩;go_wp2_with fail;refine(S7 f).mono ?_;rintro e d ⟨rfl,i,m⟩;have o:=a.size;have s:=m.b;have j:=a.trans (m.below (B:=w.heap.size) (fun k e=>e) o);have q:=dr.jN i;have l:=ar j ((aq _ d).alloc (ak _) (K #[Q (M ⟨c.heap.size,0,U⟩),Z U 0 0] 78));have b:dr (d.alloc (K #[Q (M ⟨c.heap.size,0,U⟩),Z U 0 0] 78)) (fun k=>w.heap.size<=k∧k<(d.alloc (K #[Q (M ⟨c.heap.size,0,U⟩),Z U 0 0] 78)).heap.size) d.heap.size c.heap.size gs dj:=q.a (fun k r e=>⟨by
  rcases e with e | e
  . rcases e.1 with n | n
    . exact n
    . omega
  . omega,r⟩)
 go_wp2;go_ret;exact⟨_,_,gs,rfl,b,l⟩
structure Is (l:List di):Prop where
 a:l.length<=100
 b:jJ l<=12000
def IB (w:X)(l:List di)(e:Ending)(w':X):Prop:=∃b:Bool,e=Y (.bool b)∧(b=F->Is l)∧w'=w
theorem LO (l:List di)(ao:ai)(cap n:Nat)(w:X)(i:px w ao cap l)(r:l.length=n)(s:∀q∈l,q.b.length<=140737488355328)(G:n<=140737488355328):
 Calls prog 22 #[Z ao n cap] w fun e w'=>IB w l e w':=by
 subst r;have H:=i;have t:=aa s
 have j:=i.d;go_enter func22,ntmps22;go_wp2;go_loopw [3,4] (fun u d wr=>∃(k:Nat) (v:Int),k<=l.length∧d=I J k∧u=I J v∧(k<=100->v=(jJ (l.take k):Int)∧jJ (l.take k)<=k*140737488355328)∧wr=w) (fun _ d _=>l.length-(intOf d).toNat)
 case atStart=>exact⟨0,0,ax _,rfl,rfl,fun _=>by simp[jJ],rfl⟩
 case round =>
  obtain⟨k,v,L,rfl,rfl,a,x⟩:=hrel;subst x;by_cases c:k<l.length
  . have m:(k:Int)<l.length:=by omega
    obtain⟨b,o,N,rfl,y⟩:=H.a k c;have z:=t.o l[k] (dG c);have S:=Bi l k c;have T:=y.a;generalize l[k]=p at *;generalize p.b.length=nb at *;have f:k+1<=100->wrap64 (v+(nb:Int))=(jJ (l.take (k+1)):Int)∧jJ (l.take (k+1))<=(k+1)*140737488355328:=fun h=>by
     obtain⟨B,W⟩:=a (by omega);rw[B,QV (by omega) (by omega)];omega
    go_wp2;go_roundw
    case rel=>exact⟨k+1,_,by omega,by go_num,rfl,f,by first | rfl | trivial⟩
    case measure=>simp[intOf];omega
  . obtain rfl:k=l.length:=by omega
    have g:l.take l.length=l:=fD;rw[g] at a;by_cases h1:100<l.length
    . have C:decide ((l.length:Int) > 100)=true:=aV (by omega);go_wp2;go_ret;exact⟨true,rfl,(fun h=>by cases h),rfl⟩
    . have C:decide ((l.length:Int) > 100)=F:=aW (by omega);obtain⟨rfl,_⟩:=a (by omega);by_cases h2:12000<jJ l
      . have D:decide ((jJ l:Int) > 12000)=true:=aV (by omega);go_wp2;go_ret;exact⟨true,rfl,(fun h=>by cases h),rfl⟩
      . have D:decide ((jJ l:Int) > 12000)=F:=aW (by omega);go_wp2;go_ret;exact⟨F,rfl,fun _=>⟨by omega,by omega⟩,rfl⟩
