import Derived.Test.YtodmelffkfbalaaGreatDoorPk48
import Derived.Test.YtodmelffkfbalaaGreatDoorPk43
import Derived.Test.YtodmelffkfbalaaGreatDoorPk37
import Derived.Test.YtodmelffkfbalaaGreatDoorPk44
open Go.Value renaming int->I,string->V,slice->Z,pointer->Q
open Go.IntKind renaming i64->J
open Go.Obj renaming cells->K
open Go.Ending renaming returned->Y
open Option renaming none->U,some->M
open Bool renaming false->F
open Or renaming inl->A,inr->R
open Go renaming World->X
set_option maxHeartbeats 6400000
set_option maxRecDepth 100000
open Go.Proofs.Tryz
namespace Go.Proofs.YtodmelffkfbalaaGreatDoor
open Go.RowKit
structure dG (w0:X)(κ:Nat->lY)(g gs:Nat)(s:av)(v:Nat->List Value)(c:Nat->da)(x:Nat->kR)(z:Nat->dC)(o:dC)(w:X):Prop where
 a:eJ (fN g gs s v 4 c x z o) κ w
 e:dj w0
 b:Below w0.heap.size w0 w
 d:∀i,κ i≠.out->w0.heap.size<=i
section
variable {w0 w w':X} {κ:Nat->lY} {g gs:Nat} {s s':av} {v v':Nat->List Value} {c c':Nat->da} {x x':Nat->kR} {z:Nat->dC} {o:dC}
theorem xg {n:Nat}{d:lY}(a:∀i,κ i≠.out->w0.heap.size<=i)(b:w0.heap.size<=n):∀i,cA κ n d i≠.out->w0.heap.size<=i:=by intro l;induction l <;> grind [cA]
theorem dG.y (a:∀k,bM (z k))(b:bM o)(h:dG w0 κ g gs s v c x z o w){T N:Nat->Prop}(d:lY)(hd:d≠.out)(f:am T w w')(i:∀k,T k->κ k=d)(j:fN g gs s' v' 4 c' x' z o d w' N)(l:∀k,N k->κ k=d∨w.heap.size<=k)(m:∀e,e≠d->fN g gs s' v' 4 c' x' z o e=fN g gs s v 4 c x z o e):dG w0 (cA κ w.heap.size d) g gs s' v' c' x' z o w' :=
 ⟨h.a.a (le a b) f i (X':=fN g gs s' v' 4 c' x' z o) (le a b d) j l m,h.e,h.b.trans (f.below (fun k e=>h.d k (by rw[i k e];exact hd)) h.b.size),xg h.d h.b.size⟩
theorem dG.f (b:∀k,bM (z k))(d:bM o)(h:dG w0 κ g gs s v c x z o w)(a:Below w.heap.size w w'):dG w0 κ g gs s v c x z o w':=⟨h.a.f (le b d) a,h.e,au h.b a,h.d⟩
theorem dG.jY (a:∀k,bM (z k))(b:bM o)(h:dG w0 κ g gs s v c x z o w):dG w0 (cA κ w.heap.size .out) g gs s v c x z o w:=by
 refine⟨fun d=>?_,h.e,h.b,xg h.d h.b.size⟩;exact(le a b d).b (h.a d) (fun k f e=>(fg f).trans e)
theorem dG.r (a:∀k,bM (z k))(b:bM o)(h:dG w0 κ g gs s v c x z o w)(f:gj w' g gs v')(j:am (fun i=>i=g) w w'):dG w0 (cA κ w.heap.size .row) g gs s v' c x z o w' :=
 h.y a b .row (by intro h;cases h) j (fun k e=>by rw[e];exact(h.a .row).2) (N:=fun k=>k=g) ⟨f,rfl⟩ (fun k e=>A (by rw[e];exact(h.a .row).2)) (fun d l=>by cases d <;> first | rfl | exact absurd rfl l)
theorem dG.H (a:∀k,bM (z k))(b:bM o)(h:dG w0 κ g gs s v c x z o w)(f:aS w' (ay (fun k=>κ k=.jd) w) gs s')(i:am (fun k=>κ k=.jd) w w'):dG w0 (cA κ w.heap.size .jd) g gs s' v c x z o w' :=
 h.y a b .jd (by intro h;cases h) i (fun _ e=>e) f (fun _ e=>e) (fun d j=>by cases d <;> first | rfl | exact absurd rfl j)
theorem dG.j (h:dG w0 κ g gs s v c x z o w):gj w g gs v:=(h.a .row).1
theorem dG.B (h:dG w0 κ g gs s v c x z o w)(k:Nat)(hd:dg)(fo:ag)(gy:Nat)(f:js w (fun i=>κ i=.fl k) fo gy hd.a.length (aI (co hd.a))):dG w0 κ g gs s v (bL c k { c k with a:=hd }) (bL x k { x k with c:=fo,d:=gy }) z o w:=by
 refine⟨fun d=>?_,h.e,h.b,h.d⟩;have a:=h.a d;cases d with
 | row=>exact a
 | jd=>exact a
 | rq j =>
   intro b;by_cases e:j=k
   . subst e;rw[dc,dc];exact a b
   . rw[ef _ _ e,ef _ _ e];exact a b
 | fl j =>
   refine⟨fun b=>?_,a.2⟩;by_cases e:j=k
   . subst e;rw[dc,dc];exact f
   . rw[ef _ _ e,ef _ _ e];exact a.1 b
 | bd j =>
   intro b;by_cases e:j=k
   . subst e;rw[dc,dc];exact a b
   . rw[ef _ _ e,ef _ _ e];exact a b
 | ret=>exact a
 | out=>trivial
theorem dG.jK (h:dG w0 κ g gs s v c x z o w)(k:Nat):dG w0 κ g gs s v (bL c k { c k with b:=[] }) (bL x k { x k with a:=U,b:=0 }) z o w:=by
 refine⟨fun d=>?_,h.e,h.b,h.d⟩;have a:=h.a d;cases d with
 | row=>exact a
 | jd=>exact a
 | rq j =>
   intro b;by_cases e:j=k
   . subst e;rw[dc,dc];exact a b
   . rw[ef _ _ e,ef _ _ e];exact a b
 | fl j =>
   refine⟨fun b=>?_,a.2⟩;by_cases e:j=k
   . subst e;rw[dc,dc];exact a.1 b
   . rw[ef _ _ e,ef _ _ e];exact a.1 b
 | bd j =>
   intro b;by_cases e:j=k
   . subst e;rw[dc,dc];exact bK.f _ _ _
   . rw[ef _ _ e,ef _ _ e];exact a b
 | ret=>exact a
 | out=>trivial
theorem dG.lI (q:∀k,bM (z k))(r:bM o)(h:dG w0 κ g gs s v c x z o w)(k:Nat)(t:k<4){n:ag}{p:Nat}{b:ab}(u:bK w' (fun i=>cw (c k).b (x k).a=M i∨w.heap.size<=i) 5 n p ((c k).b++b))(y:am (fun i=>cw (c k).b (x k).a=M i) w w'):dG w0 (cA κ w.heap.size (.bd k)) g gs s v (bL c k { c k with b:=(c k).b++b }) (bL x k { x k with a:=n,b:=p }) z o w':=by
 have f:∀i,cw (c k).b (x k).a=M i->κ i=.bd k:=fun i e=>by
  unfold cw at e;split at e
  . cases e
  . rename_i l;rcases h.a (.bd k) t with ⟨_,_,B⟩ | ⟨C,_⟩
    . cases m:(x k).a with
      | none=>rw[m] at e;cases e
      | some a=>rw[m] at e;injection e with e;rw[<-e];exact B a m
    . exact absurd C l
 refine h.y q r (.bd k) (by intro h;cases h) y f (N:=fun i=>cw (c k).b (x k).a=M i∨w.heap.size<=i) ?_ (fun i e=>?_) (fun d D=>?_)
 . intro _;rw[dc,dc];exact u
 . rcases e with e | e
   . exact A (f i e)
   . exact R e
 . cases d with
   | row=>rfl
   | jd=>rfl
   | rq j =>
     by_cases e:j=k
     . subst e;simp only[fN,dc]
     . simp only[fN];rw[ef _ _ e,ef _ _ e]
   | fl j =>
     by_cases e:j=k
     . subst e;simp only[fN,dc]
     . simp only[fN];rw[ef _ _ e,ef _ _ e]
   | bd j =>
     have e:j≠k:=fun e=>D (by rw[e]);simp only[fN];rw[ef _ _ e,ef _ _ e]
   | ret=>rfl
   | out=>rfl
end
theorem gj.H {w:X}{g gs:Nat}{v:Nat->List Value}(h:gj w g gs v){k:Nat}(a:k<4){l n a2 p q r m:Value}(s:v k=[l,n,a2,p,q,r,m]){o:Nat}(t:1+k*7=o)(b c d e f:Value):
 gj (((((w.setCell ⟨g,o+1,U⟩ b).setCell ⟨g,o+2,U⟩ c).setCell ⟨g,o+3,U⟩ d).setCell ⟨g,o+4,U⟩ e).setCell ⟨g,o+5,U⟩ f) g gs (bL v k [l,b,c,d,e,f,m])∧am (fun i=>i=g) w (((((w.setCell ⟨g,o+1,U⟩ b).setCell ⟨g,o+2,U⟩ c).setCell ⟨g,o+3,U⟩ d).setCell ⟨g,o+4,U⟩ e).setCell ⟨g,o+5,U⟩ f):=by
 subst t;refine⟨?_,jr g [b,c,d,e,f] (1+k*7+1) w⟩;have:=((((h.f a (j:=1) (by decide) b).f a (j:=2) (by decide) c).f a (j:=3) (by decide) d).f a (j:=4) (by decide) e).f a (j:=5) (by decide) f;simp only[oU,dc,s] at this;exact this
def wH {C:Type}(κ Dw:Nat->C)(n:Nat):Prop:=∀i,i<n->Dw i=κ i
theorem wH.a {C:Type}{κ a:Nat->C}{n m:Nat}(h:wH κ a n)(c:n<=m)(d:C):wH κ (cA a m d) n:=fun i b=>by rw[fg (by omega)];exact h i b
theorem wH.f {C:Type}(κ:Nat->C)(n:Nat):wH κ κ n:=fun _ _=>rfl
structure ov (w0:X)(κ:Nat->lY)(g gs:Nat)(c:Nat->da)(z:Nat->dC)(o:dC)(k:Nat)(w:X)(G:eI)(e:Ending)(w':X):Prop where
 d:∃(ao:ag) (cap n:Nat),e=Y (Z ao n cap)∧n=G.a.length∧aB w' ao cap G.a
 b:∃Dw x',dG w0 Dw g gs G.s (ep (bL c k ⟨(c k).c,G.c,G.b⟩) x') (bL c k ⟨(c k).c,G.c,G.b⟩) x' z o w'∧wH κ Dw w.heap.size
 a:am (fun i=>κ i=.row∨κ i=.jd∨κ i=.bd k) w w'
section
variable {w0 w:X} {κ:Nat->lY} {g gs:Nat} {s:av} {c:Nat->da} {x:Nat->kR} {z:Nat->dC} {o:dC} {k:Nat}
theorem G9 {hd:dg}(h:jo hd){fo:ag}{gy:Nat}(a:bq w fo gy hd.a.length (aI (co hd.a))):fW w (pq hd.a) fo gy hd.a.length :=
 ⟨a, by rw[show pq hd.a = co hd.a from rfl]; exact uM _, by have := h.a; omega, fun p b => by
  obtain⟨f,d,rfl⟩:=my.1 b;have:=h.c f d;refine⟨?_,?_⟩
  . show f.1.toArray.size<=_;rw[cz];omega
  . show f.2.toArray.size<=_;rw[cz];omega⟩
theorem Rn (u:∀k,bM (z k))(v:bM o)(h:dG w0 κ g gs s (ep c x) c x z o w)(b:k<4)(hd:dg){fo bo n:ag}{gy nf nb fZ p r:Nat}(y:hd.a.length=nf)(H:js w (fun i=>κ i=.fl k) fo gy nf (aI (co hd.a))):
 Calls prog 58 #[Q (M ⟨g,0,U⟩),Q (M ⟨g,1+k*7,U⟩),.agg #[I J 1,V ⟨hd.e.toArray⟩,V ⟨hd.b.toArray⟩,I J (hd.d:Int),Z fo nf gy,I J hd.c,Z bo nb fZ,V ⟨#[]⟩,V ⟨#[]⟩,V ⟨#[]⟩,Z n p r,I J 0]] w fun e w'=>ov w0 κ g gs c z o k w ⟨s,hd,(c k).b,[]⟩ e w':=by
 have l:=(ar _ w).alloc (ak _) (K #[I J 1,V ⟨hd.e.toArray⟩,V ⟨hd.b.toArray⟩,I J (hd.d:Int),Z fo nf gy,I J hd.c,Z bo nb fZ,V ⟨#[]⟩,V ⟨#[]⟩,V ⟨#[]⟩,Z n p r,I J 0] 98);have B:=h.f u v l;have a:=B.j;have d:ep c x k=[Q (M ⟨(x k).e,0,U⟩),V ⟨(c k).a.e.toArray⟩,V ⟨(c k).a.b.toArray⟩,I J ((c k).a.d:Int),Z (x k).c (c k).a.a.length (x k).d,I J (c k).a.c,Z (x k).a (c k).b.length (x k).b]:=rfl;have L:=a.a b (j:=1) (by decide) (by rw[d];rfl);have N:=a.a b (j:=2) (by decide) (by rw[d];rfl);have T:=a.a b (j:=3) (by decide) (by rw[d];rfl);have W:=a.a b (j:=4) (by decide) (by rw[d];rfl);have c5:=a.a b (j:=5) (by decide) (by rw[d];rfl);have f1:=a.j (1+k*7+1);have f2:=a.j (1+k*7+2);have f3:=a.j (1+k*7+3);have f4:=a.j (1+k*7+4);have f5:=a.j (1+k*7+5)
 obtain⟨q,C⟩:∃q,1+k*7=q:=⟨_,rfl⟩;have D:=a.H b d C (V ⟨hd.e.toArray⟩) (V ⟨hd.b.toArray⟩) (I J (hd.d:Int)) (Z fo nf gy) (I J hd.c);rw[C] at L N T W c5 f1 f2 f3 f4 f5 ⊢;have t:=H.f (am.f (S:=fun _=>False) l) (fun _ _ e=>e);have f:∀m,gj m g gs (bL (ep c x) k [Q (M ⟨(x k).e,0,U⟩),V ⟨hd.e.toArray⟩,V ⟨hd.b.toArray⟩,I J (hd.d:Int),Z fo nf gy,I J hd.c,Z (x k).a (c k).b.length (x k).b])->am (fun i=>i=g) (w.alloc (K #[I J 1,V ⟨hd.e.toArray⟩,V ⟨hd.b.toArray⟩,I J (hd.d:Int),Z fo nf gy,I J hd.c,Z bo nb fZ,V ⟨#[]⟩,V ⟨#[]⟩,V ⟨#[]⟩,Z n p r,I J 0] 98)) m->ov w0 κ g gs c z o k w ⟨s,hd,(c k).b,[]⟩ (Y (Z U 0 0)) m:=fun m hr G=>by
  have h2:=B.B k hd fo gy (by rw[y];exact t);have h3:=h2.r u v hr G;refine⟨⟨U,0,0,rfl,rfl,aB.f _⟩,⟨_,bL x k { x k with c:=fo,d:=gy },?_,(wH.f κ _).a l.size .row⟩,(am.f l).a G (fun i e _=>A (by rw[e];exact(h.a .row).2))⟩;rw[vV];have:mx ⟨(c k).c,hd,(c k).b⟩ { x k with c:=fo,d:=gy }=[Q (M ⟨(x k).e,0,U⟩),V ⟨hd.e.toArray⟩,V ⟨hd.b.toArray⟩,I J (hd.d:Int),Z fo nf gy,I J hd.c,Z (x k).a (c k).b.length (x k).b]:=by unfold mx;rw[y]
  rw[this];exact h3
 go_enter func58,ntmps58;go_wp2;go_ret;exact f _ D.1 D.2
theorem Ro (G:∀k,bM (z k))(H:bM o)(h:dG w0 κ g gs s (ep c x) c x z o w)(p:k<4)(b:ab){fo bo r:ag}{gy nf nb fZ t u:Nat}(hn:b.length=nb)(hB:aB w bo fZ b)(hl:(c k).b.length+nb<=100000):
 Calls prog 58 #[Q (M ⟨g,0,U⟩),Q (M ⟨g,1+k*7,U⟩),.agg #[I J 2,V ⟨#[]⟩,V ⟨#[]⟩,I J 0,Z fo nf gy,I J 0,Z bo nb fZ,V ⟨#[]⟩,V ⟨#[]⟩,V ⟨#[]⟩,Z r t u,I J 0]] w fun e w'=>ov w0 κ g gs c z o k w ⟨s,(c k).a,(c k).b++b,[]⟩ e w':=by
 have L:=(ar _ w).alloc (ak _) (K #[I J 2,V ⟨#[]⟩,V ⟨#[]⟩,I J 0,Z fo nf gy,I J 0,Z bo nb fZ,V ⟨#[]⟩,V ⟨#[]⟩,V ⟨#[]⟩,Z r t u,I J 0] 98);have N:=(h.f G H L).f G H (bj _ _);have hg:=N.j;have hv:ep c x k=[Q (M ⟨(x k).e,0,U⟩),V ⟨(c k).a.e.toArray⟩,V ⟨(c k).a.b.toArray⟩,I J ((c k).a.d:Int),Z (x k).c (c k).a.a.length (x k).d,I J (c k).a.c,Z (x k).a (c k).b.length (x k).b]:=rfl;have c6:=hg.a p (j:=6) (by decide) (by rw[hv];rfl);have S:=N.a (.bd k) p;have HB:=(hB.a L).a (bj _ _);obtain⟨j0,T,W,hy1,hy2⟩:=info_parts gG;have Hj:=T;have O9:=aa W;have Pb:=aa hy1;have Pf:=aa hy2
 obtain⟨q,hq⟩:∃q,1+k*7=q:=⟨_,rfl⟩;have oW:∀f l d,bK d (fun i=>cw (c k).b (x k).a=M i∨(w.alloc (K #[I J 2,V ⟨#[]⟩,V ⟨#[]⟩,I J 0,Z fo nf gy,I J 0,Z bo nb fZ,V ⟨#[]⟩,V ⟨#[]⟩,V ⟨#[]⟩,Z r t u,I J 0] 98)).drew.heap.size<=i) 5 f l ((c k).b++b)->am (fun i=>cw (c k).b (x k).a=M i) (w.alloc (K #[I J 2,V ⟨#[]⟩,V ⟨#[]⟩,I J 0,Z fo nf gy,I J 0,Z bo nb fZ,V ⟨#[]⟩,V ⟨#[]⟩,V ⟨#[]⟩,Z r t u,I J 0] 98)).drew d->(d.cell? ⟨g,q+6,U⟩=M (Z (x k).a (c k).b.length (x k).b)∧d.frozen? ⟨g,q+6,U⟩=F)∧ov w0 κ g gs c z o k w ⟨s,(c k).a,(c k).b++b,[]⟩ (Y (Z U 0 0)) (d.setCell ⟨g,q+6,U⟩ (Z f ((c k).b.length+nb) l)):=fun f l d NM v=>by
  have h5:=N.lI G H k p NM v;have m:=h5.j;have hr:=m.f p (j:=6) (by decide) (Z f ((c k).b.length+nb) l);have n:am (fun i=>i=g) d (d.setCell ⟨g,1+k*7+6,U⟩ (Z f ((c k).b.length+nb) l)):=am.r _ _ _ _ rfl;have h6:=h5.r G H hr n;rw[hq] at h6 n;have y:=m.a p (j:=6) (by decide) (by rw[hv];rfl);have B:=m.j (1+k*7+6);rw[hq] at y B;have hz5:=v.b;have hza:(w.alloc (K #[I J 2,V ⟨#[]⟩,V ⟨#[]⟩,I J 0,Z fo nf gy,I J 0,Z bo nb fZ,V ⟨#[]⟩,V ⟨#[]⟩,V ⟨#[]⟩,Z r t u,I J 0] 98)).drew.heap.size=w.heap.size+1:=by show(w.alloc _).heap.size=_;rw[bF]
  refine⟨⟨y,B⟩,⟨⟨U,0,0,rfl,rfl,aB.f _⟩,⟨cA (cA κ (w.alloc (K #[I J 2,V ⟨#[]⟩,V ⟨#[]⟩,I J 0,Z fo nf gy,I J 0,Z bo nb fZ,V ⟨#[]⟩,V ⟨#[]⟩,V ⟨#[]⟩,Z r t u,I J 0] 98)).drew.heap.size (.bd k)) d.heap.size .row,bL x k { x k with a:=f,b:=l },?_,((wH.f κ _).a (by omega) _).a (by omega) _⟩,((am.f (au L (bj _ _))).a v (fun i e _=>?_)).a n (fun i e _=>A (by rw[e];exact(h.a .row).2))⟩⟩
  . rw[vV];have:mx ⟨(c k).c,(c k).a,(c k).b++b⟩ { x k with a:=f,b:=l }=(ep c x k).set 6 (Z f ((c k).b.length+nb) l):=by unfold mx ep;rw[aD,hn];rfl
    rw[this];exact h6
  . have C:(c k).b≠[]:=fun e2=>by unfold cw at e;rw[if_pos e2] at e;cases e
    rcases h.a (.bd k) p with ⟨_,_,h3⟩ | ⟨h3,_⟩
    . unfold cw at e;rw[if_neg C] at e;cases tL:(x k).a with
      | none=>rw[tL] at e;cases e
      | some a=>rw[tL] at e;injection e with e;rw[<-e];exact R (R (h3 a tL))
    . exact absurd h3 C
 rw[hq] at c6 ⊢;generalize hbl:(c k).b.length=nl at *;go_enter func58,ntmps58;go_upto_region 5 with fail
 go_region_law ((refine Bz (by rfl) (.tmp 24) (.tmp 26) 31 (by rfl) 5 j0 underlying31 Hj O9.o Pb.o Pf.o (by rfl) (by rfl) S hbl HB hn (by omega) ?_;intro bo5 D d xW v;obtain⟨⟨d6,e6⟩,hm⟩:=oW bo5 D d xW v;have HM:=aa hm;clear xW v hm))
 all_goals
  go_wp2;go_ret;exact HM.o
theorem RJ (G:∀k,bM (z k))(H:bM o)(h:dG w0 κ g gs s (ep c x) c x z o w)(L:k<4)(ok:aJ s)(hc:ph (c k)){fo bo p:ag}{gy nf nb fZ q r:Nat}(hl:(c k).b.length<=20000):
 Calls prog 58 #[Q (M ⟨g,0,U⟩),Q (M ⟨g,1+k*7,U⟩),.agg #[I J 3,V ⟨#[]⟩,V ⟨#[]⟩,I J 0,Z fo nf gy,I J 0,Z bo nb fZ,V ⟨#[]⟩,V ⟨#[]⟩,V ⟨#[]⟩,Z p q r,I J 0]] w fun e w'=>ov w0 κ g gs c z o k w (dl bw ⟨s,(c k).a,(c k).b,[]⟩ .fin) e w':=by
 have hb:=(ar _ w).alloc (ak _) (K #[I J 3,V ⟨#[]⟩,V ⟨#[]⟩,I J 0,Z fo nf gy,I J 0,Z bo nb fZ,V ⟨#[]⟩,V ⟨#[]⟩,V ⟨#[]⟩,Z p q r,I J 0] 98);have f:(w.alloc (K #[I J 3,V ⟨#[]⟩,V ⟨#[]⟩,I J 0,Z fo nf gy,I J 0,Z bo nb fZ,V ⟨#[]⟩,V ⟨#[]⟩,V ⟨#[]⟩,Z p q r,I J 0] 98)).heap.size=w.heap.size+1:=bF ..;have h0:=h.jY G H;have h1:=h0.f G H hb;have H0:=h;have H1:=aa h1;have j:=aa G;have N:=aa H;have u:=aa hc;have su:=aa ok
 have T:=aa f;obtain⟨a,W⟩:∃a,a=wV bw s (c k).a (c k).b:=⟨_,rfl⟩;have HG:dl bw ⟨s,(c k).a,(c k).b,[]⟩ .fin=⟨a.1,mY,[],mm a.2⟩:=by rw[W];rfl
 have l:=aa W;rw[HG];clear h h0 f  W HG G H hc ok;go_enter func58,ntmps58;go_wp2_with fail;refine(yD h1.j L (rfl:ep c x k=[Q (M ⟨(x k).e,0,U⟩),V ⟨(c k).a.e.toArray⟩,V ⟨(c k).a.b.toArray⟩,I J ((c k).a.d:Int),Z (x k).c (c k).a.a.length (x k).d,I J (c k).a.c,Z (x k).a (c k).b.length (x k).b])).mono ?_;rintro e w2 ⟨rfl,hr2,jG⟩;have b:=H1.o.r j.o N.o hr2 jG;have hz2:=jG.b;have v:∀i,i=g->cA κ w.heap.size .out i=.row:=fun i e=>by rw[e];exact(H1.o.a .row).2
 have hfl:=((b.a (.fl k)).1 L).b;have hby:=bK.B (b.a (.bd k) L);have H2:=aa b;have HT2:=aa jG
 go_wp2_with fail;refine(Oh (m:=⟨(c k).a.e.toArray⟩) (t:=⟨(c k).a.b.toArray⟩) (mi:=((c k).a.d:Int)) (ln:=(c k).a.c) ⟨b.e,b.b,fun i e=>b.d i (by rw[e];intro h;cases h)⟩ (b.a .jd) su.o b.j.B (G9 u.o.a hfl) (c k).b rfl hby hl (by show(c k).a.b.toArray.size<=_;rw[cz];have:=u.o.a.b;omega)).mono ?_;rintro e w3 ⟨⟨fo3,agm,nf3,bo3,agn,nb3,rfl,ZU,RU,y,B,_,_⟩,jS,qj⟩;rw[show mh bw s ⟨(c k).a.e.toArray⟩ ⟨(c k).a.b.toArray⟩ (pq (c k).a.a) (c k).b=a from l.o.symm] at ZU RU y B jS;rw[show mh bw s ⟨(c k).a.e.toArray⟩ ⟨(c k).a.b.toArray⟩ (pq (c k).a.a) (c k).b=a from l.o.symm];have h3:=H2.o.H j.o N.o jS qj;have hz3:=qj.b;have hsm:pm a.2:=by rw[l.o];exact D8 su.o _ _ _ _
 have H3:=aa h3;have HT3:=aa qj
 go_wp2_with fail;refine(Ey w3 a.2 fo3 bo3 nf3 agm nb3 agn hsm ZU RU y B (h3.e.a h3.b)).mono ?_;rintro e w4 ⟨⟨sD,d,n4,rfl,M6,C⟩,n⟩;have h4:=H3.o.f j.o N.o n;have h5:=(h4.B k mY U 0 (js.a _ _)).jK k;rw[oU,oU,dc,dc] at h5;have D:Hid (ov w0 κ g gs c z o k w ⟨a.1,mY,[],mm a.2⟩ (Y (Z sD n4 d)) w4):=by
  have f:=T.o;refine⟨⟨sD,d,n4,rfl,M6,C⟩,⟨_,bL x k { e:=(x k).e,c:=U,d:=0,a:=U,b:=0 },?_,(((wH.f κ w.heap.size).a (ak _) .out).a (m:=(w.alloc (K #[I J 3,V ⟨#[]⟩,V ⟨#[]⟩,I J 0,Z fo nf gy,I J 0,Z bo nb fZ,V ⟨#[]⟩,V ⟨#[]⟩,V ⟨#[]⟩,Z p q r,I J 0] 98)).heap.size) (by omega) .row).a (m:=w2.heap.size) (by omega) .jd⟩,?_⟩
  . rw[vV];exact h5
  . refine(((am.f hb).a HT2.o (fun i e hi=>A ?_)).a HT3.o (fun i e hi=>R (A ?_))).a (am.f (S:=fun _=>False) n) (fun _ e _=>e.elim)
    . have:=v i e;rw[fg hi] at this;exact this
    . have e:cA (cA κ w.heap.size .out) (w.alloc (K #[I J 3,V ⟨#[]⟩,V ⟨#[]⟩,I J 0,Z fo nf gy,I J 0,Z bo nb fZ,V ⟨#[]⟩,V ⟨#[]⟩,V ⟨#[]⟩,Z p q r,I J 0] 98)).heap.size .row i=.jd:=e;rw[fg (by omega),fg hi] at e;exact e
 clear h4 h5 n C v M6;go_wp2;go_ret;exact D.o
theorem Rp (y:∀k,bM (z k))(B:bM o)(h:dG w0 κ g gs s (ep c x) c x z o w)(hk:k<4)(a:Nat){fo bo j:ag}{gy nf nb fZ l n:Nat}:
 Calls prog 58 #[Q (M ⟨g,0,U⟩),Q (M ⟨g,1+k*7,U⟩),.agg #[I J 4,V ⟨#[]⟩,V ⟨#[]⟩,I J 0,Z fo nf gy,I J 0,Z bo nb fZ,V ⟨#[]⟩,V ⟨#[]⟩,V ⟨#[]⟩,Z j l n,I J (a:Int)]] w fun e w'=>ov w0 κ g gs c z o k w ⟨s,mY,[],mm (pr a)⟩ e w':=by
 have hb:=(ar _ w).alloc (ak _) (K #[I J 4,V ⟨#[]⟩,V ⟨#[]⟩,I J 0,Z fo nf gy,I J 0,Z bo nb fZ,V ⟨#[]⟩,V ⟨#[]⟩,V ⟨#[]⟩,Z j l n,I J (a:Int)] 98);have p:(w.alloc (K #[I J 4,V ⟨#[]⟩,V ⟨#[]⟩,I J 0,Z fo nf gy,I J 0,Z bo nb fZ,V ⟨#[]⟩,V ⟨#[]⟩,V ⟨#[]⟩,Z j l n,I J (a:Int)] 98)).heap.size=w.heap.size+1:=bF ..;have h0:=h.jY y B;have h1:=h0.f y B hb;have C:w.heap.size≠g:=by have:=h.j.r;omega
 have H1:=h1;have d:=aa y;have D:=aa B
 have G:=aa p;have yG:=aX w (K #[I J 4,V ⟨#[]⟩,V ⟨#[]⟩,I J 0,Z fo nf gy,I J 0,Z bo nb fZ,V ⟨#[]⟩,V ⟨#[]⟩,V ⟨#[]⟩,Z j l n,I J (a:Int)] 98);go_enter func58,ntmps58;go_wp2_with fail;refine(yD h1.j hk (rfl:ep c x k=[Q (M ⟨(x k).e,0,U⟩),V ⟨(c k).a.e.toArray⟩,V ⟨(c k).a.b.toArray⟩,I J ((c k).a.d:Int),Z (x k).c (c k).a.a.length (x k).d,I J (c k).a.c,Z (x k).a (c k).b.length (x k).b])).mono ?_;rintro e w2 ⟨rfl,H,v⟩;have h2:=H1.r d.o D.o H v;have hz2:=v.b;have a11:=aq w2 _ 11 _ _ _ (v.y yG C);have q:∀i,i=g->cA κ w.heap.size .out i=.row:=fun i e=>by rw[e];exact(H1.a .row).2
 have H2:=h2;have L:=aa v
 go_wp2_with fail;refine((fun W=>Nr a W) _).mono ?_;rintro e w3 ⟨rfl,r⟩;have N:=H2.f d.o D.o r;have H3:=N;have T:=aa r
 go_wp2_with fail;refine(Ey w3 (pr a) U U 0 0 0 0 (D7 a) rfl (bq.r _) rfl (aB.f _) (N.e.a N.b)).mono ?_;rintro e w4 ⟨⟨sD,b,n4,rfl,M6,t⟩,f⟩;have h4:=H3.f d.o D.o f;have h5:=(h4.B k mY U 0 (js.a _ _)).jK k;rw[oU,oU,dc,dc] at h5;have u:ov w0 κ g gs c z o k w ⟨s,mY,[],mm (pr a)⟩ (Y (Z sD n4 b)) w4:=by
  have p:=G.o;refine⟨⟨sD,b,n4,rfl,M6,t⟩,⟨_,bL x k { e:=(x k).e,c:=U,d:=0,a:=U,b:=0 },?_,((wH.f κ w.heap.size).a (ak _) .out).a (m:=(w.alloc (K #[I J 4,V ⟨#[]⟩,V ⟨#[]⟩,I J 0,Z fo nf gy,I J 0,Z bo nb fZ,V ⟨#[]⟩,V ⟨#[]⟩,V ⟨#[]⟩,Z j l n,I J (a:Int)] 98)).heap.size) (by omega) .row⟩,?_⟩
  . rw[vV];exact h5
  . refine((am.f hb).a L.o (fun i e hi=>A ?_)).a (am.f (S:=fun _=>False) (au T.o f)) (fun _ e _=>e.elim);have:=q i e;rw[fg hi] at this;exact this
 clear h4 h5 f t q M6;go_wp2;go_ret;exact u
end
def ve (ao:ag)(cap:Nat)(es:List az):dC:=fun w S=>lR w S 98 ao cap es
theorem ve.a (ao:ag)(cap:Nat)(es:List az):bM (ve ao cap es):=⟨fun h b a=>lR.y h b a,fun h a=>lR.a h a⟩
def zO (ao:ag)(cap:Nat)(l:ab):dC:=fun w S=>bK w S 5 ao cap l
theorem zO.a (ao:ag)(cap:Nat)(l:ab):bM (zO ao cap l):=⟨fun h b a=>bK.a h b a,fun h a=>bK.j h a⟩
def sw (k:Nat)(b:dC):Nat->dC:=fun j w S=>j=k->b w S
theorem sw.a {k:Nat}{b:dC}(c:bM b):∀j,bM (sw k b j):=fun _=>⟨fun h d a e=>c.c (h e) d a,fun h a e=>c.b (h e) a⟩
theorem lR.r {w:X}{S:Nat->Prop}{g:Nat}{ao:ag}{cap:Nat}{es:List az}(h:lR w S g ao cap es)(k:0<es.length):∃b o,ao=M ⟨b,o,U⟩∧∀j (d:j<es.length),∃s,(∀i u,(es[j].f s)[i]? = M u->w.cell? ⟨b,o+j*12+i,U⟩=M u)∧fX w S es[j] s:=by
 obtain⟨f,rfl,l,_,m⟩:=h;have n:=l.a;obtain⟨b,o,rfl,p⟩:=n.f (by rw[vA];rw[gD] at k;omega);refine⟨b,o,rfl,fun j d=>?_⟩;have a:j<f.length:=by simpa using d
 refine⟨f[j].2,fun i u c=>?_,?_⟩
 . rw[eu] at c;have q:i<12:=(fe.1 c).1;rw[<-tq _ j a i q] at c;have:=p _ _ c;rw[gE];exact this
 . rw[eu];exact(m _ (fb a)).a (fun _ _ e=>e.1)
section
variable {w0 w w':X} {κ:Nat->lY} {g gs:Nat} {s:av} {v:Nat->List Value} {c:Nat->da} {x:Nat->kR} {z:Nat->dC} {o o':dC} {k:Nat}
theorem dG.kU (i:∀k,bM (z k))(j:bM o)(a:bM o')(h:dG w0 κ g gs s v c x z o w){T N:Nat->Prop}(b:am T w w')(f:∀k,T k->κ k=.ret)(l:o' w' N)(m:∀k,N k->κ k=.ret∨w.heap.size<=k):dG w0 (cA κ w.heap.size .ret) g gs s v c x z o' w' :=
 ⟨h.a.a (le i j) b f (X':=fN g gs s v 4 c x z o') a l m (fun d n=>by cases d <;> first | rfl | exact absurd rfl n),h.e,h.b.trans (b.below (fun k e=>h.d k (by rw[f k e];intro h;cases h)) h.b.size),xg h.d h.b.size⟩
theorem Ti (c:Nat->da)(x:Nat->kR)(k:Nat)(r:bN):ep (bL c k { c k with c:=r }) x=ep c x:=by
 funext i;unfold ep bL;split
 . next h=>subst h;rfl
 . rfl
theorem dG.lH (h:dG w0 κ g gs s v c x jj eE w)(B:k<4){l:ab}{e:Ending}(D:AW w (fun i=>κ i=.rq k) (x k).e (c k).c l e w'):∃ao cap n a,e=Y (Z ao n cap)∧n=(aE (cX (c k).c l)).length∧dG w0 a g gs s v (bL c k { c k with c:=cM (c k).c l }) x (sw k (ve ao cap ((aE (cX (c k).c l)).map aU.d))) eE w'∧am (fun i=>κ i=.rq k) w w'∧∀i,i<w.heap.size->a i=κ i∨κ i≠.out:=by
 obtain⟨ao,cap,n,G,f,H,L,N,T,hd,hS,m,q⟩:=D;obtain⟨a,r,b,h3⟩:=h.a.j (le (fun _=>bM.a) bM.a) (p:=.rq k) (e:=.fl k) (by intro h;cases h) (X':=fN g gs s v 4 (bL c k { c k with c:=cM (c k).c l }) x (sw k (ve ao cap ((aE (cX (c k).c l)).map aU.d))) eE) q (fun _ e=>e) (P:=G) (E:=f) (fun _=>by rw[dc];exact N) (le (sw.a (ve.a _ _ _)) bM.a _) hd hS m
  (fun S hX t u=>⟨fun B=>by rw[dc];exact(hX.1 B).j (fun i _ e=>t i e),fun _=>T.y.a (fun i _ e=>u i e)⟩)
  (fun d r b => by
   cases d with
   | row=>rfl
   | jd=>rfl
   | rq j =>
     have e:j≠k:=fun e=>r (by rw[e]);simp only[fN];rw[ef _ _ e]
   | fl j =>
     have e:j≠k:=fun e=>b (by rw[e]);simp only[fN];rw[ef _ _ e];funext W S;unfold sw;simp[e]
   | bd j =>
     by_cases e:j=k
     . subst e;simp only[fN,dc]
     . simp only[fN];rw[ef _ _ e]
   | ret=>rfl
   | out=>rfl)
 refine⟨ao,cap,n,a,H,L,⟨r,h.e,h.b.trans (q.below (fun i e=>h.d i (by rw[e];intro h;cases h)) h.b.size),fun i y=>?_⟩,q,fun i y=>?_⟩
 . rcases eN i w.heap.size with C | C
   . rcases b i C with e | e
     . exact h.d i (by rw[<-e];exact y)
     . exact h.d i (by rw[e.1];intro h;cases h)
   . have:=h.b.size;omega
 . rcases b i y with e | e
   . exact A e
   . exact R (by rw[e.1];intro h;cases h)
end
structure Bq (S:Nat->Prop)(w:X)(g gs:Nat)(c:Nat->da)(k:Nat)(r:av×da×ab)(code:Int)(e:Ending)(w':X):Prop where
 b:∃(ao:ag) (cap n:Nat),e=Y (.tuple #[Z ao n cap,I J code])∧n=r.2.2.length∧aB w' ao cap r.2.2
 a:gi w' (ay S w) g gs r.1 (bL c k r.2.1)
 d:am S w w'
section
variable {w0 w:X} {S:Nat->Prop} {g gs:Nat} {s:av} {c:Nat->da}
theorem RK {κ:Nat->lY}{x:Nat->kR}{z:Nat->dC}{o:dC}{k:Nat}(a:∀k,bM (z k))(f:bM o)(h:dG w0 κ g gs s (ep c x) c x z o w)(j:k<4)(ok:aJ s)(m:ph (c k))(ev:aU)(es:cU)(l:fX w (fun i=>κ i=.fl k) ev.d es)(p:(c k).b.length+ev.d.a.length<=20000):
 Calls prog 58 #[Q (M ⟨g,0,U⟩),Q (M ⟨g,1+k*7,U⟩),.agg #[I J ev.d.b,V ev.d.i,V ev.d.j,I J ev.d.m,Z es.e ev.d.d.length es.f,I J ev.d.l,Z es.a ev.d.a.length es.d,V ev.d.g,V ev.d.e,V ev.d.h,Z es.c ev.d.c.length es.b,I J ev.d.k]] w fun e w'=>ov w0 κ g gs c z o k w (dl bw ⟨s,(c k).a,(c k).b,[]⟩ ev) e w':=by
 cases ev with
 | head hd=>exact Rn a f h j hd (uM _).symm l.c
 | body b=>exact Ro a f h j b rfl l.b.b (by have:(aU.body b).d.a.length=b.length:=rfl;omega)
 | fin=>exact RJ a f h j ok m (by omega)
 | fail n=>exact Rp a f h j n
theorem K9 (s:av)(hd:dg)(body out:ab)(e:aU):dl bw ⟨s,hd,body,out⟩ e={ dl bw ⟨s,hd,body,[]⟩ e with a:=out++(dl bw ⟨s,hd,body,[]⟩ e).a }:=by
 have:=Lm bw ⟨s,hd,body,[]⟩ out e;rw[show({ (⟨s,hd,body,[]⟩:eI) with a:=out++[] }:eI)=⟨s,hd,body,out⟩ from by rw[fK]] at this;exact this
structure xl (w0:X)(S:Nat->Prop)(w:X)(g gs:Nat)(c:Nat->da)(k:Nat)(ro:bN)(eo:ag)(ec:Nat)(es:List aU)(G:eI)(ao:ag)(cap:Nat)(wr:X):Prop where
 a:∃κ x,dG w0 κ g gs G.s (ep (bL c k ⟨ro,G.c,G.b⟩) x) (bL c k ⟨ro,G.c,G.b⟩) x (sw k (ve eo ec (es.map aU.d))) (zO ao cap G.a) wr∧∀i,κ i≠.out->ay S w i
 e:am S w wr
 d:aJ G.s
 b:jo G.c
theorem Tx:∀{s:av},aJ s->∀m t l body,aJ (bw s m t l body).1:=fun h m t l b=>Bl h m t l b
theorem S6 {κ:Nat->lY}{k:Nat}{ro:bN}{eo:ag}{ec:Nat}{es:List aU}{G G':eI}{ao:ag}{cap:Nat}{v w5:X}{e:Ending}(L:∀i,κ i≠.out->ay S w i)(N:am S w v)(q:ov w0 κ g gs (bL c k ⟨ro,G.c,G.b⟩) (sw k (ve eo ec (es.map aU.d))) (zO ao cap G.a) k v G' e w5)(ok:aJ G'.s)(x:jo G'.c):
 ∃(r:ag) (b t:Nat) (B:Nat->Prop),e=Y (Z r t b)∧t=G'.a.length∧aB w5 r b G'.a∧bK w5 B 5 ao cap G.a∧∀l f u,bK u (fun i=>cw G.a ao=M i∨w5.heap.size<=i) 5 l f (G.a++G'.a)->am (fun i=>cw G.a ao=M i) w5 u->xl w0 S w g gs c k ro eo ec es { G' with a:=G.a++G'.a } l f u:=by
 obtain⟨r,b,t,he,y,hB⟩:=q.d;obtain⟨j,x5,z,hE⟩:=q.b;have hz5:=q.a.b;have hzb:=N.b;rw[oU,dc] at z;have T:bK w5 (fun i=>j i=.ret) 5 ao cap G.a:=z.a .ret;have m:∀i,cw G.a ao=M i->j i=.ret:=fun i e=>by
  unfold cw at e;split at e
  . cases e
  . rename_i C;rcases T with ⟨_,_,h3⟩ | ⟨h1,_⟩
    . cases D:ao with
      | none=>rw[D] at e;cases e
      | some a=>rw[D] at e;injection e with e;rw[<-e];exact h3 a D
    . exact absurd h1 C
 have o:∀i,j i≠.out->ay S w i:=fun i n=>by
  rcases eN i v.heap.size with p | p
  . exact L i (by rw[<-hE i p];exact n)
  . exact R (by omega)
 refine⟨r,b,t,_,he,y,hB,T,fun l f u H W=>⟨⟨cA j w5.heap.size .ret,x5,z.kU (sw.a (ve.a _ _ _)) (zO.a _ _ _) (zO.a _ _ _) W m H (fun i e=>?_),fun i n=>?_⟩,(N.a q.a (fun i e n=>?_)).a W (fun i e n=>?_),ok,x⟩⟩
 . rcases e with e | e
   . exact A (m i e)
   . exact R e
 . rcases eN i w5.heap.size with p | p
   . rw[fg p] at n;exact o i n
   . exact R (by omega)
 . have y:κ i≠.out:=by rcases e with e | e | e <;> (rw[e];intro h;cases h)
   rcases L i y with h | h
   . exact h
   . omega
 . rcases o i (by rw[m i e];intro h;cases h) with h | h
   . exact h
   . omega
theorem xl.f {k:Nat}{ro:bN}{eo:ag}{ec:Nat}{es:List aU}{G:eI}{ao:ag}{cap:Nat}{wr:X}(h:xl w0 S w g gs c k ro eo ec es G ao cap wr):aB wr ao cap G.a∧gi wr (ay S w) g gs G.s (bL c k ⟨ro,G.c,G.b⟩)∧am S w wr:=by
 obtain⟨a,x,b,e⟩:=h.a;have f:bK wr (fun i=>a i=.ret) 5 ao cap G.a:=b.a .ret;refine⟨f.B,⟨a,x,fun d=>?_,e⟩,h.e⟩;have hd:=b.a d;cases d with
 | fl j=>exact⟨hd.1,trivial⟩
 | ret=>trivial
 | row=>exact hd
 | jd=>exact hd
 | rq j=>exact hd
 | bd j=>exact hd
 | out=>trivial
end
section
variable {w0 w:X} {S:Nat->Prop} {g gs:Nat} {s:av} {c:Nat->da}
theorem MB (k:Int)(b:k<0∨4<=k)(bo:ag)(fZ n:Nat)(w:X):
 Calls prog 16 #[Q (M ⟨g,0,U⟩),I J k,Z bo n fZ] w fun e w'=>e=Y (.tuple #[Z U 0 0,I J 1])∧w'=w:=by
 have a:=fun W=>yn k W;rw[show(decide (0<=k)&&decide (k<4))=F from by rcases b with h | h <;> simp <;> omega] at a;go_enter func16,ntmps16;go_wp2_with fail;refine(a _).mono ?_;rintro e f ⟨rfl,d⟩;subst d;go_wp2;go_ret2;exact⟨rfl,rfl⟩
theorem Rr (hP:dj w0)(hW:Below w0.heap.size w0 w)(hF:∀i,S i->w0.heap.size<=i)(h:gi w S g gs s c)(ok:aJ s)(k:Nat)(hk:k<4)(hc:ph (c k))(l:ab){bo:ag}{fZ n:Nat}(hB:aB w bo fZ l)(tL:l≠[]->∀a,bo=M a->¬S a.block)(hn:l.length=n)(hl:(c k).b.length+n<=20000):
 Calls prog 16 #[Q (M ⟨g,0,U⟩),I J (k:Int),Z bo n fZ] w fun e w'=>Bq S w g gs c k (mR bw s (c k) l) (if (c k).c.a=4 then 18 else 0) e w':=by
 have HI:=fun W=>yn (k:Int) W;rw[show(decide ((0:Int)<=(k:Int))&&decide ((k:Int)<4))=true from by simp;omega] at HI;obtain⟨κ,x,hH,hS⟩:=h;have hG0:dG w0 κ g gs s (ep c x) c x jj eE w:=⟨hH,hP,hW,fun i e=>hF i (hS i e)⟩;have cg:w.cell? ⟨g,1+k*7,U⟩=M (Q (M ⟨(x k).e,0,U⟩)):=hG0.j.a hk (j:=0) (u:=Q (M ⟨(x k).e,0,U⟩)) (by decide) rfl;have HD:=EW w (fun i=>κ i=.rq k) (x k).e (c k).c (hH (.rq k) hk);have k0:(0:Int)<=(k:Int):=by omega
 have k4:(k:Int)<4:=by omega
 by_cases T:(c k).c.a=4
 . rw[if_pos T];rw[br T] at HD;have hfd:mR bw s (c k) l=(s,c k,[]):=by
    have:=A9 l (c k).c T;unfold mR ui;rw[this.1,this.2];rfl
   rw[hfd];have r:Bq S w g gs c k (s,c k,[]) 18 (Y (.tuple #[Z U 0 0,I J 18])) w:=⟨⟨U,0,0,rfl,rfl,aB.f _⟩,by rw[TY];exact gi.a ⟨κ,x,hH,hS⟩ (fun i _ e=>A e),am.B _ _⟩;go_enter func16,ntmps16;go_wp2_with fail;refine(HI _).mono ?_;rintro e w1 ⟨rfl,hw⟩;rw[hw];go_wp2_with fail;refine HD.mono ?_;rintro e w1 ⟨rfl,hw⟩;rw[hw];go_wp2;go_ret2;exact r
 . rw[if_neg T];rw[ba T] at HD;have Wd:=MA w (fun i=>κ i=.rq k) (x k).e (c k).c l bo fZ n (hH (.rq k) hk) hc.b hB (fun t a e e2=>tL t a e (hS _ (by rw[e2];intro h;cases h))) hn (by omega);have HG0:=hG0;have HS:=aa hS
   go_enter func16,ntmps16;go_wp2_with fail;refine(HI _).mono ?_;rintro e w1 ⟨rfl,hw⟩;rw[hw];go_wp2_with fail;refine HD.mono ?_;rintro e w1 ⟨rfl,hw⟩;rw[hw];go_wp2_with fail;refine Wd.mono ?_;rintro e w1 hFr;obtain⟨eo,ec,ne,κ1,rfl,t,p,hT1,hE1⟩:=HG0.lH hk hFr;have hS1:∀i,κ1 i≠.out->ay S w i:=fun i hi=>by
    rcases eN i w.heap.size with hl | hl
    . rcases hE1 i hl with e | e
      . exact A (HS.o i (by rw[<-e];exact hi))
      . exact A (HS.o i e)
    . exact R hl
   rw[<-Ti c x k (cM (c k).c l)] at p;have mH:=Gc (c k).c l;obtain⟨es,v⟩:∃es,es=aE (cX (c k).c l):=⟨_,rfl⟩;have acw:∀e∈es,e.f:=by rw[v];exact uI _ (A8 l hc.b)
   have Kq:mR bw s (c k) l=((ew bw ⟨s,(c k).a,(c k).b,[]⟩ es).s,⟨cM (c k).c l,(ew bw ⟨s,(c k).a,(c k).b,[]⟩ es).c,(ew bw ⟨s,(c k).a,(c k).b,[]⟩ es).b⟩,(ew bw ⟨s,(c k).a,(c k).b,[]⟩ es).a):=by rw[v,ul];rfl
   rw[<-v] at t p mH;have hR0:xl w0 S w g gs c k (cM (c k).c l) eo ec es ⟨s,(c k).a,(c k).b,[]⟩ U 0 w1:=⟨⟨κ1,x,⟨fun d=>by
    have hd:=p.a d;cases d with
    | ret =>
      show bK w1 (fun i=>κ1 i=.ret) 5 U 0 [];exact bK.f _ _ _
    | fl j=>exact hd
    | row=>exact hd
    | jd=>exact hd
    | rq j=>exact hd
    | bd j=>exact hd
    | out=>trivial,p.e,p.b,p.d⟩,hS1⟩,hT1.j (fun i e=>HS.o i (by rw[e];intro h;cases h)),ok,hc.a⟩
   have hbd:∀i (hi:i<es.length),(ew bw ⟨s,(c k).a,(c k).b,[]⟩ (es.take i)).b.length+es[i].d.a.length<=20000:=fun i hi=>by
    have h1:=zT bw (es.take i) ⟨s,(c k).a,(c k).b,[]⟩;have h2:bQ (es.take i)+es[i].d.a.length<=bQ es:=by
     conv=>rhs;rw[<-iN i es,qA,kt hi]
     generalize es[i]=e;cases e with
     | body b=>show _+b.length<=_+(b.length+_);omega
     | head _=>exact Nat.add_le_add_left (ax _) _
     | fin=>exact Nat.add_le_add_left (ax _) _
     | fail _=>exact Nat.add_le_add_left (ax _) _
    have h3:=mH.2.1;have T:(⟨s,(c k).a,(c k).b,[]⟩:eI).b.length=(c k).b.length:=rfl;omega
   have hol:∀i,i<=es.length->(ew bw ⟨s,(c k).a,(c k).b,[]⟩ (es.take i)).a.length<=6000*40000:=fun i hi=>by
    have h1:=Ae (es.take i) (g:=⟨s,(c k).a,(c k).b,[]⟩) ok;rw[bU] at h1;have h3:=mH.1;have T:(⟨s,(c k).a,(c k).b,[]⟩:eI).a.length=0:=rfl;omega
   have hlen:es.length<=40000:=by have:=mH.1;omega
   have agq:fI (cM (c k).c l):=hc.b.j l;have Dy:=hR0;have yH:=aa hbd;have HOl:=aa hol;have HFi:=aa acw;have HRo:=aa agq
   obtain⟨j0,hj0,hy0,hy1,hy2⟩:=info_parts gG;have Hj:=hj0;have O9:=aa hy0;have Pb:=aa hy1;have Pf:=aa hy2
   subst t;clear p hT1 hE1 hS1 mH acw v hR0 hbd hol agq HG0 Wd HI HD hFr cg hj0 hy0 hy1 hy2;generalize cM (c k).c l=ro at *;generalize ai3:(⟨s,(c k).a,(c k).b,[]⟩:eI)=G0 at *;go_wp2;go_loopw [9,37] (fun vo vi wr=>∃(i m:Nat) (ao:ag) (cap:Nat),i<=es.length∧vi=I J i∧vo=Z ao m cap∧m=(ew bw G0 (es.take i)).a.length∧xl w0 S w g gs c k ro eo ec es (ew bw G0 (es.take i)) ao cap wr) (fun _ vi _=>es.length-(intOf vi).toNat)
   case atStart=>exact⟨0,0,U,0,ax _,rfl,rfl,by rw[<-ai3];rfl,Dy⟩
   case round =>
    obtain⟨i,m,ao,cap,hi,rfl,rfl,hm,y⟩:=hrel;by_cases z:i<es.length
    . have hlt':(i:Int)<es.length:=by omega
      have hTk:ew bw G0 (es.take (i+1))=dl bw (ew bw G0 (es.take i)) es[i]:=by rw[fR z,KV];rfl
      have hbi:=yH.o i z;have C:=HOl.o (i+1) (by omega);have ai4:=HOl.o i (by omega);have hfi:=HFi.o es[i] (fb z);obtain⟨κ,x2,hG,hS2⟩:=y.a;have hEv:lR wr (fun j=>κ j=.fl k) 98 eo ec (es.map aU.d):=(hG.a (.fl k)).2 rfl;have hcap:es.length<=ec:=by have:=hEv.j.1;rw[gD] at this;exact this
      obtain⟨b,o,rfl,agr⟩:=hEv.r (by rw[gD];omega);obtain⟨q,f,hIn⟩:=agr i (by rw[gD];exact z);rw[eu] at f hIn;generalize ew bw G0 (es.take i)=G at *;rw[hTk] at C;generalize hev:es[i]=ev at *;have jf:=(ar _ wr).alloc (ak _) (K #[I J ev.d.b,V ev.d.i,V ev.d.j,I J ev.d.m,Z q.e ev.d.d.length q.f,I J ev.d.l,Z q.a ev.d.a.length q.d,V ev.d.g,V ev.d.e,V ev.d.h,Z q.c ev.d.c.length q.b,I J ev.d.k] 98);have hGA:=hG.f (sw.a (ve.a _ _ _)) (zO.a _ _ _) jf;have ags:=hIn.f (am.f (S:=fun _=>False) jf) (fun _ _ e=>e);have HMt:=RK (sw.a (ve.a _ _ _)) (zO.a _ _ _) hGA hk y.d (by rw[dc];exact⟨HRo.o,y.b⟩) ev q ags (by rw[dc];exact hbi);rw[dc] at HMt;have hNx:=fun(w5:X) (e5:Ending)=>S6 (e:=e5) (w5:=w5) (G:=G) (G':=dl bw ⟨G.s,G.c,G.b,[]⟩ ev) (κ:=κ) (es:=es) (eo:=M ⟨b,o,U⟩) (ec:=ec) (ao:=ao) (cap:=cap) (ro:=ro) (k:=k) (c:=c) (g:=g) (gs:=gs) (w0:=w0) hS2 (y.e.a (am.f (S:=fun _=>False) jf) (fun _ e _=>e.elim));have hfr:dl bw G ev={ dl bw ⟨G.s,G.c,G.b,[]⟩ ev with a:=G.a++(dl bw ⟨G.s,G.c,G.b,[]⟩ ev).a }:=K9 G.s G.c G.b G.a ev;have D:aJ (dl bw ⟨G.s,G.c,G.b,[]⟩ ev).s:=Ab bw Tx (g:=⟨G.s,G.c,G.b,[]⟩) y.d ev;have agt:jo (dl bw ⟨G.s,G.c,G.b,[]⟩ ev).c:=D4 bw (g:=⟨G.s,G.c,G.b,[]⟩) y.b hfi;have H:G.a.length+(dl bw ⟨G.s,G.c,G.b,[]⟩ ev).a.length<=6000*40000:=by rw[<-aD];rw[hfr] at C;exact C
      have c0:wr.cell? ⟨b,o+i*12,U⟩=M (I J ev.d.b):=f 0 _ rfl;have c1:wr.cell? ⟨b,o+i*12+1,U⟩=M (V ev.d.i):=f 1 _ rfl;have c2:wr.cell? ⟨b,o+i*12+2,U⟩=M (V ev.d.j):=f 2 _ rfl;have c3:wr.cell? ⟨b,o+i*12+3,U⟩=M (I J ev.d.m):=f 3 _ rfl;have c4:wr.cell? ⟨b,o+i*12+4,U⟩=M (Z q.e ev.d.d.length q.f):=f 4 _ rfl;have c5:wr.cell? ⟨b,o+i*12+5,U⟩=M (I J ev.d.l):=f 5 _ rfl;have c6:wr.cell? ⟨b,o+i*12+6,U⟩=M (Z q.a ev.d.a.length q.d):=f 6 _ rfl;have c7:wr.cell? ⟨b,o+i*12+7,U⟩=M (V ev.d.g):=f 7 _ rfl;have c8:wr.cell? ⟨b,o+i*12+8,U⟩=M (V ev.d.e):=f 8 _ rfl;have c9:wr.cell? ⟨b,o+i*12+9,U⟩=M (V ev.d.h):=f 9 _ rfl;have c10:wr.cell? ⟨b,o+i*12+10,U⟩=M (Z q.c ev.d.c.length q.b):=f 10 _ rfl;have c11:wr.cell? ⟨b,o+i*12+11,U⟩=M (I J ev.d.k):=f 11 _ rfl;have Gq:=hNx;have sQ:=aa hTk;have HFr:=aa hfr;have ai6:=aa D;have ai7:=aa agt;have HM:=aa hm
      clear y hG hS2 hEv agr f hIn jf hGA ags hNx hTk hfr D agt hbi C ai4 hfi hm;generalize ev.d=ed at *;generalize dl bw ⟨G.s,G.c,G.b,[]⟩ ev=G' at *;go_wp2_with fail;refine HMt.mono ?_;rintro e w5 hMt;obtain⟨zU,cap5,n5,B,rfl,hn5,Cu,agu,L⟩:=Gq w5 e hMt ai6.o ai7.o;have oC:=Cu;have HGr:=aa agu;have Ko:=aa L;have HN5:=aa hn5.symm;have HM2:=aa HM.o.symm
      have hml:m+n5<=240000000:=by rw[hn5,HM.o];exact H
      clear hMt Cu agu L hn5 HMt Gq H;go_wp2_with (at_builtin;refine xX rfl (.tmp 41) (.tmp 45) 31 rfl 5 j0 underlying31 Hj O9.o Pb.o Pf.o rfl rfl HGr.o HM2.o oC HN5.o (by omega) ?_;intro ao6 N w6 E8 CK;have HF6:=aa (Ko.o ao6 N w6 E8 CK);clear E8 CK)
      go_roundw
      case rel=>exact⟨i+1,m+n5,ao6,N,by omega,by go_num,rfl,by rw[sQ.o,HFr.o];show _=(G.a++G'.a).length;rw[aD,HM.o,HN5.o],by rw[sQ.o,HFr.o];exact HF6.o⟩
      case measure=>simp[intOf];omega
    . obtain rfl:i=es.length:=by omega
      rw[eQ] at hm y;obtain⟨qp,hG9,qP⟩:=y.f;have r:Bq S w g gs c k (mR bw s (c k) l) 0 (Y (.tuple #[Z ao m cap,I J 0])) wr:=by
       rw[Kq];exact⟨⟨ao,cap,m,rfl,hm,qp⟩,hG9,qP⟩
      go_wp2;go_ret2;exact r
end
section
variable {w0 w:X} {S:Nat->Prop} {g gs:Nat} {s:av} {c:Nat->da}
def pw (gp:Nat):kR:=⟨gp,U,0,U,0⟩
structure oZ (S:Nat->Prop)(w:X)(g gs:Nat)(s:av)(n:Nat)(wr:X):Prop where
 b:∃κ v x,eJ (fN g gs s v n (fun _=>eG) x jj eE) κ wr∧(∀k,k<n->v k=mx eG (x k))∧∀i,κ i≠.out->ay S w i
 c:am S w wr
theorem gj.y {v:Nat->List Value}(h:gj w g gs v){k:Nat}(a:k<4)(b d e f l m n:Value):
 gj (((((((w.setCell ⟨g,1+k*7,U⟩ b).setCell ⟨g,1+k*7+1,U⟩ d).setCell ⟨g,1+k*7+2,U⟩ e).setCell ⟨g,1+k*7+3,U⟩ f).setCell ⟨g,1+k*7+4,U⟩ l).setCell ⟨g,1+k*7+5,U⟩ m).setCell ⟨g,1+k*7+6,U⟩ n) g gs (bL v k [b,d,e,f,l,m,n])∧am (fun i=>i=g) w (((((((w.setCell ⟨g,1+k*7,U⟩ b).setCell ⟨g,1+k*7+1,U⟩ d).setCell ⟨g,1+k*7+2,U⟩ e).setCell ⟨g,1+k*7+3,U⟩ f).setCell ⟨g,1+k*7+4,U⟩ l).setCell ⟨g,1+k*7+5,U⟩ m).setCell ⟨g,1+k*7+6,U⟩ n):=by
 refine⟨?_,jr g [b,d,e,f,l,m,n] (1+k*7) w⟩;have:=((((((h.f a (j:=0) (by decide) b).f a (j:=1) (by decide) d).f a (j:=2) (by decide) e).f a (j:=3) (by decide) f).f a (j:=4) (by decide) l).f a (j:=5) (by decide) m).f a (j:=6) (by decide) n;obtain⟨p,q,r,t,u,x,y,o⟩:=rt (h.b k a);simp only[oU,dc,o] at this;exact this
theorem oZ.r {n gp:Nat}{wr o:X}(h:oZ S w g gs s n wr)(D:dM o (fun k=>wr.heap.size<=k) gp pC)(p:Below wr.heap.size wr o):∃v,gj o g gs v∧∀f,gj f g gs (bL v n (mx eG (pw gp)))->am (fun i=>i=g) o f->oZ S w g gs s (n+1) f:=by
 obtain⟨⟨q,v,x,b,G,y⟩,z⟩:=h;have l:=(b .row).1.r;have W:=z.b;refine⟨v,⟨(p.block g l).trans (b .row).1.c,(b .row).1.b⟩,fun f r t=>?_⟩;have a:∀d,d≠.row->fN g gs s v n (fun _=>eG) x jj eE d f (fun i=>cA q wr.heap.size (.rq n) i=d):=fun d H=>by
  have L:bM (fN g gs s v n (fun _=>eG) x jj eE d):=le (fun _=>bM.a) bM.a d;have N:=L.b (b d) (S':=fun i=>q i=d∧i<wr.heap.size) (fun i m e=>⟨e,m⟩);have T:=L.c (L.c N (am.f (S:=fun _=>False) p) (fun _ _ e=>e)) t (fun i e B=>H (by rw[<-e.1,B];exact(b .row).2));exact L.b T (fun i _ e=>(fg e.2).trans e.1)
 refine⟨⟨cA q wr.heap.size (.rq n),bL v n (mx eG (pw gp)),bL x n (pw gp),fun d=>?_,fun j u=>?_,fun i m=>?_⟩,(z.a (am.f (S:=fun _=>False) p) (fun _ e _=>e.elim)).a t (fun i e m=>?_)⟩
 . cases d with
   | row=>exact⟨r,(fg l).trans (b .row).2⟩
   | jd=>exact a .jd (by intro h;cases h)
   | rq j =>
     intro u;by_cases e:j=n
     . subst e;rw[dc];exact(D.f t (fun i e B=>by omega)).a (fun i _ e=>pR e)
     . rw[ef _ _ e];exact a (.rq j) (by intro h;cases h) (by omega)
   | fl j =>
     refine⟨fun u=>?_,trivial⟩;by_cases e:j=n
     . subst e;rw[dc];exact js.a _ _
     . rw[ef _ _ e];exact(a (.fl j) (by intro h;cases h)).1 (by omega)
   | bd j =>
     intro u;by_cases e:j=n
     . subst e;rw[dc];exact bK.f _ _ _
     . rw[ef _ _ e];exact a (.bd j) (by intro h;cases h) (by omega)
   | ret=>trivial
   | out=>trivial
 . by_cases e:j=n
   . subst e;rw[dc,dc]
   . rw[ef _ _ e,ef _ _ e];exact G j (by omega)
 . rcases eN i wr.heap.size with C | C
   . rw[fg C] at m;exact y i m
   . exact R (by omega)
 . rcases y i (by rw[e,(b .row).2];intro h;cases h) with h | h
   . exact h
   . omega
theorem oZ.j {wr:X}(h:oZ S w g gs s 4 wr):gi wr (ay S w) g gs s (fun _=>eG)∧am S w wr:=by
 obtain⟨⟨e,v,x,f,b,i⟩,l⟩:=h;refine⟨⟨e,x,fun d=>?_,i⟩,l⟩;have a:=f d;cases d with
 | row =>
   refine⟨⟨?_,fun k m=>rfl⟩,a.2⟩;have:=a.1.c;unfold kS at this ⊢;rw[b 0 (by omega),b 1 (by omega),b 2 (by omega),b 3 (by omega)] at this;exact this
 | jd=>exact a
 | rq j=>exact a
 | fl j=>exact a
 | bd j=>exact a
 | ret=>trivial
 | out=>trivial
theorem C2 (h:oZ S w g gs s 0 w):
 Calls prog 47 #[Q (M ⟨g,0,U⟩)] w fun e w'=>e=Y (.tuple #[])∧gi w' (ay S w) g gs s (fun _=>eG)∧am S w w':=by
 go_enter func47,ntmps47;go_wp2;go_loopw [3] (fun l wr=>∃i:Nat,i<=4∧l=I J i∧oZ S w g gs s i wr) (fun l _=>4-(intOf l).toNat)
 case atStart=>exact⟨0,ax _,rfl,h⟩
 case round =>
  obtain⟨i,hi,rfl,n⟩:=hrel;by_cases b:i<4
  . have p:(i:Int)<4:=by omega
    have t:(0:Int)<=(i:Int):=by omega
    have y:oZ S w g gs s i wr.drew:=by
     obtain⟨⟨z,v,x,B,d,C⟩,D⟩:=n;exact⟨⟨z,v,x,B.f (le (fun _=>bM.a) bM.a) (bj _ _),d,C⟩,D.a (am.H (fun _=>False) wr 1) (fun _ e _=>e.elim)⟩
    go_upto_region 3 with fail
    go_region_law ((go_simp;go_at_call 51;refine((fun W=>Co W) _).mono ?_;rintro e G ⟨q,rfl,r,f⟩;obtain⟨v,a,k⟩:=y.r r f;obtain⟨H,L,N,T,a4,a5,a6,d⟩:=rt (a.b i b);have c0:G.cell? ⟨g,1+i*7,U⟩=M H:=a.a b (j:=0) (by decide) (by rw[d];rfl);have c1:=a.a b (j:=1) (by decide) (u:=L) (by rw[d];rfl);have c2:=a.a b (j:=2) (by decide) (u:=N) (by rw[d];rfl);have c3:=a.a b (j:=3) (by decide) (u:=T) (by rw[d];rfl);have c4:=a.a b (j:=4) (by decide) (u:=a4) (by rw[d];rfl);have c5:=a.a b (j:=5) (by decide) (u:=a5) (by rw[d];rfl);have c6:=a.a b (j:=6) (by decide) (u:=a6) (by rw[d];rfl);have fz:=fun j=>a.j j;have oW:=aa (k _ (a.y b (Q (M ⟨q,0,U⟩)) (V ⟨#[]⟩) (V ⟨#[]⟩) (I J 0) (Z U 0 0) (I J 0) (Z U 0 0)).1 (a.y b (Q (M ⟨q,0,U⟩)) (V ⟨#[]⟩) (V ⟨#[]⟩) (I J 0) (Z U 0 0) (I J 0) (Z U 0 0)).2);clear r f k d))
    all_goals
     go_wp2;go_roundw
     case rel=>exact⟨i+1,by omega,by go_num,oW.o⟩
     case measure=>simp[intOf];omega
  . obtain rfl:i=4:=by omega
    have m:=n.j;go_wp2;go_end0
    exact⟨rfl,m⟩
end
section
variable {w w':X} {S S':Nat->Prop} {g gs:Nat} {s s':av} {c:Nat->da}
theorem gi.j (h:gi w S g gs s c):∃a:Nat->Prop,aS w a gs s∧(∀k,a k->S k)∧w.cell? ⟨g,0,U⟩=M (Q (M ⟨gs,0,U⟩))∧∀s' w',aS w' (ay a w) gs s'->am a w w'->gi w' (ay S w) g gs s' c:=by
 obtain⟨i,x,b,j⟩:=h;refine⟨fun k=>i k=.jd,b .jd,fun k e=>j k (by rw[e];intro q;cases q),(b .row).1.B,fun s' w' m n=>⟨cA i w.heap.size .jd,x,?_,fun k l=>?_⟩⟩
 . exact b.a (le (fun _=>bM.a) bM.a) n (fun _ e=>e) (X':=fN g gs s' (ep c x) 4 c x jj eE) (le (fun _=>bM.a) bM.a .jd) m (fun _ e=>e) (fun d o=>by cases d <;> first | rfl | exact absurd rfl o)
 . rcases eN k w.heap.size with f | f
   . rw[fg f] at l;exact A (j k l)
   . exact R f
theorem oZ.a (h:gi w S g gs s c):oZ S w g gs s 0 w:=by
 obtain⟨f,x,i,l⟩:=h;refine⟨⟨f,ep c x,x,fun d=>?_,fun k b=>absurd b (pK k),fun k b=>A (l k b)⟩,am.B _ _⟩;have e:=i d;cases d with
 | row=>exact e
 | jd=>exact e
 | rq j=>exact fun a=>absurd a (pK j)
 | fl j=>exact⟨fun a=>absurd a (pK j),trivial⟩
 | bd j=>exact fun a=>absurd a (pK j)
 | ret=>trivial
 | out=>trivial
end
inductive xN
 | row
 | gate
 | tr
 | out
def yb (g:Nat)(io:ag)(ni gT:Nat):Obj:=K #[Q (M ⟨g,0,U⟩),Z io ni gT] 78 (0,0)
def vI (p g gs:Nat)(o:Obj)(P:bJ)(io:ag)(gT:Nat):xN->dC
 | .row=>tG p o
 | .gate=>fun w S=>gi w S g gs P.s P.c
 | .tr=>AF io gT P.a
 | .out=>fun _ _=>True
theorem pY {p g gs:Nat}{o:Obj}{P:bJ}{b:ag}{c:Nat}:∀d,bM (vI p g gs o P b c d)
 | .row=>tG.a _ _
 | .gate=>⟨fun h e a=>gi.f h e a,fun h a=>gi.a h a⟩
 | .tr=>AF.a _ _ _
 | .out=>bM.a
def dt (w:X)(S:Nat->Prop)(p g gs:Nat)(P:bJ):Prop:=∃κ io gT,eJ (vI p g gs (yb g io P.a.length gT) P io gT) κ w∧∀k,κ k≠.out->S k
section
variable {w w':X} {S S':Nat->Prop} {p g gs:Nat} {P:bJ}
theorem dt.y (h:dt w S p g gs P)(c:am S' w w')(f:∀k,S k->¬S' k):dt w' S p g gs P:=by
 obtain⟨i,j,l,m,a⟩:=h;refine⟨i,j,l,fun d=>?_,a⟩;by_cases b:d=.out
 . subst b;exact trivial
 . exact(pY d).c (m d) c (fun k e=>f k (a k (by rw[e];exact b)))
theorem dt.B (h:dt w S p g gs P)(a:Below w.heap.size w w'):dt w' S p g gs P:=h.y (am.f (S:=fun _=>False) a) (fun _ _ e=>e)
theorem dt.j (h:dt w S p g gs P)(c:∀k,k<w.heap.size->S k->S' k):dt w S' p g gs P:=by
 obtain⟨f,i,j,l,m⟩:=h;refine⟨cA f w.heap.size .out,i,j,fun d=>?_,fun k a=>?_⟩
 . by_cases n:d=.out
   . subst n;exact trivial
   . exact(pY d).b (l d) (fun k a e=>(fg a).trans e)
 . rcases eN k w.heap.size with b | b
   . rw[fg b] at a;exact c k b (m k a)
   . exact absurd (pR b) a
theorem Hm {κ:Nat->xN}{d:xN}(c:∀k,κ k≠.out->S k):∀k,cA κ w.heap.size d k≠.out->ay S w k:=fun k b=>by
 rcases eN k w.heap.size with a | a
 . rw[fg a] at b;exact A (c k b)
 . exact R a
theorem dt.r (h:dt w S p g gs P):∃a:Nat->Prop,gi w a g gs P.s P.c∧(∀k,a k->S k)∧w.cell? ⟨p,0,U⟩=M (Q (M ⟨g,0,U⟩))∧∀b f w',gi w' (ay a w) g gs b f->am a w w'->dt w' (ay S w) p g gs ⟨b,f,P.a⟩:=by
 obtain⟨m,i,j,l,n⟩:=h;refine⟨fun k=>m k=.gate,l .gate,fun k e=>n k (by rw[e];intro q;cases q),aq w p 0 _ _ _ (l .row).1,fun b f w' o r=>⟨cA m w.heap.size .gate,i,j,?_,Hm n⟩⟩;exact l.a pY r (fun _ e=>e) (X':=vI p g gs (yb g i P.a.length j) ⟨b,f,P.a⟩ i j) (pY .gate) o (fun _ e=>e) (fun d t=>by cases d <;> first | rfl | exact absurd rfl t)
theorem dt.nT (h:dt w S p g gs P):∃f u,aK w 0 3 1 f u P.a.length (jR P.a)∧w.cell? ⟨p,1,U⟩=M (Z f P.a.length u)∧w.frozen? ⟨p,1,U⟩=F∧S p∧(∀k,aw f=M k->S k) ∧
 ∀l m i w', aK w' 0 3 1 l m (P.a.length + 1) (jR P.a ++ [I J i]) -> w.grownBy w' (aw f) -> (∀j, aw l = M j -> aw f = M j ∨ w.heap.size <= j) ->
   (w'.cell? ⟨p,1,U⟩=M (Z f P.a.length u)∧w'.frozen? ⟨p,1,U⟩=F)∧dt (w'.setCell ⟨p,1,U⟩ (Z l (P.a.length+1) m)) (ay S w) p g gs ⟨P.s,P.c,P.a++[i]⟩∧am S w (w'.setCell ⟨p,1,U⟩ (Z l (P.a.length+1) m)):=by
 obtain⟨v,f,u,B,y⟩:=h;have x:=B .row;have r:∀k,aw f=M k->v k=.tr:=fun k e=>by
  cases f with
  | none=>cases e
  | some a=>injection e with e;rw[<-e];exact(B .tr).2 a rfl
 have C:∀{a b:xN} {k:Nat},v k=a->v k=b->a=b:=fun e e2=>e.symm.trans e2;refine⟨f,u,(B .tr).1,aq w p 1 _ _ _ x.1,aN w p 1 _ _ x.1,y p (by rw[x.2];intro q;cases q),fun k e=>y k (by rw[r k e];intro q;cases q),fun l m i w' hO hG D=>?_⟩;have n:am (fun k=>v k=.tr) w w':=am.G (S:=fun k=>v k=.tr) hG r;have t:=n.y x.1 (fun e=>by have:=C x.2 e;cases this);have hz:=n.b;have T:am (fun k=>k=p) w' (w'.setCell ⟨p,1,U⟩ (Z l (P.a.length+1) m)):=am.r (fun k=>k=p) w' _ _ rfl;have G:=aP w' p 1 _ _ (Z l (P.a.length+1) m) t;have o:(P.a++[i]).length=P.a.length+1:=by simp
 have z:jR (P.a++[i])=jR P.a++[I J i]:=by simp[jR]
 refine⟨⟨aq w' p 1 _ _ _ t,aN w' p 1 _ _ t⟩,?_,(n.j (fun k e=>y k (by rw[e];intro q;cases q))).a T (fun k e _=>by rw[e];exact y p (by rw[x.2];intro q;cases q))⟩;have H:eJ (vI p g gs (yb g f P.a.length u) ⟨P.s,P.c,P.a++[i]⟩ l m) (cA v w.heap.size .tr) w' :=
  B.a pY n (fun _ e=>e) (pY .tr) (N:=fun k=>aw f=M k∨w.heap.size<=k) (by
   refine⟨?_,fun a e=>D a.block (by rw[e];rfl)⟩;show aK w' 0 3 1 l m (P.a++[i]).length (jR (P.a++[i]));rw[o,z];exact hO) (fun k e=>by
   rcases e with e | e
   . exact A (r k e)
   . exact R e) (fun d L=>by cases d <;> first | rfl | exact absurd rfl L)
 have h2:=H.a pY T (c:=.row) (fun k e=>by rw[e];exact(H .row).2) (X':=vI p g gs (yb g l (P.a++[i]).length m) ⟨P.s,P.c,P.a++[i]⟩ l m) (pY .row) (N:=fun k=>k=p) (by
  refine⟨?_,rfl⟩;rw[o];exact G) (fun k e=>A (by rw[e];exact(H .row).2)) (fun d L=>by cases d <;> first | rfl | exact absurd rfl L)
 refine⟨_,l,m,h2,fun k W=>?_⟩;rcases eN k w'.heap.size with hl | hl
 . rw[fg hl] at W;exact Hm (w:=w) y k W
 . exact R (by omega)
theorem dt.mI (h:dt w S p g gs P):p<w.heap.size:=by
 obtain⟨b,c,d,a,e⟩:=h;exact(bO.1 (a .row).1).1
end
section
variable {w w':X} {S:Nat->Prop} {p g gs:Nat} {P:bJ}
theorem dt.f (h:dt w S p g gs P):∃B:Nat->Prop,aS w B gs P.s∧(∀k,B k->S k)∧(w.cell? ⟨p,0,U⟩=M (Q (M ⟨g,0,U⟩))∧w.cell? ⟨g,0,U⟩=M (Q (M ⟨gs,0,U⟩)))∧∀a w',aS w' (ay B w) gs a->am B w w'->dt w' (ay S w) p g gs ⟨a,P.c,P.a⟩:=by
 obtain⟨r,j,l,m,n⟩:=h.r;obtain⟨B,o,f,b,d⟩:=j.j;exact⟨B,o,fun k e=>l k (f k e),⟨m,b⟩,fun a w' q i=>n a P.c w' (d a w' q i) (i.j f)⟩
structure ow (S:Nat->Prop)(w:X)(p g gs:Nat)(P:bJ)(w':X):Prop where
 a:dt w' (ay S w) p g gs P
 b:am S w w'
theorem dt.H (h:dt w S p g gs P)(ok:aJ P.s)(a:Int):Calls prog 122 #[Q (M ⟨gs,0,U⟩),I J a] w fun e w'=>e=Y (I J ((fu P.s a).2:Int))∧ow S w p g gs ⟨(fu P.s a).1,P.c,P.a⟩ w':=by
 obtain⟨B,b,f,_,i⟩:=h.f;exact(Mn b ok a).mono fun e w' d=>⟨d.d,i _ _ d.c d.b,d.b.j f⟩
theorem dt.jY (h:dt w S p g gs P)(ok:aJ P.s)(a:Int):Calls prog 125 #[Q (M ⟨gs,0,U⟩),I J a] w fun e w'=>e=Y (I J ((kT P.s a).2:Int))∧ow S w p g gs ⟨(kT P.s a).1,P.c,P.a⟩ w':=by
 obtain⟨B,b,f,_,i⟩:=h.f;exact(QA b ok a).mono fun e w' d=>⟨d.d,i _ _ d.c d.b,d.b.j f⟩
theorem dt.G (h:dt w S p g gs P):Calls prog 123 #[Q (M ⟨gs,0,U⟩)] w fun e w'=>e=Y (.tuple #[])∧ow S w p g gs ⟨eA P.s,P.c,P.a⟩ w':=by
 obtain⟨B,b,d,_,f⟩:=h.f;exact(rh b).mono fun e w' ⟨i,j,a⟩=>⟨i,f _ _ (j.a fun k _ e=>A e) a,a.j d⟩
theorem dt.a (h:dt w S p g gs P):w.cell? ⟨p,0,U⟩=M (Q (M ⟨g,0,U⟩))∧w.cell? ⟨g,0,U⟩=M (Q (M ⟨gs,0,U⟩)):=by
 obtain⟨B,_,_,a,_⟩:=h.f;exact a
def ij (p g gs:Nat)(c:Nat->da)(tr:List Int):nt:=fun w S _ s=>dt w S p g gs ⟨s,c,tr⟩
theorem lW {c:Nat->da}{tr:List Int}:oY (ij p g gs c tr):=⟨fun h b a=>dt.y h b a,fun h a=>dt.j h a⟩
theorem bZ.jK {O O':nt}{S' b:Nat->Prop}{W W':X}{bs:List Obj}{s d:av}(h:bZ O S w g bs s S' W)(f:O' W' b g d)(j:∀k,b k->ay S' W k)(c:am S' W W'):bZ O' S w g bs d b W':=by
 have l:=h.c;refine⟨fun i m=>?_,f,fun k e=>?_,h.e.a c (fun k e n=>?_),cq l c.b⟩
 . refine(c.c _ (by omega) (fun e=>?_)).trans (h.h i m);rcases h.d _ e with a | a
   . omega
   . omega
 . rcases j k e with e | e
   . exact h.d k e
   . exact R (by omega)
 . rcases h.d k e with a | a
   . exact a
   . omega
theorem bZ.qg {O:nt}{S':Nat->Prop}{W:X}{bs:List Obj}{s:av}(L:oY O)(h:bZ O S w g bs s S' W):bZ O S w g bs s (fun k=>S' k∧k<W.heap.size) W:=⟨h.h,L.a h.b (fun _ a e=>⟨e,a⟩),fun k e=>h.d k e.1,h.e,h.c⟩
structure qq (S:Nat->Prop)(w:X)(p g gs:Nat)(r:bJ×mn)(e:Ending)(w':X):Prop where
 d:∃(ao uo:ag) (jB an gQ un:Nat),e=Y (.agg #[I J (r.2.a:Int),Z ao an jB,Z uo un gQ])∧an=r.2.b.length∧un=r.2.c.length∧aB w' ao jB r.2.b∧aB w' uo gQ r.2.c∧∃Pd,dt w' Pd p g gs r.1∧(∀k,Pd k->ay S w k)∧(r.2.c≠[]->∀a,uo=M a->w.heap.size<=a.block∧¬Pd a.block)
 c:dt w' (ay S w) p g gs r.1
 b:am S w w'
def Bu (x0 x1 x2:Value):Obj:=K #[x0,x1,x2] 70 (0,0)
theorem aB.nT {W d:X}{b:Nat}{ao:ag}{cap:Nat}{l:ab}(o:W.heap[b]? = M (Bu (I J 0) (Z U 0 0) (Z U 0 0)))(h:aB W ao cap l)(q:am (fun k=>k=b) W d):aB d ao cap l:=by
 by_cases i:l=[]
 . subst i;exact aB.kU d h
 . have j:=kY.2 i;obtain⟨m,r,rfl,_⟩:=h.r j;refine h.y q (fun a e=>?_);injection e with e;subst e;intro f;have f:m=b:=f;subst f;have c:=h.j 0 j;rw[ge,aq W m _ _ _ _ o] at c;match r,c with
   | 0,c=>cases c
   | 1,c=>cases c
   | 2,c=>cases c
   | n+3,c=>simp at c
theorem bZ.B {c:Nat->da}{tr:List Int}{S':Nat->Prop}{W W':X}{bs:List Obj}{s:av}(h:bZ (ij p g gs c tr) S w 0 bs s S' W)(q:Below W.heap.size W W'){i:Nat}(j:bs[i]? = M (Bu (I J 0) (Z U 0 0) (Z U 0 0))){b:Nat}(r:w.heap.size+i=b)(o:mn){ci:Int}(t:(o.a:Int)=ci){ao uo:ag}{jB an gQ un:Nat}(u:an=o.b.length)(v:un=o.c.length)(x:aB W' ao jB o.b)(y:aB W' uo gQ o.c)(B:o.c≠[]->∀a,uo=M a->w.heap.size<=a.block∧¬S' a.block):
 (W'.cell? ⟨b,0,U⟩=M (I J 0)∧W'.cell? ⟨b,1,U⟩=M (Z U 0 0)∧W'.cell? ⟨b,2,U⟩=M (Z U 0 0)∧W'.frozen? ⟨b,0,U⟩=F∧W'.frozen? ⟨b,1,U⟩=F∧W'.frozen? ⟨b,2,U⟩=F) ∧
 Hid ((((W'.setCell ⟨b,0,U⟩ (I J ci)).setCell ⟨b,1,U⟩ (Z ao an jB)).setCell ⟨b,2,U⟩ (Z uo un gQ)).cell? ⟨b,0,U⟩=M (I J ci)∧(((W'.setCell ⟨b,0,U⟩ (I J ci)).setCell ⟨b,1,U⟩ (Z ao an jB)).setCell ⟨b,2,U⟩ (Z uo un gQ)).cell? ⟨b,1,U⟩=M (Z ao an jB)∧(((W'.setCell ⟨b,0,U⟩ (I J ci)).setCell ⟨b,1,U⟩ (Z ao an jB)).setCell ⟨b,2,U⟩ (Z uo un gQ)).cell? ⟨b,2,U⟩=M (Z uo un gQ)∧qq S w p g gs (⟨s,c,tr⟩,o) (Y (.agg #[I J ci,Z ao an jB,Z uo un gQ])) (((W'.setCell ⟨b,0,U⟩ (I J ci)).setCell ⟨b,1,U⟩ (Z ao an jB)).setCell ⟨b,2,U⟩ (Z uo un gQ))):=by
 subst r;have d:=h.a lW q;obtain⟨z,C⟩:=rD (d.H i j) (I J ci) (Z ao an jB) (Z uo un gQ);have D:=(fe.1 j).1;refine⟨z,?_⟩;obtain⟨G,H,L,l⟩:=C.o;generalize (((W'.setCell ⟨w.heap.size+i,0,U⟩ _).setCell ⟨w.heap.size+i,1,U⟩ _).setCell ⟨w.heap.size+i,2,U⟩ _)=N at *;have T:dt W' S' p g gs ⟨s,c,tr⟩:=d.b;have f:dt N S' p g gs ⟨s,c,tr⟩:=T.y l (fun k e e2=>by
  rcases d.d k e with m | m
  . omega
  . omega)
 have n:∀k,S' k->ay S w k:=fun k e=>by
  rcases d.d k e with m | m
  . exact A m.1
  . exact R (by omega)
 exact⟨G,H,L,⟨ao,uo,jB,an,gQ,un,by rw[<-t],u,v,x.nT (d.H i j) l,y.nT (d.H i j) l,S',f,n,B⟩,f.j (fun k _ e=>n k e),(d.e.j (fun k e=>e.1)).a l (fun k e hk=>by omega)⟩
end
theorem Ru (w:X)(m t:ae)(mi ln:Int)(l:aC)(fo bo:ag)(gy nf fZ nb:Nat)(body:ab)(b:bq w fo gy nf (aI l))(c:l.length=nf)(d:nf<=1000000)(f:∀p∈l,p.1.size<=2000∧p.2.size<=2000)(g:m.size+t.size<=10000)(i:body.length=nb)(a:aB w bo fZ body)(k:nb<=100000)(n:dj w):
 Calls prog 182 #[.agg #[V m,V t,I J mi,Z fo nf gy,I J ln],Z bo nb fZ] w fun e w'=>Br w (oI m t l) body e w':=by
 by_cases j:oK (fj m.data.toList) (iU t.data.toList) (m.data.toList.length+t.data.toList.length+10) nb nf (aG gn l).length (aG go l).length (aG gv l).length=0
 . exact N4 w m t ⟨(bx 8 nb).toArray⟩ mi ln l fo bo gy nf fZ nb body b c d f g i a (fun W o=>mE nb (by omega) W (n.a o)) rfl j
 . exact MC w m t mi ln l fo bo gy nf fZ nb body b c d f g i j
section
variable {w0 w w':X}
theorem N5 (u:aL)(n:Nat)(hid:u.c=(n:Int))(hn:n<1000000000){bo:ag}{fZ nb:Nat}(t:aB w bo fZ u.b)(hb:u.b.length=nb)(hnb:nb<=100000)(hz:u.d.size<=2000)(hP:dj w)(sz st:Int):
 Calls prog 124 #[.agg #[I J (n:Int),I J sz,V u.d,Z bo nb fZ,I J st]] w fun e w'=>∃(ao:ag) (cap m:Nat),e=Y (Z ao m cap)∧m=(nP u).length∧aB w' ao cap (nP u)∧Below w.heap.size w w'∧∀a,ao=M a->w.heap.size<=a.block:=by
 have v:=(ar _ w).alloc (ak _) (K #[I J (n:Int),I J sz,V u.d,Z bo nb fZ,I J st] 92);have x:=mE n hn _ (hP.a v);obtain⟨d,hd⟩:∃d:ae,d=⟨(bx 8 n).toArray⟩:=⟨_,rfl⟩;have hdz:d.size<=9:=by
  rw[hd];show(bx 8 n).toArray.size<=9;rw[cz];exact(gx 8 n).1
 rw[<-hd] at x;have W:AO u.c=AM++d:=by
  unfold AO eL;rw[hid,Int.toNat_natCast,hd]
 have R5:AN u=oI uS (AM++d) (lA u.d):=by unfold AN;rw[W];rfl
 have V7:Hid (nP u=(jp (oI ⟨#[80,79,83,84]⟩ ((⟨#[47,116,97,107,101,47]⟩:ae)++d) (lA u.d)) u.b).1):=by unfold Hid nP;rw[R5];rfl
 have hzt:((⟨#[47,116,97,107,101,47]⟩:ae)++d).size<=15:=by rw[mB];show 6+d.size<=_;omega
 have hz1:¬(9223372036854775807<6+d.size):=by omega
 clear R5 W hd;go_enter func124,ntmps124;go_wp2_with fail;refine x.mono ?_;rintro e b ⟨rfl,y⟩;have HR:=(y.block w.heap.size (by simp)).trans (aX w _);have x2:=aq b _ 2 _ _ _ HR;have x3:=aq b _ 3 _ _ _ HR;simp at x2 x3;have HB1:=aa (au v y);obtain⟨tb,htb⟩:∃tb,(u.d.toList==[])=tb:=⟨_,rfl⟩;have HTb:Hid ((tb=true->u.d.size=0)∧(tb=F->¬u.d.size=0)):=by
  rw[<-htb,Lib.toList_data];have e:u.d.data.toList.length=u.d.size:=by rw[cJ];rfl
  exact⟨fun h=>by rw[<-e,cR.1 h];rfl,fun h h2=>aQ.1 h (ix (e.trans h2))⟩
 have s:=(bO.1 HR).1;have hA1:=(ar _ b).alloc (ak _) (K #[V ⟨#[72,111,115,116]⟩,V ⟨#[105,110,108,97,110,100]⟩] 148);have z:=au hA1 ((ar _ (b.alloc (K #[V ⟨#[72,111,115,116]⟩,V ⟨#[105,110,108,97,110,100]⟩] 148))).alloc (ak _) (K #[V ⟨#[80,79,83,84]⟩,V ((⟨#[47,116,97,107,101,47]⟩:ae)++d),I J 0,Z (M ⟨b.heap.size,0,U⟩) 1 1,I J 0] 82));have C:=aa ((z.block w.heap.size s).trans HR);have p:=aa (aX (b.alloc (K #[V ⟨#[72,111,115,116]⟩,V ⟨#[105,110,108,97,110,100]⟩] 148)) (K #[V ⟨#[80,79,83,84]⟩,V ((⟨#[47,116,97,107,101,47]⟩:ae)++d),I J 0,Z (M ⟨b.heap.size,0,U⟩) 1 1,I J 0] 82));have D:(b.alloc (K #[V ⟨#[72,111,115,116]⟩,V ⟨#[105,110,108,97,110,100]⟩] 148)).heap.size=b.heap.size+1:=bF ..;rw[D] at p;have HOf:Hid (aK ((b.alloc (K #[V ⟨#[72,111,115,116]⟩,V ⟨#[105,110,108,97,110,100]⟩] 148)).alloc (K #[V ⟨#[80,79,83,84]⟩,V ((⟨#[47,116,97,107,101,47]⟩:ae)++d),I J 0,Z (M ⟨b.heap.size,0,U⟩) 1 1,I J 0] 82)) b.heap.size 148 2 (M ⟨b.heap.size,0,U⟩) 1 1 (aI [(qx,qy)])):=by
  have h0:aK (b.alloc (K #[V ⟨#[72,111,115,116]⟩,V ⟨#[105,110,108,97,110,100]⟩] 148)) b.heap.size 148 2 (M ⟨b.heap.size,0,U⟩) 1 1 (aI [(qx,qy)]):=⟨rfl,.inr ⟨b.heap.size,1,_,rfl,ak _,aX b _,ak _,by decide,rfl,rfl⟩⟩;exact h0.G _
 have G:=aa (au HB1.o z);have hs2:((b.alloc (K #[V ⟨#[72,111,115,116]⟩,V ⟨#[105,110,108,97,110,100]⟩] 148)).alloc (K #[V ⟨#[80,79,83,84]⟩,V ((⟨#[47,116,97,107,101,47]⟩:ae)++d),I J 0,Z (M ⟨b.heap.size,0,U⟩) 1 1,I J 0] 82)).heap.size=b.heap.size+2:=by rw[bF,D]
 have HS2:=aa hs2;clear hs2;have hsz:w.heap.size<b.heap.size:=s;obtain⟨i0,hi0,hq0,hq1,hq2⟩:=info_parts pS;have Hi:=aa hi0;have lg:=aa hq0;have kZ:=aa hq1;have lq:=aa hq2
 have H:Hid (nb=u.b.length∧nb<=100000∧aB w bo fZ u.b):=⟨hb.symm,hnb,t⟩;have Dl:=aa hP;clear hA1 z hi0 hq0 hq1 hq2 x2 x3 x y D HR t hb hP v HB1;go_upto_region 2 with fail
 generalize ((⟨#[47,116,97,107,101,47]⟩:ae)++d)=tg at *;generalize ((b.alloc (K #[V ⟨#[72,111,115,116]⟩,V ⟨#[105,110,108,97,110,100]⟩] 148)).alloc (K #[V ⟨#[80,79,83,84]⟩,V tg,I J 0,Z (M ⟨b.heap.size,0,U⟩) 1 1,I J 0] 82))=L at *;have x2:=aq L _ 2 _ _ _ C.o;simp at x2;have h3:=aq L _ 3 _ _ _ p.o;simp at h3;have hf3:=aN L _ 3 _ _ p.o;generalize b.heap.size=f at *;go_upto_if 15 with fail
 go_cut [] (fun wd=>∃(fo:ag) (fc nf:Nat),wd.heap[f+1]? = M (K #[V ⟨#[80,79,83,84]⟩,V tg,I J 0,Z fo nf fc,I J 0] 82 (0,0))∧nf=(lA u.d).length∧bq wd fo fc nf (aI (lA u.d))∧Below w.heap.size w wd∧wd.heap[w.heap.size]? = M (K #[I J (n:Int),I J sz,V u.d,Z bo nb fZ,I J st] 92 (0,0)))
 case first =>
  cases tb
  case true =>
   have r:=HTb.o.1 rfl;have JQ:Hid (lA u.d=[(qx,qy)]):=by unfold Hid lA;rw[if_pos r]
   clear r;go_wp2;go_meet;exact⟨M ⟨f,0,U⟩,1,1,p.o,by rw[JQ.o];rfl,by rw[JQ.o];exact HOf.o.a,G.o,C.o⟩
  case false =>
   have r:=HTb.o.2 rfl;have JQ:Hid (lA u.d=[(qx,qy)]++[(ir,u.d)]):=by unfold Hid lA;rw[if_neg r];rfl
   have uh:Hid (Below L.heap.size L (L.alloc (K #[V ⟨#[85,112,108,111,97,100,45,77,101,116,97,100,97,116,97]⟩,V u.d] 148))):=(ar _ _).alloc (ak _) _;have yG:=aa (HOf.o.B uh.o);have oW:Hid (∀g j l,(L.alloc (K #[V ⟨#[85,112,108,111,97,100,45,77,101,116,97,100,97,116,97]⟩,V u.d] 148)).grownBy g (M f)->aK g f 148 2 j l 2 (aI [(qx,qy)]++[V ir,V u.d])->(g.cell? ⟨f+1,3,U⟩=M (Z (M ⟨f,0,U⟩) 1 1)∧g.frozen? ⟨f+1,3,U⟩=F)∧((g.setCell ⟨f+1,3,U⟩ (Z j 2 l)).heap[f+1]? = M (K #[V ⟨#[80,79,83,84]⟩,V tg,I J 0,Z j 2 l,I J 0] 82 (0,0))∧bq (g.setCell ⟨f+1,3,U⟩ (Z j 2 l)) j l 2 (aI ([(qx,qy)]++[(ir,u.d)]))∧Below w.heap.size w (g.setCell ⟨f+1,3,U⟩ (Z j 2 l))∧(g.setCell ⟨f+1,3,U⟩ (Z j 2 l)).heap[w.heap.size]? = M (K #[I J (n:Int),I J sz,V u.d,Z bo nb fZ,I J st] 92 (0,0)))):=fun g j l hG hO=>by
    have T:=(am.f (S:=fun k=>k=f) uh.o).a (am.G hG (fun k e=>by injection e with e;exact e.symm)) (fun _ e _=>e);have r4:=T.y p.o (by omega);have u4:=T.y C.o (by omega);have wN:am (fun k=>k=f+1) g (g.setCell ⟨f+1,3,U⟩ (Z j 2 l)):=am.r (fun k=>k=f+1) g _ _ rfl;have hne:=gH r4 hO (by decide);rw[dq] at hne;have xW:=hO.j wN (fun a e e2=>hne (by rw[e];show M a.block=_;rw[e2]));have hB4:=(G.o.trans (T.below (B:=w.heap.size) (fun k e=>by omega) G.o.size));refine⟨⟨aq g _ 3 _ _ _ r4,aN g _ 3 _ _ r4⟩,aP g _ 3 _ _ _ r4,xW.a,hB4.trans (wN.below (B:=w.heap.size) (fun k e=>by omega) hB4.size),wN.y u4 (by omega)⟩
   clear r;go_wp2_with (at_builtin;go_loud (refine lO rfl (.tmp 17) (.tmp 21) 80 rfl f 148 i0 (.agg #[V ⟨#[]⟩,V ⟨#[]⟩]) 2 32 underlying80 Hi.o lg.o kZ.o lq.o rfl (by decide) rfl yG.o rfl (bq.j _ _ 1 _ _) rfl (wZ _ _) (by decide) (by decide) (by rw[bF];have:=HS2.o;omega) ?_;intro j l g hO4 hG4 JX;obtain⟨⟨e3,ef3⟩,hst⟩:=oW.o g j l hG4 hO4;have Ko:=aa hst;clear hO4 hG4 JX hst))
   go_meet;exact⟨j,l,2,Ko.o.1,by rw[JQ.o];rfl,by rw[JQ.o];exact Ko.o.2.1,Ko.o.2.2.1,Ko.o.2.2.2⟩
 case rest =>
  obtain⟨fo,fc,nf,i,hnf,hV,t,hru⟩:=hcut;have b0:=aq wc _ 0 _ _ _ i;have b1:=aq wc _ 1 _ _ _ i;have b2:=aq wc _ 2 _ _ _ i;have b3:=aq wc _ 3 _ _ _ i;have b4:=aq wc _ 4 _ _ _ i;have x3:=aq wc _ 3 _ _ _ hru;simp at b0 b1 b2 b3 b4 x3;have mH:(lA u.d).length<=2:=by unfold lA;split <;> simp
  have HWr:=Ru wc ⟨#[80,79,83,84]⟩ tg 0 0 (lA u.d) fo bo fc nf fZ nb u.b hV hnf.symm (by omega) (fun q hq=>by
   unfold lA at hq;rcases fS.1 hq with e | e
   . subst e;exact⟨by decide,by decide⟩
   . split at e
     . cases e
     . rw[cY.1 e];exact⟨show ir.size<=2000 by decide,hz⟩) (by show 4+tg.size<=_;omega) H.o.1.symm (H.o.2.2.a t) H.o.2.1 (Dl.o.a t)
  have Ij:=aa t;clear hV t hru i hnf mH;go_wp2_with fail;refine HWr.mono ?_;intro e w5 hw;have HFin:∃(ao:ag) (cap k cd:Nat),e=Y (.tuple #[Z ao k cap,I J (cd:Int)])∧k=(nP u).length∧aB w5 ao cap (nP u)∧Below w.heap.size w w5∧∀a,ao=M a->w.heap.size<=a.block:=by
   cases hw with
   | bad c hc he ht N=>exact⟨U,0,0,c,he,by rw[V7.o,ht];rfl,by rw[V7.o,ht];exact aB.f _,au Ij.o N,fun a e=>by cases e⟩
   | ok gb cap k he hk ht hO N=>exact⟨M ⟨gb,0,U⟩,cap,k,0,he,by rw[V7.o];exact hk,by rw[V7.o];exact hO.r,au Ij.o N,fun a e=>by injection e with e;subst e;exact cq Ij.o.size hO.c⟩
  obtain⟨ao,cap,k,cd,rfl,T⟩:=HFin;have HT:=aa T;clear hw T;go_wp2;go_ret;exact⟨ao,cap,k,rfl,HT.o⟩
end
section
variable {w0 w w':X} {S:Nat->Prop} {p g gs:Nat} {P:bJ}
def rB:Obj:=Bu (I J 0) (Z U 0 0) (Z U 0 0)
theorem G7 (h:dt w S p g gs P):bZ (ij p g gs P.c P.a) S w 0 [rB] P.s (fun k=>S k∧k<w.heap.size) (w.alloc (K #[I J 0,Z U 0 0,Z U 0 0] 70)) :=
 (bZ.jY lW (s:=P.s) h).y lW rfl (fun _ e=>e.2) _
theorem Rv (h:dt w S p g gs P)(ok:aJ P.s)(a:Int):
 Calls prog 72 #[Q (M ⟨p,0,U⟩),I J a] w fun e w'=>qq S w p g gs (oE P a) e w':=by
 obtain⟨f,j⟩:∃f,f=oE P a:=⟨_,rfl⟩;rw[<-j];unfold oE at j;have u:=G7 h;obtain⟨N,T⟩:=dt.a u.b;have k:=dt.jY u.b ok a;have d:(kT P.s a).2≠0->(kT P.s a).1=P.s:=pE;generalize kT P.s a=r at *;obtain⟨s2,l⟩:=r;simp only at j k d;have n:=aa j;have W:=aa d
 clear j d;go_enter func72,ntmps72;go_wp2_with fail;refine k.mono ?_;rintro e w2 ⟨rfl,G⟩;have t:=u.r (O:=ij p g gs P.c P.a) G.a G.b;obtain⟨H,L⟩:=dt.a t.b;clear N T;by_cases x:l=0
 . subst x;rw[if_neg (by simp)] at n;have Jz:=dt.G t.b;go_wp2_with fail;refine Jz.mono ?_;rintro e w3 ⟨rfl,m⟩;have T3:=t.r (O:=ij p g gs P.c P.a) m.a m.b;obtain⟨⟨z0,z1,z2,f0,f1,f2⟩,y⟩:=T3.B (ar _ _) (i:=0) rfl (b:=w.heap.size) rfl ⟨0,[],[]⟩ (ci:=0) rfl (ao:=U) (uo:=U) (jB:=0) (gQ:=0) rfl rfl (aB.f _) (aB.f _) (fun q=>absurd rfl q);clear H L;go_wp2;generalize (((w3.setCell ⟨w.heap.size,0,U⟩ _).setCell ⟨w.heap.size,1,U⟩ _).setCell ⟨w.heap.size,2,U⟩ _)=wf at *;obtain⟨z,B,C,D⟩:=y.o;refine aR (v:=.agg #[I J 0,Z U 0 0,Z U 0 0]) (by simp[results,results72,go_sem,z,B,C]) rfl ?_;rw[n.o];exact D
 . rw[if_pos (by simpa using x)] at n;have e:=W.o x;subst e;have tc:((l:Int)==0)=F:=aQ.2 (by omega);obtain⟨⟨z0,z1,z2,f0,f1,f2⟩,y⟩:=t.B (ar _ _) (i:=0) rfl (b:=w.heap.size) rfl ⟨l,[],[]⟩ (ci:=(l:Int)) rfl (ao:=U) (uo:=U) (jB:=0) (gQ:=0) rfl rfl (aB.f _) (aB.f _) (fun q=>absurd rfl q);clear H L;go_wp2;generalize (((w2.setCell ⟨w.heap.size,0,U⟩ _).setCell ⟨w.heap.size,1,U⟩ _).setCell ⟨w.heap.size,2,U⟩ _)=wf at *;obtain⟨z,B,C,D⟩:=y.o;refine aR (v:=.agg #[I J (l:Int),Z U 0 0,Z U 0 0]) (by simp[results,results72,go_sem,z,B,C]) rfl ?_;rw[n.o];exact D
theorem RO (hP:dj w0)(hW:Below w0.heap.size w0 w)(hF:∀i,S i->w0.heap.size<=i)(h:dt w S p g gs P)(ok:aJ P.s)(htr:P.a.length<=1000000)(d:Int):
 Calls prog 71 #[Q (M ⟨p,0,U⟩),I J d] w fun e w'=>qq S w p g gs (oH P d) e w':=by
 obtain⟨W,hR⟩:∃W,W=oH P d:=⟨_,rfl⟩;rw[<-hR];unfold oH at hR;have T1:=G7 h;obtain⟨x0,x1⟩:=dt.a T1.b;have z:=dt.H T1.b ok d;have C:(fu P.s d).2≠0->(fu P.s d).1=P.s:=pE;have D:(fu P.s d).2=0->∃i u,cE (fu P.s d).1.h.l d=M i∧(fu P.s d).1.h.l[i]? = M { u with e:=1 }∧rW (fu P.s d).1.h d=nP u∧u.c=d∧1<=d∧d<=100000∧u.d.size<=100∧u.b.length<=2000:=fun h0=>by
  obtain⟨i,u,hp,t,m,_,_,he⟩:=NR h0;obtain⟨h1,h2,h3⟩:=NY hp t he;have hk:=ok.h.a u (nw t);have:=hk.f;have:=hk.e;have:=ok.y
  exact⟨i,u,h1,h2,h3,m,by omega,by omega,hk.b,hk.a⟩
 have PV:=aa (ok.G d);generalize fu P.s d=r at *;obtain⟨s2,c2⟩:=r;simp only at hR z C D PV;have HR:=aa hR;have JZ:=aa C;have HYs:=aa D
 have HP:=aa hP;have HW:=aa hW;have HF:=aa hF
 clear hR C D hP hW hF;go_enter func71,ntmps71;go_wp2_with fail;refine z.mono ?_;rintro e w2 ⟨rfl,hd⟩;have T2:=T1.r (O:=ij p g gs P.c P.a) hd.a hd.b;obtain⟨y0,y1⟩:=dt.a T2.b;clear x0 x1;by_cases h0:c2=0
 . subst h0;rw[if_neg (by simp)] at HR;obtain⟨i,u,hp,t,hsu,m,hlo,hhi,hnz,hbz⟩:=HYs.o rfl;rw[hsu] at HR;have Jz:=dt.G T2.b;have HPl:=aa hp;have HUi:=aa t;have HId:=aa m;have HNz:=aa hnz;have HBz:=aa hbz
   obtain⟨n,rfl⟩:∃n:Nat,d=n:=⟨d.toNat,by omega⟩;clear hsu hp t m hnz hbz HYs JZ;go_wp2_with fail;refine Jz.mono ?_;rintro e w3 ⟨rfl,G⟩;have T3:=T2.r (O:=ij p g gs P.c P.a) G.a G.b;have H:=(ar _ w3).alloc (ak _) (K #[I J (n:Int)] 3);have T4:=T3.a lW H;have hpl:=dt.mI T3.b;obtain⟨io,gT,hO,hc1,hf1,_,_,hK⟩:=dt.nT T4.b;have c3:w3.cell? ⟨p,1,U⟩=M (Z io P.a.length gT):=((H.cell (p:=⟨p,1,U⟩) hpl).symm).trans hc1;have HO:Hid (aK (w3.alloc (K #[I J (n:Int)] 3)) 0 3 1 io gT P.a.length (jR P.a)):=hO;obtain⟨i0,hi0,hq0,hq1,hq2⟩:=info_parts zq;have Hi:=aa hi0;have lg:=aa hq0;have kZ:=aa hq1;have lq:=aa hq2
   have oW:Hid (∀x L f,aK f 0 3 1 x L (P.a.length+1) (jR P.a++[I J (n:Int)])->(w3.alloc (K #[I J (n:Int)] 3)).grownBy f (aw io)->(∀j,aw x=M j->aw io=M j∨(w3.alloc (K #[I J (n:Int)] 3)).heap.size<=j) ->
    (f.cell? ⟨p,1,U⟩=M (Z io P.a.length gT)∧f.frozen? ⟨p,1,U⟩=F)∧∃Pd,bZ (ij p g gs P.c (P.a++[(n:Int)])) S w 0 [rB] (eA s2) Pd (f.setCell ⟨p,1,U⟩ (Z x (P.a.length+1) L))):=fun x L f h1 h2 h3=>by
    obtain⟨k1,k2,k3⟩:=hK x L (n:Int) f h1 h2 h3;exact⟨k1,_,T4.jK (O':=ij p g gs P.c (P.a++[(n:Int)])) k2 (fun _ e=>e) k3⟩
   clear y0 y1 hi0 hq0 hq1 hq2 hO hK T2 T1 T3 T4 H hc1 hf1 z Jz hd G;generalize P.a.length=tn at *;go_upto_region 5 with fail
   go_upto_region 6 with (at_builtin;go_loud (refine lO rfl (.tmp 33) (.tmp 35) 55 rfl 0 3 i0 (I J 0) 1 8 underlying55 Hi.o lg.o kZ.o lq.o rfl (by decide) rfl HO.o rfl (bq.j _ _ 1 _ _) rfl (fun u t=>by simp at t;rw[t];rfl) (by omega) (by omega) (ax _) ?_;intro x L f hO4 hG4 JX;obtain⟨⟨e1,ef1⟩,hA4⟩:=oW.o x L f hO4 hG4 (fun j e=>by rcases JX with q | q;exact A (q▸e);exact R (by rw[q] at e;injection e with e;omega));have XV:=aa hA4;clear hO4 hG4 JX hA4))
   clear e1 ef1 c3 HO oW hpl;obtain⟨A5,T5⟩:=XV.o;clear XV;generalize (f.setCell ⟨p,1,U⟩ (Z x (tn+1) L))=w5 at *;obtain⟨B,hSt,_,⟨y0,y1⟩,_⟩:=dt.f T5.b;obtain⟨gp,gl,lo,lca,Pp,hI⟩:=hSt;obtain⟨⟨y2,_⟩,_⟩:=ce hI.a;have N:=mu HPl.o;have y:s2.h.l[i]={ u with e:=1 }:=by
    have:=HUi.o;rw[iz N] at this;injection this
   have ZP:=yF s2.h Pp gp (n:Int) i w5 hI.d PV.o.h HPl.o N;rw[y] at ZP;simp only[HId.o] at ZP;clear hI y N;have UZ:=aa T5;clear T5;go_wp2_with fail;refine ZP.mono ?_;rintro e w6 ⟨bo,fZ,rfl,X5,hb6⟩;have T:=(ar _ w6).alloc (ak _) (K #[I J (n:Int),I J u.a,V u.d,Z bo u.b.length fZ,I J 1] 92);have T7:=(UZ.o.a lW hb6).a lW T;have Qi:=aa (X5.a T);have hr7:=aX w6 (K #[I J (n:Int),I J u.a,V u.d,Z bo u.b.length fZ,I J 1] 92);have hW7:Below w0.heap.size w0 (w6.alloc (K #[I J (n:Int),I J u.a,V u.d,Z bo u.b.length fZ,I J 1] 92)):=HW.o.trans ((T7.e.j (S':=S) (fun k e=>e.1)).below (B:=w0.heap.size) (fun k e=>HF.o k e) HW.o.size);have HOn:=N5 (w:=w6.alloc (K #[I J (n:Int),I J u.a,V u.d,Z bo u.b.length fZ,I J 1] 92)) u n HId.o (by omega) Qi.o rfl (by have:=HBz.o;omega) (by have:=HNz.o;omega) (HP.o.a hW7) u.a 1;have YD:=aa (T7.qg lW);have RH:=aa hr7
   clear T7 hr7 hW7 T X5 hb6 ZP UZ y0 y1 y2;go_upto_region 7 with fail
   generalize (w6.alloc (K #[I J (n:Int),I J u.a,V u.d,Z bo u.b.length fZ,I J 1] 92))=W7 at *;have b0:=aq W7 _ 0 _ _ _ RH.o;have b1:=aq W7 _ 1 _ _ _ RH.o;have b2:=aq W7 _ 2 _ _ _ RH.o;have b3:=aq W7 _ 3 _ _ _ RH.o;have b4:=aq W7 _ 4 _ _ _ RH.o;simp at b0 b1 b2 b3 b4;go_wp2_with fail;refine HOn.mono ?_;rintro e w8 ⟨uo,gQ,un,rfl,hun,hU8,hb8,hnw⟩;obtain⟨⟨z0,z1,z2,f0,f1,f2⟩,HE⟩:=YD.o.B hb8 (i:=0) rfl (b:=w.heap.size) rfl ⟨0,[],nP u⟩ (ci:=0) rfl (ao:=U) (jB:=0) (an:=0) rfl hun (aB.f _) hU8 (fun _ a e=>by have h1:=hnw a e;have h2:=YD.o.c;exact⟨by omega,fun q=>by have:=q.2;omega⟩);clear b0 b1 b2 b3 b4 hun hU8 hb8 hnw;go_wp2;generalize (((w8.setCell ⟨w.heap.size,0,U⟩ _).setCell ⟨w.heap.size,1,U⟩ _).setCell ⟨w.heap.size,2,U⟩ _)=wf at *;obtain⟨q0,q1,q2,q3⟩:=HE.o;refine aR (v:=.agg #[I J 0,Z U 0 0,Z uo un gQ]) (by simp[results,results71,go_sem,q0,q1,q2]) rfl ?_;rw[HR.o];exact q3
 . rw[if_pos (by simpa using h0)] at HR;have e:=JZ.o h0;subst e;have tc:((c2:Int) != 0)=true:=di.2 (by omega);obtain⟨⟨z0,z1,z2,f0,f1,f2⟩,HE⟩:=T2.B (ar _ _) (i:=0) rfl (b:=w.heap.size) rfl ⟨c2,[],[]⟩ (ci:=(c2:Int)) rfl (ao:=U) (uo:=U) (jB:=0) (gQ:=0) rfl rfl (aB.f _) (aB.f _) (fun q=>absurd rfl q);clear y0 y1;go_wp2;generalize (((w2.setCell ⟨w.heap.size,0,U⟩ _).setCell ⟨w.heap.size,1,U⟩ _).setCell ⟨w.heap.size,2,U⟩ _)=wf at *;obtain⟨q0,q1,q2,q3⟩:=HE.o;refine aR (v:=.agg #[I J (c2:Int),Z U 0 0,Z U 0 0]) (by simp[results,results71,go_sem,q0,q1,q2]) rfl ?_;rw[HR.o];exact q3
end
section
variable {w0 w w1 wf wr:X} {S:Nat->Prop} {g gs:Nat} {s:av} {c:Nat->da} {κ:Nat->lY} {x:Nat->kR} {v:Nat->List Value} {k gp:Nat}
theorem dG.mI (h:dG w0 κ g gs s v c x jj eE wr)(t:dM w1 (fun i=>wr.heap.size<=i) gp pC)(o:Below wr.heap.size wr w1)(l:gj wf g gs (bL v k (mx eG (pw gp))))(m:am (fun i=>i=g) w1 wf):
 dG w0 (cA κ wr.heap.size (.rq k)) g gs s (bL v k (mx eG (pw gp))) (bL c k eG) (bL x k (pw gp)) jj eE wf:=by
 have b:=h.a;have n:=(b .row).1.r;have p:=h.b.size;have a:∀d,d≠.row->fN g gs s v 4 c x jj eE d wf (fun i=>cA κ wr.heap.size (.rq k) i=d):=fun d u=>by
  have L:bM (fN g gs s v 4 c x jj eE d):=le (fun _=>bM.a) bM.a d;have y:=L.b (b d) (S':=fun i=>κ i=d∧i<wr.heap.size) (fun i z e=>⟨e,z⟩);have C:=L.c (L.c y (am.f (S:=fun _=>False) o) (fun _ _ e=>e)) m (fun i e r=>u (by rw[<-e.1,r];exact(b .row).2));exact L.b C (fun i _ e=>(fg e.2).trans e.1)
 refine⟨fun d=>?_,h.e,h.b.trans ((am.f o).a m (fun i e _=>e) |>.below (B:=w0.heap.size) (fun i e=>by rw[e];exact h.d g (by rw[(b .row).2];intro q;cases q)) p),xg h.d p⟩;cases d with
 | row=>exact⟨l,(fg n).trans (b .row).2⟩
 | jd=>exact a .jd (by intro q;cases q)
 | rq j =>
   intro f;by_cases e:j=k
   . subst e;rw[dc,dc];exact(t.f m (fun i e r=>by omega)).a (fun i _ e=>pR e)
   . rw[ef _ _ e,ef _ _ e];exact a (.rq j) (by intro q;cases q) f
 | fl j =>
   refine⟨fun f=>?_,trivial⟩;by_cases e:j=k
   . subst e;rw[dc,dc];exact js.a _ _
   . rw[ef _ _ e,ef _ _ e];exact(a (.fl j) (by intro q;cases q)).1 f
 | bd j =>
   intro f;by_cases e:j=k
   . subst e;rw[dc,dc];exact bK.f _ _ _
   . rw[ef _ _ e,ef _ _ e];exact a (.bd j) (by intro q;cases q) f
 | ret=>trivial
 | out=>trivial
theorem AX {d:lY}{n:Nat}(h:∀i,κ i≠.out->ay S w i)(e:w.heap.size<=n):∀i,cA κ n d i≠.out->ay S w i:=fun i a=>by
 rcases eN i n with b | b
 . rw[fg b] at a;exact h i a
 . exact R (by omega)
theorem dG.G (h:dG w0 κ g gs s (ep c x) c x jj eE wr)(a:∀i,κ i≠.out->ay S w i):gi wr (ay S w) g gs s c:=⟨κ,x,h.a,a⟩
theorem MD (j:Int)(b:j<0∨4<=j)(w:X):
 Calls prog 14 #[Q (M ⟨g,0,U⟩),I J j] w fun e w'=>e=Y (I J 1)∧w'=w:=by
 have a:=fun W=>yn j W;rw[show(decide (0<=j)&&decide (j<4))=F from by rcases b with h | h <;> simp <;> omega] at a;go_enter func14,ntmps14;go_wp2_with fail;refine(a _).mono ?_;rintro e w1 ⟨rfl,d⟩;subst d;go_wp2;go_ret;exact⟨rfl,rfl⟩
structure xD (S:Nat->Prop)(w:X)(g gs:Nat)(c:Nat->da)(k:Nat)(s:av)(w':X):Prop where
 a:gi w' (ay S w) g gs s (bL c k eG)
 b:am S w w'
theorem QZ (hP:dj w0)(hW:Below w0.heap.size w0 w)(hF:∀i,S i->w0.heap.size<=i)(h:gi w S g gs s c)(ok:aJ s)(k:Nat)(r:k<4)(hc:ph (c k))(hl:(c k).b.length<=20000):
 Calls prog 14 #[Q (M ⟨g,0,U⟩),I J (k:Int)] w fun e w'=>e=Y (I J 0)∧xD S w g gs c k (pp bw s (c k)) w':=by
 have HI:=fun W=>yn (k:Int) W;rw[show(decide ((0:Int)<=(k:Int))&&decide ((k:Int)<4))=true from by simp;omega] at HI;obtain⟨κ,x,hH,hS⟩:=h;have hG0:dG w0 κ g gs s (ep c x) c x jj eE w:=⟨hH,hP,hW,fun i e=>hF i (hS i e)⟩;have HS:=aa hS;have N:∀k,bM (jj k):=fun _=>bM.a;have T:bM eE:=bM.a;have HIp:=fun W=>Mv ⟨(c k).a.e.toArray⟩ ⟨(c k).a.b.toArray⟩ ((c k).a.d:Int) (c k).a.c (x k).c (x k).a (c k).a.a.length (x k).d (c k).b.length (x k).b W (by show(c k).a.b.toArray.size<=_;rw[cz];have:=hc.a.b;omega);have HNc:=fun W=>Co W;have k0:(0:Int)<=(k:Int):=by omega
 have k4:(k:Int)<4:=by omega
 have NP:=yD hG0.j r (rfl:ep c x k=[Q (M ⟨(x k).e,0,U⟩),V ⟨(c k).a.e.toArray⟩,V ⟨(c k).a.b.toArray⟩,I J ((c k).a.d:Int),Z (x k).c (c k).a.a.length (x k).d,I J (c k).a.c,Z (x k).a (c k).b.length (x k).b]);obtain⟨y,hR⟩:∃y,y=pp bw s (c k):=⟨_,rfl⟩;rw[<-hR];unfold pp at hR;obtain⟨bp,hbp⟩:∃b,(decide ((⟨(c k).a.e.toArray⟩:ae)=ug)&&um ⟨(c k).a.b.toArray⟩)=b:=⟨_,rfl⟩;simp only[hbp] at HIp;have hpc:(iS (c k).a.e=ug∧um (iS (c k).a.b)=true)<->bp=true:=by
  rw[<-hbp,gZ,decide_eq_true_iff];rfl
 clear hbp;go_enter func14,ntmps14;go_wp2_with fail;refine(HI _).mono ?_;rintro e w1 ⟨rfl,hw⟩;rw[hw];go_wp2_with fail;refine NP.mono ?_;rintro e n ⟨rfl,hr2,jG⟩;have h2:=hG0.r N T hr2 jG;have hS2:=AX (d:=.row) (w:=w) (S:=S) (fun i e=>A (hS i e)) (ak _);have hbx:=(ar _ n).alloc (ak _) (K #[V ⟨(c k).a.e.toArray⟩,V ⟨(c k).a.b.toArray⟩,I J ((c k).a.d:Int),Z (x k).c (c k).a.a.length (x k).d,I J (c k).a.c,Z (x k).a (c k).b.length (x k).b] 84);have C:=aX n (K #[V ⟨(c k).a.e.toArray⟩,V ⟨(c k).a.b.toArray⟩,I J ((c k).a.d:Int),Z (x k).c (c k).a.a.length (x k).d,I J (c k).a.c,Z (x k).a (c k).b.length (x k).b] 84);have h3:=h2.f N T hbx;have hlt2:n.heap.size<(n.alloc (K #[V ⟨(c k).a.e.toArray⟩,V ⟨(c k).a.b.toArray⟩,I J ((c k).a.d:Int),Z (x k).c (c k).a.a.length (x k).d,I J (c k).a.c,Z (x k).a (c k).b.length (x k).b] 84)).heap.size:=by rw[bF];omega
 have hg2:g<n.heap.size:=hr2.r;have qj:am S w (n.alloc (K #[V ⟨(c k).a.e.toArray⟩,V ⟨(c k).a.b.toArray⟩,I J ((c k).a.d:Int),Z (x k).c (c k).a.a.length (x k).d,I J (c k).a.c,Z (x k).a (c k).b.length (x k).b] 84)):=(jG.j (fun i e=>by rw[e];exact hS g (by rw[(hH .row).2];intro h;cases h))).a (am.f (S:=fun _=>False) hbx) (fun _ e _=>e.elim);go_upto_region 4 with fail
 generalize (n.alloc (K #[V ⟨(c k).a.e.toArray⟩,V ⟨(c k).a.b.toArray⟩,I J ((c k).a.d:Int),Z (x k).c (c k).a.a.length (x k).d,I J (c k).a.c,Z (x k).a (c k).b.length (x k).b] 84))=W2 at *;have oW:Hid (∀gp D wf,dM D (fun i=>W2.drew.heap.size<=i) gp pC->Below W2.drew.heap.size W2.drew D->gj wf g gs (bL (bL (ep c x) k [Q (M ⟨(x k).e,0,U⟩),V ⟨#[]⟩,V ⟨#[]⟩,I J 0,Z U 0 0,I J 0,Z U 0 0]) k (mx eG (pw gp)))->am (fun i=>i=g) D wf ->
  (∃Dw x',dG w0 Dw g gs s (ep (bL c k eG) x') (bL c k eG) x' jj eE wf∧∀i,Dw i≠.out->ay S w i)∧wf.heap[n.heap.size]? = M (K #[V ⟨(c k).a.e.toArray⟩,V ⟨(c k).a.b.toArray⟩,I J ((c k).a.d:Int),Z (x k).c (c k).a.a.length (x k).d,I J (c k).a.c,Z (x k).a (c k).b.length (x k).b] 84 (0,0))∧am S w wf∧bq wf (x k).c (x k).d (c k).a.a.length (aI (co (c k).a.a))∧aB wf (x k).a (x k).b (c k).b):=fun gp D wf G z hrf Vv=>by
  have h4:=(h3.f N T (bj _ _));have h5:=h4.mI G z hrf Vv;rw[oU,<-vV] at h5;have B:=au (bj _ _) z;have H:=h3.f N T B;have hgr:cA κ w.heap.size .row g=.row:=(h2.a .row).2;refine⟨⟨_,_,h5,AX hS2 ?_⟩,Vv.y ((B.block _ hlt2).trans C) (fun e=>by have e:n.heap.size=g:=e;omega),(qj.a (am.f (S:=fun _=>False) B) (fun _ e _=>e.elim)).a Vv (fun i e _=>by rw[e];exact hS g (by rw[(hH .row).2];intro h;cases h)),?_,?_⟩
  . exact qj.b
  . exact(((H.a (.fl k)).1 r).f Vv (fun i e e2=>by rw[e2] at e;have:=hgr.symm.trans e;cases this)).b
  . exact bK.B ((H.a (.bd k) r).a Vv (fun i e e2=>by rw[e2] at e;have:=hgr.symm.trans e;cases this))
 have HR3:∀W,Below W2.heap.size W2 W->gj W g gs _:=fun W hW=>(h3.f N T hW).j;clear h3 h2 qj hbx C jG hr2 hG0 hH hS2 NP;go_cut [] (fun wd=>(∃Dw x',dG w0 Dw g gs s (ep (bL c k eG) x') (bL c k eG) x' jj eE wd∧∀i,Dw i≠.out->ay S w i)∧wd.heap[n.heap.size]? = M (K #[V ⟨(c k).a.e.toArray⟩,V ⟨(c k).a.b.toArray⟩,I J ((c k).a.d:Int),Z (x k).c (c k).a.a.length (x k).d,I J (c k).a.c,Z (x k).a (c k).b.length (x k).b] 84 (0,0))∧am S w wd∧bq wd (x k).c (x k).d (c k).a.a.length (aI (co (c k).a.a))∧aB wd (x k).a (x k).b (c k).b)
 case first =>
  go_region_law ((go_simp;go_at_call 51;refine(HNc _).mono ?_;rintro e D ⟨gp,rfl,G,z⟩;have B:Below W2.heap.size W2 D:=au (bj _ _) z;have a:=HR3 D B;obtain⟨a0,a1,a2,a3,a4,a5,a6,hv⟩:=rt (a.b k r);have c0:D.cell? ⟨g,1+k*7,U⟩=M a0:=a.a r (j:=0) (by decide) (by rw[hv];rfl);have c1:=a.a r (j:=1) (by decide) (u:=a1) (by rw[hv];rfl);have c2:=a.a r (j:=2) (by decide) (u:=a2) (by rw[hv];rfl);have c3:=a.a r (j:=3) (by decide) (u:=a3) (by rw[hv];rfl);have c4:=a.a r (j:=4) (by decide) (u:=a4) (by rw[hv];rfl);have c5:=a.a r (j:=5) (by decide) (u:=a5) (by rw[hv];rfl);have c6:=a.a r (j:=6) (by decide) (u:=a6) (by rw[hv];rfl);have fz:=fun j=>a.j j;have Ko:=aa (oW.o gp D _ G z (a.y r (Q (M ⟨gp,0,U⟩)) (V ⟨#[]⟩) (V ⟨#[]⟩) (I J 0) (Z U 0 0) (I J 0) (Z U 0 0)).1 (a.y r (Q (M ⟨gp,0,U⟩)) (V ⟨#[]⟩) (V ⟨#[]⟩) (I J 0) (Z U 0 0) (I J 0) (Z U 0 0)).2);clear G z hv B a))
  all_goals
   go_wp2;go_meet;exact Ko.o
 case rest =>
  obtain⟨⟨κ3,x3,hG3,IE⟩,l,hTw,hFV,hBV⟩:=hcut;have b0:=aq wc _ 0 _ _ _ l;have b1:=aq wc _ 1 _ _ _ l;have b2:=aq wc _ 2 _ _ _ l;have b3:=aq wc _ 3 _ _ _ l;have b4:=aq wc _ 4 _ _ _ l;have b5:=aq wc _ 5 _ _ _ l;have VB:=(bO.1 l).1;have HRw:=aa l;have HTw:=hTw;have yE:=hG3;have BZ:=aa IE;have HFV:=hFV;have HBV:=hBV
  clear oW HR3 HNc;go_wp2_with fail;refine(HIp _).mono ?_;rintro e w5 ⟨rfl,f⟩;have wN:am S w w5:=HTw.a (am.f (S:=fun _=>False) f) (fun _ e _=>e.elim);have h5:=yE.f N T f;have b6:=(f.cell (p:=⟨n.heap.size,5,U⟩) VB).trans b5;have sS:s=y->xD S w g gs c k y w5:=fun e=>⟨by rw[<-e];exact h5.G BZ.o,wN⟩;cases bp with
  | false =>
    have HN:=aa (sS (by rw[hR,if_neg (fun e=>by have:=hpc.1 ⟨e.1,e.2.1⟩;cases this)]));go_wp2;go_ret;exact⟨rfl,HN.o⟩
  | true =>
    by_cases L:(c k).b=[]
    . have HN:=aa (sS (by rw[hR,if_neg (fun e=>e.2.2 L)]));have hl0:(c k).b.length=0:=by rw[L];rfl
      have t:decide (((c k).b.length:Int) > 0)=F:=ba (by omega);go_wp2;go_ret;exact⟨rfl,HN.o⟩
    . have hp:=hpc.2 rfl;rw[if_pos ⟨hp.1,hp.2,L⟩] at hR;have hl0:=kY.2 L;have t:decide (((c k).b.length:Int) > 0)=true:=br (by omega);have H:dG w0 κ3 g gs s (ep (bL c k eG) x3) (bL c k eG) x3 jj eE w5.drew:=h5.f N T (bj _ _);have R8:=FC (m:=⟨(c k).a.e.toArray⟩) (t:=⟨(c k).a.b.toArray⟩) (mi:=((c k).a.d:Int)) (ln:=(c k).a.c) ⟨H.e,H.b,fun i e=>H.d i (by rw[e];intro h;cases h)⟩ (H.a .jd) ok (G9 hc.a ((hFV.a f).a (bj _ _))) (c k).b rfl ((hBV.a f).a (bj _ _)) (by omega) (by show(c k).a.b.toArray.size<=_;rw[cz];have:=hc.a.b;omega);have hz5:=wN.b;have HDn:∀w9,aS w9 (ay (fun i=>κ3 i=.jd) w5.drew) gs (bw s ⟨(c k).a.e.toArray⟩ ⟨(c k).a.b.toArray⟩ (pq (c k).a.a) (c k).b).1->am (fun i=>κ3 i=.jd) w5.drew w9->xD S w g gs c k y w9:=fun w9 kK qP=>by
       have h9:=H.H N T kK qP;refine⟨?_,(wN.a (am.H (fun _=>False) w5 1) (fun _ e _=>e.elim)).a qP (fun i e hi=>?_)⟩
       . rw[hR];exact h9.G (AX BZ.o hz5)
       . rcases BZ.o i (by rw[e];intro h;cases h) with q | q
         . exact q
         . omega
      have y0:=h5.j.B;have y1:=(f.cell (p:=⟨n.heap.size,0,U⟩) VB).trans b0;have y2:=(f.cell (p:=⟨n.heap.size,1,U⟩) VB).trans b1;have y3:=(f.cell (p:=⟨n.heap.size,2,U⟩) VB).trans b2;have y4:=(f.cell (p:=⟨n.heap.size,3,U⟩) VB).trans b3;have y5:=(f.cell (p:=⟨n.heap.size,4,U⟩) VB).trans b4;clear hR sS h5 H;go_upto_region 6 with fail
      go_cut [] (fun wd=>xD S w g gs c k y wd)
      case first =>
       go_region_law (first | (go_simp;go_at_call 53;refine R8.mono ?_;rintro e w9 ⟨⟨jE,ig,n9,rfl,lV,kM⟩,kK,qP⟩;have V8:=aa (HDn w9 kK qP);clear lV kM kK qP))
       all_goals
        go_wp2;go_meet;exact V8.o
      case rest =>
       have HC:=aa hcut;go_wp2;go_ret;exact⟨rfl,HC.o⟩
end
section
variable {w0 w:X} {S:Nat->Prop} {g gs:Nat} {s:av} {c:Nat->da}
def uB:List Value:=[Q U,V ⟨#[]⟩,V ⟨#[]⟩,I J 0,Z U 0 0,I J 0,Z U 0 0]
theorem oZ.f (h:aS w S gs s):oZ (fun k=>(S k∧k<w.heap.size)∨k=w.heap.size) (w.alloc (K (kS gs (fun _=>uB)).toArray 89)) w.heap.size gs s 0 (w.alloc (K (kS gs (fun _=>uB)).toArray 89)):=by
 have l:=(ar _ w).alloc (ak _) (K (kS gs (fun _=>uB)).toArray 89);classical
 refine⟨⟨fun k=>if k=w.heap.size then .row else if S k∧k<w.heap.size then .jd else .out,fun _=>uB,fun _=>pw 0,fun d=>?_,fun k a=>absurd a (pK k),fun k a=>?_⟩,am.B _ _⟩
 . cases d with
   | row=>exact⟨⟨aX w _,fun _ _=>rfl⟩,if_pos rfl⟩
   | jd=>exact aS.a ((aS.a h (S':=fun k=>S k∧k<w.heap.size) (fun k a e=>⟨e,a⟩)).f l) (fun k _ e=>by
    show(if k=w.heap.size then lY.row else if S k∧k<w.heap.size then .jd else .out)=.jd;rw[if_neg (by have:=e.2;omega),if_pos e])
   | rq j=>exact fun b=>absurd b (pK j)
   | fl j=>exact⟨fun b=>absurd b (pK j),trivial⟩
   | bd j=>exact fun b=>absurd b (pK j)
   | ret=>trivial
   | out=>trivial
 . simp only at a;by_cases f:k=w.heap.size
   . exact A (R f)
   . rw[if_neg f] at a;by_cases i:S k∧k<w.heap.size
     . exact A (A i)
     . rw[if_neg i] at a;exact absurd rfl a
theorem St (h:aS w S gs s):
 Calls prog 12 #[Q (M ⟨gs,0,U⟩)] w fun e w'=>e=Y (Q (M ⟨w.heap.size,0,U⟩))∧gi w' (ay S w) w.heap.size gs s (fun _=>eG)∧am S w w':=by
 have b:=(ar _ w).alloc (ak _) (K (kS gs (fun _=>uB)).toArray 89);go_enter func12,ntmps12;go_wp2_with fail;refine(C2 (oZ.f h)).mono ?_;rintro e d ⟨rfl,f,i⟩;have a:gi d (ay S w) w.heap.size gs s (fun _=>eG)∧am S w d:=by
  have j:=b.size;refine⟨f.a (fun k _ e=>?_),(am.f b).a i (fun k e l=>?_)⟩
  . rcases e with (e | e) | e
    . exact A e.1
    . exact R (by omega)
    . exact R (by omega)
  . rcases e with e | e
    . exact e.1
    . omega
 go_wp2;go_ret;exact⟨rfl,a⟩
end
section
variable {w0 w w':X} {S:Nat->Prop} {p g gs N:Nat} {P:bJ}
theorem dt.kU (t:dj w0)(u:Below w0.heap.size w0 w)(v:∀i,S i->w0.heap.size<=i)(h:dt w S p g gs P)(ok:il P N)(k:Int)(l:ab){bo:ag}{fZ n:Nat}(x:aB w bo fZ l)(y:l≠[]->∀a,bo=M a->¬S a.block)(z:l.length=n)(L:N+n<=20000):
 Calls prog 16 #[Q (M ⟨g,0,U⟩),I J k,Z bo n fZ] w fun e w'=>∃ao cap m,e=Y (.tuple #[Z ao m cap,I J ((kL P k l).2.a:Int)])∧m=(kL P k l).2.b.length∧aB w' ao cap (kL P k l).2.b∧ow S w p g gs (kL P k l).1 w':=by
 unfold kL;by_cases b:px k
 . rw[if_pos b];obtain⟨T,B,d,_,C⟩:=h.r;have W:=b.1;have h4:=b.2
   obtain⟨j,rfl⟩:∃j:Nat,k=j:=⟨k.toNat,by omega⟩;rw[Int.toNat_natCast];refine(Rr t u (fun i e=>v i (d i e)) B ok.s j (by omega) (ok.c j) l x (fun f a e q=>y f a e (d _ q)) z (by have:=ok.a j;omega)).mono ?_;rintro e D ⟨⟨ao,cap,m,rfl,G,H⟩,o,r⟩;refine⟨ao,cap,m,?_,G,H,C _ _ _ o r,r.j d⟩;split <;> rfl
 . rw[if_neg b];refine(MB k (by unfold px at b;omega) bo fZ n w).mono ?_;rintro e D ⟨rfl,rfl⟩;exact⟨U,0,0,rfl,rfl,aB.f _,h.j (fun _ _ e=>A e),am.B _ _⟩
theorem dt.lH (l:dj w0)(m:Below w0.heap.size w0 w)(n:∀i,S i->w0.heap.size<=i)(h:dt w S p g gs P)(ok:il P N)(t:N<=20000)(k:Int):
 Calls prog 14 #[Q (M ⟨g,0,U⟩),I J k] w fun e w'=>e=Y (I J ((lz P k).2.a:Int))∧ow S w p g gs (lz P k).1 w':=by
 unfold lz;by_cases a:px k
 . rw[if_pos a];obtain⟨u,o,d,_,q⟩:=h.r;have v:=a.1;have x:=a.2
   obtain⟨j,rfl⟩:∃j:Nat,k=j:=⟨k.toNat,by omega⟩;rw[Int.toNat_natCast];refine(QZ l m (fun i e=>n i (d i e)) o ok.s j (by omega) (ok.c j) (by have:=ok.a j;omega)).mono ?_;rintro e r ⟨rfl,b,f⟩;exact⟨rfl,q _ _ _ b f,f.j d⟩
 . rw[if_neg a];refine(MD k (by unfold px at a;omega) w).mono ?_;rintro e r ⟨rfl,rfl⟩;exact⟨rfl,h.j (fun _ _ e=>A e),am.B _ _⟩
theorem dt.jK (h:dt w S p g gs P)(ok:aJ P.s)(n:Int):Calls prog 73 #[Q (M ⟨gs,0,U⟩),I J n] w fun e w'=>e=Y (.tuple #[])∧ow S w p g gs ⟨gV P.s n,P.c,P.a⟩ w':=by
 obtain⟨B,b,d,_,f⟩:=h.f;exact(MI b ok n).mono fun e w' ⟨i,a⟩=>⟨i,f _ _ a.b a.a,a.a.j d⟩
theorem dt.nD (h:dt w S p g gs P):Calls prog 47 #[Q (M ⟨g,0,U⟩)] w fun e w'=>e=Y (.tuple #[])∧ow S w p g gs ⟨P.s,fun _=>eG,P.a⟩ w':=by
 obtain⟨j,b,c,_,d⟩:=h.r;exact(C2 (oZ.a b)).mono fun e w' ⟨f,i,a⟩=>⟨f,d _ _ _ i a,a.j c⟩
theorem NW (P:bJ)(k:Int)(l:ab):(kL P k l).2.c=[]∧(kL P k l).1.a=P.a:=by
 unfold kL;split <;> exact⟨rfl,rfl⟩
theorem NX (P:bJ)(k:Int):(lz P k).2.c=[]∧(lz P k).2.b=[]∧(lz P k).1.a=P.a:=by
 unfold lz;split <;> exact⟨rfl,rfl,rfl⟩
theorem Tv (h:dt w S p g gs P)(o:Obj):bZ (ij p g gs P.c P.a) S w 0 [o,rB] P.s (fun k=>S k∧k<w.heap.size) ((w.alloc o).alloc (K #[I J 0,Z U 0 0,Z U 0 0] 70)) :=
 ((bZ.jY lW (s:=P.s) h).y lW rfl (fun _ e=>e.2) o).y lW (by rw[bF];rfl) (fun k e=>by rw[bF];have:=e.2;omega) _
theorem SE (hP:dj w0)(hW:Below w0.heap.size w0 w)(hF:∀i,S i->w0.heap.size<=i)(h:dt w S p g gs P)(ok:il P N)(htr:P.a.length<=1000000)(x:kJ){bo:ag}{fZ nb:Nat}(hB:aB w bo fZ x.b)(tL:x.b≠[]->∀a,bo=M a->¬S a.block)(hn:x.b.length=nb)(hl:N+nb<=20000):
 Calls prog 28 #[Q (M ⟨p,0,U⟩),.agg #[I J x.c,I J x.a,I J x.n,Z bo nb fZ]] w fun e w'=>qq S w p g gs (gR P x) e w':=by
 obtain⟨d,hR⟩:∃d,d=gR P x:=⟨_,rfl⟩;rw[<-hR];unfold gR at hR;have T2:=Tv h (K #[I J x.c,I J x.a,I J x.n,Z bo nb fZ] 73 (0,0));have hb2:Below w.heap.size w ((w.alloc (K #[I J x.c,I J x.a,I J x.n,Z bo nb fZ] 73)).alloc (K #[I J 0,Z U 0 0,Z U 0 0] 70)):=au ((ar _ w).alloc (ak _) _) ((ar _ _).alloc (ak _) _);have hB2:=hB.a hb2;have hW2:=au hW hb2;have HP:=aa hP;have HF:=aa hF;have z:=aa hR
 obtain⟨B,hkd⟩:∃B,x.c=B:=⟨_,rfl⟩;rw[hkd] at z T2 hB2 hW2 ⊢;clear hb2 hR hP hF hB hW h;go_enter func28,ntmps28;go_upto_region 1 with fail
 generalize ((w.alloc (K #[I J B,I J x.a,I J x.n,Z bo nb fZ] 73)).alloc (K #[I J 0,Z U 0 0,Z U 0 0] 70))=t at *;have G:=T2.H 0 rfl;have k0:=aq t _ 0 _ _ _ G;have k1:=aq t _ 1 _ _ _ G;have k2:=aq t _ 2 _ _ _ G;have k3:=aq t _ 3 _ _ _ G;simp at k0 k1 k2 k3;obtain⟨c0,c1⟩:=dt.a T2.b;have r:=aa T2;have HB2:=aa hB2;have HW2:=aa hW2
 clear T2 G hB2 hW2;by_cases h1:B=1
 . subst h1;rw[if_pos rfl] at z;have l:=NW P x.a x.b;have H:=r.o.a lW (bj t.heap.size _);have Wd:=dt.kU (w:=t.drew) (N:=N) HP.o (au HW2.o (bj _ _)) (fun i e=>HF.o i e.1) H.b ok x.a x.b (HB2.o.a (bj _ _)) (fun hne a e q=>tL hne a e q.1) hn hl;rw[<-z.o] at Wd l;have L:Hid (∀j,ow (fun k=>S k∧k<w.heap.size) t.drew p g gs d.1 j->∃C,bZ (ij p g gs d.1.c d.1.a) S w 0 [K #[I J 1,I J x.a,I J x.n,Z bo nb fZ] 73 (0,0),rB] d.1.s C j):=fun j f=>⟨_,H.jK (O':=ij p g gs d.1.c d.1.a) f.a (fun _ e=>e) f.b⟩;have MV:=aa l;clear H l;go_upto_region 3 with fail
   go_cut [5,6] (fun v5 v6 wd=>∃(ao:ag) (u m:Nat) (C:Nat->Prop),v5=Z ao m u∧v6=I J (d.2.a:Int)∧m=d.2.b.length∧aB wd ao u d.2.b∧bZ (ij p g gs d.1.c d.1.a) S w 0 [K #[I J 1,I J x.a,I J x.n,Z bo nb fZ] 73 (0,0),rB] d.1.s C wd)
   case first =>
    go_region_law (first | (go_simp;go_at_call 16;refine Wd.mono ?_;rintro e j ⟨ao,u,m,rfl,hm,hI,f⟩;have HM:=aa hm;have HI:=aa hI;have HD:=aa (L.o j f);clear hm hI f))
    all_goals
     go_wp2;go_meet;obtain⟨C,hA⟩:=HD.o;exact⟨ao,u,m,C,rfl,rfl,HM.o,HI.o,hA⟩
   case rest =>
    obtain⟨ao,u,m,C,rfl,rfl,hm,hI,T⟩:=hcut;obtain⟨⟨z0,z1,z2,f0,f1,f2⟩,W⟩:=T.B (ar _ _) (i:=1) rfl (b:=w.heap.size+1) rfl d.2 (ci:=(d.2.a:Int)) rfl (ao:=ao) (jB:=u) (an:=m) (uo:=U) (gQ:=0) (un:=0) hm (by rw[MV.o.1];rfl) hI (by rw[MV.o.1];exact aB.f _) (fun q=>absurd MV.o.1 q);clear hm hI T Wd;generalize d.2.a=D at *;go_wp2;generalize (((wc.setCell ⟨w.heap.size+1,0,U⟩ _).setCell ⟨w.heap.size+1,1,U⟩ _).setCell ⟨w.heap.size+1,2,U⟩ _)=wf at *;obtain⟨q0,q1,q2,q3⟩:=W.o;refine aR (v:=.agg #[I J (D:Int),Z ao m u,Z U 0 0]) (by simp[results,results28,go_sem,q0,q1,q2]) rfl ?_;exact q3
 by_cases h2:B=2
 . subst h2;rw[if_neg (by decide),if_pos rfl] at z;have l:=NX P x.a;have H:=r.o.a lW (bj t.heap.size _);have HGo:=dt.lH (w:=t.drew) (N:=N) HP.o (au HW2.o (bj _ _)) (fun i e=>HF.o i e.1) H.b ok (by omega) x.a;rw[<-z.o] at HGo l;obtain⟨D,hcd⟩:∃D,d.2.a=D:=⟨_,rfl⟩;rw[hcd] at HGo;have L:Hid (∀j,ow (fun k=>S k∧k<w.heap.size) t.drew p g gs d.1 j->_):=fun j f=>(H.jK (O':=ij p g gs d.1.c d.1.a) f.a (fun _ e=>e) f.b).B (ar _ _) (i:=1) rfl (b:=w.heap.size+1) rfl d.2 (ci:=(D:Int)) (by rw[hcd]) (ao:=U) (jB:=0) (an:=0) (uo:=U) (gQ:=0) (un:=0) (by rw[l.2.1];rfl) (by rw[l.1];rfl) (by rw[l.2.1];exact aB.f _) (by rw[l.1];exact aB.f _) (fun q=>absurd l.1 q);clear H l hcd;have t1:((2:Int)==1)=F:=rfl;go_upto_region 6 with fail
   go_cut [] (fun wd=>wd.cell? ⟨w.heap.size+1,0,U⟩=M (I J (D:Int))∧wd.cell? ⟨w.heap.size+1,1,U⟩=M (Z U 0 0)∧wd.cell? ⟨w.heap.size+1,2,U⟩=M (Z U 0 0)∧qq S w p g gs d (Y (.agg #[I J (D:Int),Z U 0 0,Z U 0 0])) wd)
   case first =>
    go_region_law (first | (go_simp;go_at_call 14;refine HGo.mono ?_;rintro e j ⟨rfl,f⟩;obtain⟨⟨z0,z1,z2,f0,f1,f2⟩,W⟩:=L.o j f;clear f))
    all_goals
     go_wp2;go_meet;exact W.o
   case rest =>
    obtain⟨q0,q1,q2,q3⟩:=hcut;go_wp2;refine aR (v:=.agg #[I J (D:Int),Z U 0 0,Z U 0 0]) (by simp[results,results28,go_sem,q0,q1,q2]) rfl ?_;exact q3
 by_cases h3:B=3
 . subst h3;rw[if_neg (by decide),if_neg (by decide),if_pos rfl] at z;have y:=RO (w:=t) HP.o HW2.o (fun i e=>HF.o i e.1) r.o.b ok.s htr x.n;rw[<-z.o] at y;have L:Hid (∀e j,qq (fun k=>S k∧k<w.heap.size) t p g gs d e j->∃(ao uo:ag) (jB an gQ un:Nat),e=Y (.agg #[I J (d.2.a:Int),Z ao an jB,Z uo un gQ])∧_):=fun e j f=>by
    obtain⟨⟨ao,uo,jB,an,gQ,un,he,han,hun,hI1,hI2,C,hA,hAs,hAu⟩,hat,T⟩:=f;exact⟨ao,uo,jB,an,gQ,un,he,(r.o.jK (O':=ij p g gs d.1.c d.1.a) hA hAs T).B (ar _ _) (i:=1) rfl (b:=w.heap.size+1) rfl d.2 (ci:=(d.2.a:Int)) rfl (ao:=ao) (jB:=jB) (an:=an) (uo:=uo) (gQ:=gQ) (un:=un) han hun hI1 hI2 (fun q a e=>by obtain⟨h1,h2⟩:=hAu q a e;have:=r.o.c;exact⟨by omega,h2⟩)⟩
   go_wp2_with fail;refine y.mono ?_;intro e j f;obtain⟨ao,uo,jB,an,gQ,un,rfl,⟨z0,z1,z2,f0,f1,f2⟩,W⟩:=L.o e j f;clear f L y;generalize d.2.a=D at *;go_wp2;generalize (((j.setCell ⟨w.heap.size+1,0,U⟩ _).setCell ⟨w.heap.size+1,1,U⟩ _).setCell ⟨w.heap.size+1,2,U⟩ _)=wf at *;obtain⟨q0,q1,q2,q3⟩:=W.o;refine aR (v:=.agg #[I J (D:Int),Z ao an jB,Z uo un gQ]) (by simp[results,results28,go_sem,q0,q1,q2]) rfl ?_;exact q3
 by_cases h4:B=4
 . subst h4;rw[if_neg (by decide),if_neg (by decide),if_neg (by decide),if_pos rfl] at z;have y:=Rv (w:=t) r.o.b ok.s x.n;rw[<-z.o] at y;have L:Hid (∀e j,qq (fun k=>S k∧k<w.heap.size) t p g gs d e j->∃(ao uo:ag) (jB an gQ un:Nat),e=Y (.agg #[I J (d.2.a:Int),Z ao an jB,Z uo un gQ])∧_):=fun e j f=>by
    obtain⟨⟨ao,uo,jB,an,gQ,un,he,han,hun,hI1,hI2,C,hA,hAs,hAu⟩,hat,T⟩:=f;exact⟨ao,uo,jB,an,gQ,un,he,(r.o.jK (O':=ij p g gs d.1.c d.1.a) hA hAs T).B (ar _ _) (i:=1) rfl (b:=w.heap.size+1) rfl d.2 (ci:=(d.2.a:Int)) rfl (ao:=ao) (jB:=jB) (an:=an) (uo:=uo) (gQ:=gQ) (un:=un) han hun hI1 hI2 (fun q a e=>by obtain⟨h1,h2⟩:=hAu q a e;have:=r.o.c;exact⟨by omega,h2⟩)⟩
   go_wp2_with fail;refine y.mono ?_;intro e j f;obtain⟨ao,uo,jB,an,gQ,un,rfl,⟨z0,z1,z2,f0,f1,f2⟩,W⟩:=L.o e j f;clear f L y;generalize d.2.a=D at *;go_wp2;generalize (((j.setCell ⟨w.heap.size+1,0,U⟩ _).setCell ⟨w.heap.size+1,1,U⟩ _).setCell ⟨w.heap.size+1,2,U⟩ _)=wf at *;obtain⟨q0,q1,q2,q3⟩:=W.o;refine aR (v:=.agg #[I J (D:Int),Z ao an jB,Z uo un gQ]) (by simp[results,results28,go_sem,q0,q1,q2]) rfl ?_;exact q3
 by_cases h5:B=5
 . subst h5;rw[if_neg (by decide),if_neg (by decide),if_neg (by decide),if_neg (by decide),if_pos rfl] at z;have H:=r.o.a lW (bj t.heap.size _);have Mw:=dt.jK (w:=t.drew) H.b ok.s x.n;have L:Hid (∀j,ow (fun k=>S k∧k<w.heap.size) t.drew p g gs ⟨gV P.s x.n,P.c,P.a⟩ j->∃C,bZ (ij p g gs P.c P.a) S w 0 [K #[I J 5,I J x.a,I J x.n,Z bo nb fZ] 73 (0,0),rB] (gV P.s x.n) C j):=fun j f=>⟨_,H.r (O:=ij p g gs P.c P.a) f.a f.b⟩;clear H;go_upto_region 12 with fail
   go_cut [] (fun wd=>∃C,bZ (ij p g gs P.c P.a) S w 0 [K #[I J 5,I J x.a,I J x.n,Z bo nb fZ] 73 (0,0),rB] (gV P.s x.n) C wd)
   case first =>
    go_region_law (first | (go_simp;go_at_call 73;refine Mw.mono ?_;rintro e j ⟨rfl,f⟩;have HD:=aa (L.o j f);clear f))
    all_goals
     go_wp2;go_meet;exact HD.o
   case rest =>
    obtain⟨C,T⟩:=hcut;have HRe:=dt.nD (w:=wc) T.b;obtain⟨y0,y1⟩:=dt.a T.b;have HT:=aa T;clear T c0 c1 k0 k1 k2 k3;go_wp2_with fail;refine HRe.mono ?_;rintro e w4 ⟨rfl,f⟩;obtain⟨⟨z0,z1,z2,f0,f1,f2⟩,W⟩:=(HT.o.jK (O':=ij p g gs (fun _=>eG) P.a) f.a (fun _ e=>e) f.b).B (ar _ _) (i:=1) rfl (b:=w.heap.size+1) rfl ⟨0,[],[]⟩ (ci:=0) rfl (ao:=U) (jB:=0) (an:=0) (uo:=U) (gQ:=0) (un:=0) rfl rfl (aB.f _) (aB.f _) (fun q=>absurd rfl q);clear f y0 y1;go_wp2;generalize (((w4.setCell ⟨w.heap.size+1,0,U⟩ _).setCell ⟨w.heap.size+1,1,U⟩ _).setCell ⟨w.heap.size+1,2,U⟩ _)=wf at *;obtain⟨q0,q1,q2,q3⟩:=W.o;refine aR (v:=.agg #[I J 0,Z U 0 0,Z U 0 0]) (by simp[results,results28,go_sem,q0,q1,q2]) rfl ?_;rw[z.o];exact q3
 . rw[if_neg h1,if_neg h2,if_neg h3,if_neg h4,if_neg h5] at z;have t1:(B==1)=F:=aQ.2 h1;have t2:(B==2)=F:=aQ.2 h2;have t3:(B==3)=F:=aQ.2 h3;have t4:(B==4)=F:=aQ.2 h4;have t5:(B==5)=F:=aQ.2 h5;obtain⟨⟨z0,z1,z2,f0,f1,f2⟩,W⟩:=r.o.B (ar _ _) (i:=1) rfl (b:=w.heap.size+1) rfl ⟨11,[],[]⟩ (ci:=11) rfl (ao:=U) (uo:=U) (jB:=0) (gQ:=0) (an:=0) (un:=0) rfl rfl (aB.f _) (aB.f _) (fun q=>absurd rfl q);go_wp2;generalize (((t.setCell ⟨w.heap.size+1,0,U⟩ _).setCell ⟨w.heap.size+1,1,U⟩ _).setCell ⟨w.heap.size+1,2,U⟩ _)=wf at *;obtain⟨q0,q1,q2,q3⟩:=W.o;refine aR (v:=.agg #[I J 11,Z U 0 0,Z U 0 0]) (by simp[results,results28,go_sem,q0,q1,q2]) rfl ?_;rw[z.o];exact q3
end
theorem dt.lI {w:X}{b:Nat->Prop}{g gs:Nat}(h:gi w b g gs iW (fun _=>eG)):dt (w.alloc (K #[Q (M ⟨g,0,U⟩),Z U 0 0] 78)) (fun k=>(b k∧k<w.heap.size)∨k=w.heap.size) w.heap.size g gs im:=by
 have j:=(ar _ w).alloc (ak _) (K #[Q (M ⟨g,0,U⟩),Z U 0 0] 78);classical
 refine⟨fun k=>if k=w.heap.size then .row else if b k∧k<w.heap.size then .gate else .out,U,0,fun d=>?_,fun k c=>?_⟩
 . cases d with
   | row=>exact⟨aX w _,if_pos rfl⟩
   | gate=>exact gi.a ((h.a (S':=fun k=>b k∧k<w.heap.size) (fun k c e=>⟨e,c⟩)).r j) (fun k _ e=>by
    show(if k=w.heap.size then xN.row else if b k∧k<w.heap.size then .gate else .out)=.gate;rw[if_neg (by have:=e.2;omega),if_pos e])
   | tr=>exact⟨aK.y _ _ _ _,fun a e=>by cases e⟩
   | out=>trivial
 . simp only at c;by_cases f:k=w.heap.size
   . exact R f
   . rw[if_neg f] at c;by_cases i:b k∧k<w.heap.size
     . exact A i
     . rw[if_neg i] at c;exact absurd rfl c
theorem Q0 (w:X):
 Calls prog 27 #[] w fun e w'=>∃p g gs,e=Y (Q (M ⟨p,0,U⟩))∧dt w' (fun k=>w.heap.size<=k∧k<w'.heap.size) p g gs im∧Below w.heap.size w w':=by
 go_enter func27,ntmps27;go_wp2_with fail;refine(Qy w).mono ?_;rintro e f ⟨gs,rfl,j,l⟩;have a:=aa l;go_wp2_with fail;refine(St j).mono ?_;rintro e i ⟨rfl,b,m⟩;have s:=a.o.size;have u:=m.b;have c:=a.o.trans (m.below (B:=w.heap.size) (fun k e=>e) s);have q:=aa (dt.lI b);have n:=aa (au c ((ar _ i).alloc (ak _) (K #[Q (M ⟨f.heap.size,0,U⟩),Z U 0 0] 78)));have d:Hid (dt (i.alloc (K #[Q (M ⟨f.heap.size,0,U⟩),Z U 0 0] 78)) (fun k=>w.heap.size<=k∧k<(i.alloc (K #[Q (M ⟨f.heap.size,0,U⟩),Z U 0 0] 78)).heap.size) i.heap.size f.heap.size gs im):=q.o.j (fun k t e=>⟨by
  rcases e with e | e
  . rcases e.1 with r | r
    . exact r
    . omega
  . omega,t⟩)
 clear b m c q;go_wp2;go_ret;exact⟨_,_,gs,rfl,d.o,n.o⟩
theorem zk (x y:ae)(a:x.size+y.size<=99999999999):(([32]:ab).intercalate ([x,y].map (·.data.toList))).length<=100000000000:=by
 have:=cH x;have:=cH y
 simp[List.intercalate,List.intersperse] at *;omega
theorem zg {W:X}(x y:ae)(t:Nat):∀(j:Nat) z,[x,y][j]? = M z->(W.alloc (K #[V x,V y] t (0,0))).cell? ⟨W.heap.size,j,U⟩=M (V z):=fun j z a=>by
 match j,a with
 | 0,a=>injection a with a;subst a;exact aq _ _ 0 _ _ _ (aX W _)
 | 1,a=>injection a with a;subst a;exact aq _ _ 1 _ _ _ (aX W _)
 | j+2,a=>simp at a
theorem SG (w:X)(o:mn){ao uo:ag}{jB an gQ un:Nat}(ha:an=o.b.length)(S:un=o.c.length)(T:aB w ao jB o.b)(W:aB w uo gQ o.c)(hP:dj w)(hc:o.a<1000000000)(hz1:an<=1000000000)(hz2:un<=1000000000):
 Calls prog 143 #[.agg #[I J (o.a:Int),Z ao an jB,Z uo un gQ]] w fun e w'=>e=Y (V ⟨(rJ o).toArray⟩)∧Below w.heap.size w w':=by
 have i:=(ar _ w).alloc (ak _) (K #[I J (o.a:Int),Z ao an jB,Z uo un gQ] 70);have t:(w.alloc (K #[I J (o.a:Int),Z ao an jB,Z uo un gQ] 70)).heap[w.heap.size]? = _:=aX w _;obtain⟨⟨z0,z1,z2⟩,_⟩:=si t;have HA:=aa (T.a i);have HU:=aa (W.a i);have HP:=aa (hP.a i);have p:=aa i
 obtain⟨k,b⟩:∃k,rJ o=k:=⟨_,rfl⟩;rw[b];unfold rJ at b;have G:=aa ha;have H:=aa S
 clear i t T W hP ha S;obtain⟨m,out,q⟩:=o;simp only at *;by_cases h0:m≠0
 . rw[if_pos h0] at b;have t0:((m:Int) != 0)=true:=by rw[di];omega
   have HI:=mE m hc _ HP.o;have hl:=(gx 8 m).1;have u:Hid (k=fM ([⟨#[110,111]⟩,⟨(bx 8 m).toArray⟩].map (fun x:ae=>x.data.toList))):=b.symm;have hz:(⟨(bx 8 m).toArray⟩:ae).size<=9:=by show(bx 8 m).toArray.size<=9;rw[cz];exact hl
   clear b hl;generalize (⟨(bx 8 m).toArray⟩:ae)=d at *;go_enter func143,ntmps143;go_wp2_with fail;generalize w.alloc (K #[I J (m:Int),Z ao an jB,Z uo un gQ] 70)=n at *;refine HI.mono ?_;rintro e l ⟨rfl,a⟩;have c:=pU [⟨#[110,111]⟩,d] l.heap.size 2 (l.alloc (K #[V ⟨#[110,111]⟩,V d] 9)) rfl (by decide) (zg _ _ _) (zk _ _ (by show 2+_<=_;omega)) (by decide);have f:=aa (au p.o (au a ((ar _ l).alloc (ak _) (K #[V ⟨#[110,111]⟩,V d] 9))));rw[<-u.o] at c;clear a HI;go_wp2_with fail;refine c.mono ?_;rintro e L ⟨rfl,a⟩;have g:=aa (au f.o a);clear a c;go_wp2;go_ret;exact⟨rfl,g.o⟩
 . rw[if_neg h0] at b;obtain rfl:m=0:=by omega
   by_cases v:q≠[]
   . rw[if_pos v] at b;have y:(un:Int) > 0:=by have:=kY.2 v;have:=H.o;omega
     have r:=yL _ q uo gQ un HU.o H.o.symm (by omega);have u:Hid (k=fM ([⟨#[117,112]⟩,⟨(dP q).toArray⟩].map (fun x:ae=>x.data.toList))):=b.symm;have hz:(⟨(dP q).toArray⟩:ae).size<=4000000000:=by show(dP q).toArray.size<=_;rw[cz];have:=pd q;have:=H.o;omega
     clear b v;generalize (⟨(dP q).toArray⟩:ae)=d at *;go_enter func143,ntmps143;go_wp2_with fail;rw[Int.natCast_zero] at r p;generalize w.alloc (K #[I J 0,Z ao an jB,Z uo un gQ] 70)=n at *;refine r.mono ?_;rintro e l ⟨rfl,a⟩;have c:=pU [⟨#[117,112]⟩,d] l.heap.size 2 (l.alloc (K #[V ⟨#[117,112]⟩,V d] 9)) rfl (by decide) (zg _ _ _) (zk _ _ (by show 2+_<=_;omega)) (by decide);have f:=aa (au p.o (au a ((ar _ l).alloc (ak _) (K #[V ⟨#[117,112]⟩,V d] 9))));rw[<-u.o] at c;clear a r;go_wp2_with fail;refine c.mono ?_;rintro e L ⟨rfl,a⟩;have g:=aa (au f.o a);clear a c;go_wp2;go_ret;exact⟨rfl,g.o⟩
   . rw[if_neg v] at b;have N:q=[]:=by simpa using v
     subst N;obtain rfl:un=0:=H.o;by_cases B:out≠[]
     . rw[if_pos B] at b;have y:(an:Int) > 0:=by have:=kY.2 B;have:=G.o;omega
       have r:=yL _ out ao jB an HA.o G.o.symm (by omega);have u:Hid (k=fM ([⟨#[111,117,116]⟩,⟨(dP out).toArray⟩].map (fun x:ae=>x.data.toList))):=b.symm;have hz:(⟨(dP out).toArray⟩:ae).size<=4000000000:=by show(dP out).toArray.size<=_;rw[cz];have:=pd out;have:=G.o;omega
       clear b B;generalize (⟨(dP out).toArray⟩:ae)=d at *;go_enter func143,ntmps143;go_wp2_with fail;rw[Int.natCast_zero] at r p;generalize w.alloc (K #[I J 0,Z ao an jB,Z uo 0 gQ] 70)=n at *;refine r.mono ?_;rintro e l ⟨rfl,a⟩;have c:=pU [⟨#[111,117,116]⟩,d] l.heap.size 2 (l.alloc (K #[V ⟨#[111,117,116]⟩,V d] 9)) rfl (by decide) (zg _ _ _) (zk _ _ (by show 3+_<=_;omega)) (by decide);have f:=aa (au p.o (au a ((ar _ l).alloc (ak _) (K #[V ⟨#[111,117,116]⟩,V d] 9))));rw[<-u.o] at c;clear a r;go_wp2_with fail;refine c.mono ?_;rintro e L ⟨rfl,a⟩;have g:=aa (au f.o a);clear a c;go_wp2;go_ret;exact⟨rfl,g.o⟩
     . rw[if_neg B] at b;have C:out=[]:=by simpa using B
       subst C;obtain rfl:an=0:=G.o;rw[Int.natCast_zero] at p z0;go_enter func143,ntmps143;go_wp2_with fail;obtain⟨n,D⟩:∃n,w.alloc (K #[I J 0,Z ao 0 jB,Z uo 0 gQ] 70)=n:=⟨_,rfl⟩;have c:=pU [⟨#[111,107]⟩] n.heap.size 1 (n.alloc (K #[V ⟨#[111,107]⟩] 9)) rfl (by decide) (fun j z s=>by
        match j,s with
        | 0,s=>injection s with s;subst s;exact aq _ _ 0 _ _ _ (aX n _)
        | j+1,s=>simp at s) (by decide) (by decide)
       rw[show n.heap.size=w.heap.size+1 by rw[<-D];exact bF ..] at c;rw[D] at p ⊢;have f:=aa (au p.o ((ar _ n).alloc (ak _) (K #[V ⟨#[111,107]⟩] 9)));refine c.mono ?_;rintro e L ⟨rfl,a⟩;have g:=aa (au f.o a);clear a c;go_wp2;go_ret;exact⟨by rw[<-b];rfl,g.o⟩
theorem ql (n:Int):(fD n).length<=10:=by
 unfold fD jc;split
 . have:=(gx 8 (-n).toNat).1;simp;omega
 . have:=(gx 8 n.toNat).1;omega
theorem I1 (a b c d e f:ae)(g:a.size+b.size+c.size+d.size+e.size+f.size<=900000):(([32]:ab).intercalate ([a,b,c,d,e,f].map (·.data.toList))).length<=100000000000:=by
 have:=cH a;have:=cH b;have:=cH c;have:=cH d;have:=cH e;have:=cH f
 simp[List.intercalate,List.intersperse] at *;omega
theorem IR {W:X}(a b c d e f:ae)(t:Nat):∀(j:Nat) z,[a,b,c,d,e,f][j]? = M z->(W.alloc (K #[V a,V b,V c,V d,V e,V f] t (0,0))).cell? ⟨W.heap.size,j,U⟩=M (V z):=fun j z g=>by
 have h:=aX W (K #[V a,V b,V c,V d,V e,V f] t (0,0));match j,g with
 | 0,g=>injection g with g;subst g;exact aq _ _ 0 _ _ _ h
 | 1,g=>injection g with g;subst g;exact aq _ _ 1 _ _ _ h
 | 2,g=>injection g with g;subst g;exact aq _ _ 2 _ _ _ h
 | 3,g=>injection g with g;subst g;exact aq _ _ 3 _ _ _ h
 | 4,g=>injection g with g;subst g;exact aq _ _ 4 _ _ _ h
 | 5,g=>injection g with g;subst g;exact aq _ _ 5 _ _ _ h
 | j+6,g=>simp at g
theorem Hg {W:X}{g t:Nat}{a b c d e:Value}(h:W.heap[g]? = M (K #[a,b,c,d,e] t (0,0))):W.cell? ⟨g,0,U⟩=M a∧W.cell? ⟨g,1,U⟩=M b∧W.cell? ⟨g,2,U⟩=M c∧W.cell? ⟨g,3,U⟩=M d∧W.cell? ⟨g,4,U⟩=M e :=
 ⟨aq W g 0 _ _ _ h,aq W g 1 _ _ _ h,aq W g 2 _ _ _ h,aq W g 3 _ _ _ h,aq W g 4 _ _ _ h⟩
theorem CA {u:aL}(a:u.d.size<=100):(jx u).length<=500:=by
 have:=ql u.c;have:=ql u.a;have:=ql u.e;have:=pd u.d.data.toList;have:=cH u.d;have:=(gx 8 u.b.length).1
 unfold jx fM jc;simp[List.intercalate,List.intersperse] at *;omega
theorem IN (n:Nat):fD (n:Int)=jc n:=by unfold fD;rw[if_neg (by omega)];rfl
theorem wk:∀(l:List aL) (k:Nat),l.length<=k->(∀u∈l,u.d.size<=100)->(l.flatMap jx).length<=500*k
 | [],_,_,_=>ax _
 | u::r,0,h,_=>by simp at h
 | u :: r, k + 1, h, hu => by
   have b:=CA (hu u (lM ..));have c:=wk r k (by simp at h;omega) (fun v a=>hu v (iw _ a));rw[ob,aD];omega
structure CN (u:aL):Prop where
 a:(fD u.c).length<=10
 b:(fD u.a).length<=10
 c:(fD (u.b.length:Int)).length<=10
 d:(fD u.e).length<=10
 e:(dP u.d.data.toList).length<=400
theorem IS {u:aL}(h:CN u):(⟨#[117,112,108,111,97,100]⟩:ae).size+(⟨(fD u.c).toArray⟩:ae).size+(⟨(fD u.a).toArray⟩:ae).size+(⟨(fD (u.b.length:Int)).toArray⟩:ae).size+(⟨(fD u.e).toArray⟩:ae).size+(⟨(dP u.d.data.toList).toArray⟩:ae).size<=900000:=by
 have:=h.a;have:=h.b;have:=h.c;have:=h.d;have:=h.e
 show 6+(fD u.c).toArray.size+(fD u.a).toArray.size+(fD (u.b.length:Int)).toArray.size+(fD u.e).toArray.size+(dP u.d.data.toList).toArray.size<=900000;simp only[cz];omega
theorem Q6 {w:X}{P:Nat->Prop}{d p g gs ks:Nat}{s:aA}(hS:cD w P ks s)(ok:cN s)(hl:s.a<=100000)(hP:dj w)(c0:w.cell? ⟨d,0,U⟩=M (Q (M ⟨p,0,U⟩)))(c1:w.cell? ⟨p,0,U⟩=M (Q (M ⟨g,0,U⟩)))(c2:w.cell? ⟨g,0,U⟩=M (Q (M ⟨gs,0,U⟩)))(c3:w.cell? ⟨gs,0,U⟩=M (Q (M ⟨ks,0,U⟩))):
 Calls prog 139 #[Q (M ⟨d,0,U⟩)] w fun e w'=>e=Y (V ⟨(qk s.l).toArray⟩)∧Below w.heap.size w w':=by
 have f:=(ar _ w).alloc (ak _) (K #[Q U,Z U 0 0] 167);have Uh:=Qx s P ks _ (hS.a f) ok.jY;have hbd:=ky.j w;have su:=aa ok;obtain⟨l,L⟩:∃l,s.l=l:=⟨_,rfl⟩;have hall:∀u∈l,-1<=u.c∧u.c<1000000000∧-1<=u.a∧u.a<1000000000∧-1<=u.e∧u.e<1000000000∧u.d.size<=100∧u.b.length<=2000:=fun u hu=>by
  rw[<-L] at hu;have y:=ok.a u hu;have:=y.f;have:=y.e;have:=y.c;have:=y.d;have:=y.g;have:=y.h
  exact⟨by omega,by omega,by omega,by omega,by omega,by omega,y.b,y.a⟩
 have mH:l.length<=12:=by rw[<-L];exact ok.b
 rw[L] at Uh ⊢;have MN:=aa hall;have yH:=aa hbd;have HP0:=aa hP;have HB1:=aa f
 obtain⟨n,hn⟩:∃n,l.length=n:=⟨_,rfl⟩;have HN:=aa hn;rw[hn] at Uh mH;have hsz1:=bF w (K #[Q U,Z U 0 0] 167);have N:=aa hsz1;have k0:=(f.cell (bY w _ c0)).trans c0;have k1:=(f.cell (bY w _ c1)).trans c1;have k2:=(f.cell (bY w _ c2)).trans c2;have k3:=(f.cell (bY w _ c3)).trans c3
 clear hall hbd f hS hP L ok hn hsz1 c0 c1 c2 c3;go_enter func139,ntmps139;go_wp2_with fail;generalize w.alloc (K #[Q U,Z U 0 0] 167)=w1 at *;refine Uh.mono ?_;rintro e S ⟨al,rfl,hU,T⟩;have hUs:=hU.a (S':=fun k=>w1.heap.size<=k∧k<S.heap.size) (fun k y e=>⟨e,y⟩);have HUs:Hid (∀W,am (fun j=>j=w.heap.size∨S.heap.size<=j) S W->qb W al n l):=fun W H=>by
  have h:=(hUs.y H (fun k e e2=>by have:=N.o;omega)).j;exact h
 have abw:=aa ((yH.o.a (S':=fun j=>j=w.heap.size∨S.heap.size<=j) (fun k y e=>A (by have:=N.o;omega))).r T);have HB2:=aa (au HB1.o T);have Dn:=aa T.size
 clear hU hUs Uh yH T HB1 k0 k1 k2 k3;go_wp2;go_loopw [21] (fun v21 wr=>∃k:Nat,k<=n∧v21=I J k∧am (fun j=>j=w.heap.size∨S.heap.size<=j) S wr∧ky wr (fun j=>j=w.heap.size∨S.heap.size<=j) w.heap.size ((l.take k).flatMap jx)) (fun v _=>n-(intOf v).toNat)
 case atStart=>exact⟨0,ax _,rfl,am.B _ _,abw.o⟩
 case round =>
  obtain⟨k,y,rfl,H,B⟩:=hrel;by_cases hlt:k<n
  . have hkl:k<l.length:=by rw[HN.o];exact hlt
    have hlt':(k:Int)<n:=by omega
    obtain⟨b,o,q,hal,d0,d1,d2,d3,d4,_⟩:=(HUs.o _ H).a k hkl;obtain⟨e1,e2,e3,e4,e5,e6,e7,e8⟩:=MN.o l[k] (fb hkl);have hnx:(l.take (k+1)).flatMap jx=(l.take k).flatMap jx++jx l[k]:=by rw[fR hkl,List.flatMap_append];simp
    have C:((l.take k).flatMap jx).length<=500*k:=wk _ k (by rw[bU];omega) (fun u hu=>(MN.o u (List.mem_of_mem_take hu)).2.2.2.2.2.2.1);have RL:=CA e7;subst hal;have D:=(ar _ wr).alloc (ak _) (K #[I J l[k].c,I J l[k].a,V l[k].d,Z q.a l[k].b.length q.b,I J l[k].e] 92);have hzz:=bF wr (K #[I J l[k].c,I J l[k].a,V l[k].d,Z q.a l[k].b.length q.b,I J l[k].e] 92);have G:=aX wr (K #[I J l[k].c,I J l[k].a,V l[k].d,Z q.a l[k].b.length q.b,I J l[k].e] 92);have jG:=H.b;have hUp:jx l[k]=fM ([⟨#[117,112,108,111,97,100]⟩,⟨(fD l[k].c).toArray⟩,⟨(fD l[k].a).toArray⟩,⟨(fD (l[k].b.length:Int)).toArray⟩,⟨(fD l[k].e).toArray⟩,⟨(dP l[k].d.data.toList).toArray⟩].map (fun x:ae=>x.data.toList)):=by rw[IN];rfl
    have l1:=ql l[k].c;have l2:=ql l[k].a;have l3:=ql (l[k].b.length:Int);have l4:=ql l[k].e;have l5:=pd l[k].d.data.toList
    have hnl:=cH l[k].d;have e9:(-1:Int)<=(l[k].b.length:Int):=by omega
    have e10:(l[k].b.length:Int)<1000000000:=by omega
    have Yr:=aa (fun(z:Int) (h0:z=l[k].c∨z=l[k].a∨z=(l[k].b.length:Int)∨z=l[k].e) (W:X) (hP:dj W)=>Q5 z (by rcases h0 with h | h | h | h <;> omega) (by rcases h0 with h | h | h | h <;> omega) W hP);have c:=fun W=>EH (P:=prog) W l[k].d 9 31 5 underlying9 underlying31 underlying5;obtain⟨adf,c⟩:=Classical.skolem.1 c;obtain⟨wF,c⟩:=Classical.skolem.1 c;have hcv:=fun W=>(c W).1;have HwF:=aa (fun W=>(c W).2.1);have HwI:=aa (fun W=>(c W).2.2.2)
    clear c;obtain⟨zs,hzs⟩:∃zs,zs=jx l[k]:=⟨_,rfl⟩;rw[<-hzs] at hUp hnx RL;have MV:=aa hUp;have Gq:=aa hnx;have HNl:=aa hnl
    have ajk:Hid (CN l[k]):=⟨l1,l2,l3,l4,by rw[hnl] at l5;omega⟩;clear hzs hUp hnx hnl l1 l2 l3 l4 l5 e8;generalize l[k]=u at *;go_upto_region 5 with fail
    obtain⟨r,hwz⟩:∃r,wr.alloc (K #[I J u.c,I J u.a,V u.d,Z q.a u.b.length q.b,I J u.e] 92)=r:=⟨_,rfl⟩;rw[hwz] at D hzz G ⊢;clear hwz d0 d1 d2 d3 d4;have HC:Hid (∀W,Below r.heap.size r W->W.cell? ⟨wr.heap.size,0,U⟩=M (I J u.c)∧W.cell? ⟨wr.heap.size,1,U⟩=M (I J u.a)∧W.cell? ⟨wr.heap.size,2,U⟩=M (V u.d)∧W.cell? ⟨wr.heap.size,3,U⟩=M (Z q.a u.b.length q.b)∧W.cell? ⟨wr.heap.size,4,U⟩=M (I J u.e)):=fun W hW=>Hg ((hW.block _ (by omega)).trans G);have Dl:Hid (∀W,Below r.heap.size r W->dj W):=fun W hW=>HP0.o.a (HB2.o.trans ((H.below (fun j e=>by have:=N.o;have:=Dn.o;omega) (by have:=N.o;have:=Dn.o;omega)).trans ((au D hW).mono (by have:=N.o;have:=Dn.o;omega))));have HBz:Hid (∀W,Below r.heap.size r W->ky W (fun j=>(j=w.heap.size∨S.heap.size<=j)∧j<wr.heap.size) w.heap.size ((l.take k).flatMap jx)):=fun W hW=>(B.a (fun j hj e=>⟨e,hj⟩)).r (au D hW);have a:Hid (Below r.heap.size r r.drew):=bj _ _;have IQ:Hid (∀W t,Below r.heap.size r W->am (fun j=>(j=w.heap.size∨S.heap.size<=j)∧j<wr.heap.size) W t->t.cell? ⟨wr.heap.size,0,U⟩=M (I J u.c)∧t.cell? ⟨wr.heap.size,1,U⟩=M (I J u.a)∧t.cell? ⟨wr.heap.size,2,U⟩=M (V u.d)∧t.cell? ⟨wr.heap.size,3,U⟩=M (Z q.a u.b.length q.b)∧t.cell? ⟨wr.heap.size,4,U⟩=M (I J u.e)):=fun W t hW H=>Hg (H.y ((hW.block _ (by omega)).trans G) (fun e=>by have:=e.2;omega));have q0:=HC.o _ (ar _ _);obtain⟨q0,q1,q2,q3,q4⟩:=q0;have HZz:=aa hzz;have HZn:=aa G;have HbZ:=aa D
    clear hzz G D;obtain⟨bs,hbs⟩:∃bs,(l.take k).flatMap jx=bs:=⟨_,rfl⟩;rw[hbs] at Gq HBz C;clear hbs B;go_region_held_law (fun t=>t.cell? ⟨wr.heap.size,0,U⟩=M (I J u.c)∧t.cell? ⟨wr.heap.size,1,U⟩=M (I J u.a)∧t.cell? ⟨wr.heap.size,2,U⟩=M (V u.d)∧t.cell? ⟨wr.heap.size,3,U⟩=M (Z q.a u.b.length q.b)∧t.cell? ⟨wr.heap.size,4,U⟩=M (I J u.e))
     (first | with_reducible exact HC.o _ a.o | with_reducible exact HC.o _ (au a.o (HwF.o _)) | with_reducible exact HC.o _ (a.o.alloc a.o.size _) | with_reducible exact HCe.o)
     (first
      | (go_at_call 141;refine(Yr.o _ (by first | with_reducible exact A rfl | with_reducible exact R (A rfl) | with_reducible exact R (R (A rfl)) | with_reducible exact R (R (R rfl))) _ (Dl.o _ (by first | with_reducible exact a.o | with_reducible exact au a.o (HwF.o _)))).mono ?_;rintro e v1 ⟨rfl,m⟩;(first | (have HIb:=aa (HIb.o.a m)) | (have HIb:=aa ((HwI.o _).a m)) | skip);first | (have a:=aa (au a.o m);clear m) | (have a:=aa (au (au a.o (HwF.o _)) m);clear m))
      | (go_at_call 41;refine(yL _ u.d.data.toList _ _ _ (by first | exact HIb.o | exact HwI.o _) HNl.o (by omega)).mono ?_;rintro e v1 ⟨rfl,m⟩;first | (have a:=aa (au a.o m);clear m) | (have a:=aa (au (au a.o (HwF.o _)) m);clear m))
      | (go_at_call 140;refine(pU [⟨#[117,112,108,111,97,100]⟩,_,_,_,_,_] _ 6 _ rfl (by decide) (IR _ _ _ _ _ _ _) (I1 _ _ _ _ _ _ (IS ajk.o)) (by decide)).mono ?_;rintro e v1 ⟨rfl,m⟩;rw[<-MV.o];(have a:=aa (au (a.o.alloc a.o.size _) m));clear m)
      | (go_at_call 84;refine(C5 (HBz.o _ a.o) _ (by show _+zs.toArray.size<=_;rw[cz];omega)).mono ?_;rintro e v1 ⟨rfl,hd,ht⟩;have HD:=aa hd;have HT:=aa ht;have HCe:=aa (IQ.o _ _ a.o ht);clear hd ht))
    all_goals
     go_wp2;refine⟨⟨k+1,by omega,by go_num,(H.a (am.f (au HbZ.o a.o)) (fun i e _=>e)).a HT.o (fun i e _=>e.1),?_⟩,by simp[intOf];omega⟩;rw[Gq.o];have hs1:=a.o.size;have hs2:=HZz.o
     exact HD.o.a (fun j _ e=>by
      rcases e with e | e
      . exact e.1
      . exact R (by omega))
  . obtain rfl:k=n:=by omega
    rw[gF (by rw[HN.o];exact ak _)] at B;have C:=wk l k (by rw[HN.o];exact ak _) (fun u hu=>(MN.o u hu).2.2.2.2.2.2.1);have Zr:=C6 B (by omega);have X7:Hid (qk l=l.flatMap jx++fM [[101,110,100]]):=rfl;have hzl:¬9223372036854775807<(l.flatMap jx).length+(fM [[101,110,100]]).length:=by rw[show(fM [[101,110,100]]).length=4 from rfl];omega
    have HBt:=aa (HB2.o.trans (H.below (fun j e=>by have:=N.o;have:=Dn.o;omega) (by have:=N.o;have:=Dn.o;omega)));have jG:=H.b;clear B C;generalize l.flatMap jx=bs at *;go_wp2_with fail;refine Zr.mono ?_;rintro e w3 ⟨rfl,ht⟩;have HB3:=aa (HBt.o.trans (ht.below (fun j e=>by have:=N.o;have:=Dn.o;omega) (by have:=N.o;have:=Dn.o;omega)));have UN:=pU [⟨#[101,110,100]⟩] w3.heap.size 1 (w3.alloc (K #[V ⟨#[101,110,100]⟩] 9)) rfl (by decide) (fun j z hj=>by
     match j,hj with
     | 0,hj=>injection hj with hj;subst hj;exact aq _ _ 0 _ _ _ (aX w3 _)
     | j+1,hj=>simp at hj) (by decide) (by decide)
    clear ht Zr;go_wp2_with fail;refine UN.mono ?_;rintro e w4 ⟨rfl,hb4⟩;have jL:=aa (HB3.o.trans (((ar _ w3).alloc (ak _) (K #[V ⟨#[101,110,100]⟩] 9)).trans (hb4.mono (by rw[bF];omega)) |>.mono HB3.o.size));clear hb4 UN;go_wp2;go_ret;exact⟨by rw[X7.o];exact ru (yU (by rw[ma])),jL.o⟩
