/- Small texts, one behind the other: GaJ, GaK, GaL, GaM, GaN, GaO, PoA, PoC, RqWrE, PoD, PoE, GaV, GaP, PoF, PoB. -/
import Derived.Test.YthhklgjjnaeaoaaGreatDoorPk47
import Derived.Test.YthhklgjjnaeaoaaGreatDoorPk45
open Go.Value renaming int->I,string->V,slice->Z,pointer->Q
open Go.IntKind renaming i64->J
open Go.Obj renaming cells->K
open Go.Ending renaming returned->Y
open Option renaming none->U,some->M
open Bool renaming false->F
open Or renaming inl->A,inr->R
open Go renaming World->X
set_option maxHeartbeats 6400000
set_option maxRecDepth 100000
open Go.Proofs.Tryz
namespace Go.Proofs.YthhklgjjnaeaoaaGreatDoor
open Go.RowKit
structure jK (w0:X)(κ:Nat->Ae)(g gs:Nat)(s:Sr.Sh)(v:Nat->List Value)(c:Nat->Gt.Cn)(x:Nat->Qm)(z:Nat->Ob)(o:Ob)(w:X):Prop where
 held:Held (Cv g gs s v 4 c x z o) κ w
 pow:kD w0
 qy:Below w0.heap.size w0 w
 far:∀i,κ i≠.out->w0.heap.size<=i
section
variable {w0 w w':X} {κ:Nat->Ae} {g gs:Nat} {s s':Sr.Sh} {v v':Nat->List Value} {c c':Nat->Gt.Cn} {x x':Nat->Qm} {z:Nat->Ob} {o:Ob}
theorem Jr {n:Nat}{d:Ae}(a:∀i,κ i≠.out->w0.heap.size<=i)(b:w0.heap.size<=n):∀i,iC κ n d i≠.out->w0.heap.size<=i:=by intro l;induction l <;> grind [iC]
theorem jK.act (a:∀k,kE (z k))(b:kE o)(h:jK w0 κ g gs s v c x z o w){T N:Nat->Prop}(d:Ae)(hd:d≠.out)(f:Turns T w w')(i:∀k,T k->κ k=d)(j:Cv g gs s' v' 4 c' x' z o d w' N)(l:∀k,N k->κ k=d∨w.heap.size<=k)(m:∀e,e≠d->Cv g gs s' v' 4 c' x' z o e=Cv g gs s v 4 c x z o e):jK w0 (iC κ w.heap.size d) g gs s' v' c' x' z o w' :=
 ⟨h.held.act (lI a b) f i (X':=Cv g gs s' v' 4 c' x' z o) (lI a b d) j l m,h.pow,h.qy.trans (f.below (fun k e=>h.far k (by rw[i k e];exact hd)) h.qy.size),Jr h.far h.qy.size⟩
theorem jK.stay (b:∀k,kE (z k))(d:kE o)(h:jK w0 κ g gs s v c x z o w)(a:Below w.heap.size w w'):jK w0 κ g gs s v c x z o w':=⟨h.held.stay (lI b d) a,h.pow,then_ h.qy a,h.far⟩
theorem jK.trim (a:∀k,kE (z k))(b:kE o)(h:jK w0 κ g gs s v c x z o w):jK w0 (iC κ w.heap.size .out) g gs s v c x z o w:=by
 refine⟨fun d=>?_,h.pow,h.qy,Jr h.far h.qy.size⟩;exact(lI a b d).mono (h.held d) (fun k f e=>(iq f).trans e)
theorem jK.row (a:∀k,kE (z k))(b:kE o)(h:jK w0 κ g gs s v c x z o w)(f:jU w' g gs v')(j:Turns (fun i=>i=g) w w'):jK w0 (iC κ w.heap.size .row) g gs s v' c x z o w' :=
 h.act a b .row (by intro h;cases h) j (fun k e=>by rw[e];exact(h.held .row).2) (N:=fun k=>k=g) ⟨f,rfl⟩ (fun k e=>A (by rw[e];exact(h.held .row).2)) (fun d l=>by cases d <;> first | rfl | exact absurd rfl l)
theorem jK.iX (a:∀k,kE (z k))(b:kE o)(h:jK w0 κ g gs s v c x z o w)(f:gX w' (gB (fun k=>κ k=.iX) w) gs s')(i:Turns (fun k=>κ k=.iX) w w'):jK w0 (iC κ w.heap.size .iX) g gs s' v c x z o w' :=
 h.act a b .iX (by intro h;cases h) i (fun _ e=>e) f (fun _ e=>e) (fun d j=>by cases d <;> first | rfl | exact absurd rfl j)
theorem jK.XI (h:jK w0 κ g gs s v c x z o w):jU w g gs v:=(h.held .row).1
theorem jK.head (h:jK w0 κ g gs s v c x z o w)(k:Nat)(hd:Rq.Hd)(fo:ak)(fZ:Nat)(f:nN w (fun i=>κ i=.fl k) fo fZ hd.fields.length (gG (Rq.nu hd.fields))):jK w0 κ g gs s v (upd c k { c k with hd:=hd }) (upd x k { x k with fo:=fo,fZ:=fZ }) z o w:=by
 refine⟨fun d=>?_,h.pow,h.qy,h.far⟩;have a:=h.held d;cases d with
 | row=>exact a
 | iX=>exact a
 | rq j =>
   intro b;by_cases e:j=k
   . subst e;rw[iI,iI];exact a b
   . rw[upd_ne _ _ e,upd_ne _ _ e];exact a b
 | fl j =>
   refine⟨fun b=>?_,a.2⟩;by_cases e:j=k
   . subst e;rw[iI,iI];exact f
   . rw[upd_ne _ _ e,upd_ne _ _ e];exact a.1 b
 | bd j =>
   intro b;by_cases e:j=k
   . subst e;rw[iI,iI];exact a b
   . rw[upd_ne _ _ e,upd_ne _ _ e];exact a b
 | ret=>exact a
 | out=>trivial
theorem jK.nobody (h:jK w0 κ g gs s v c x z o w)(k:Nat):jK w0 κ g gs s v (upd c k { c k with body:=[] }) (upd x k { x k with bo:=U,fU:=0 }) z o w:=by
 refine⟨fun d=>?_,h.pow,h.qy,h.far⟩;have a:=h.held d;cases d with
 | row=>exact a
 | iX=>exact a
 | rq j =>
   intro b;by_cases e:j=k
   . subst e;rw[iI,iI];exact a b
   . rw[upd_ne _ _ e,upd_ne _ _ e];exact a b
 | fl j =>
   refine⟨fun b=>?_,a.2⟩;by_cases e:j=k
   . subst e;rw[iI,iI];exact a.1 b
   . rw[upd_ne _ _ e,upd_ne _ _ e];exact a.1 b
 | bd j =>
   intro b;by_cases e:j=k
   . subst e;rw[iI,iI];exact gK.nil _ _ _
   . rw[upd_ne _ _ e,upd_ne _ _ e];exact a b
 | ret=>exact a
 | out=>trivial
theorem jK.grow (q:∀k,kE (z k))(r:kE o)(h:jK w0 κ g gs s v c x z o w)(k:Nat)(t:k<4){n:ak}{p:Nat}{b:av}(u:gK w' (fun i=>jy (c k).body (x k).bo=M i∨w.heap.size<=i) 5 n p ((c k).body++b))(y:Turns (fun i=>jy (c k).body (x k).bo=M i) w w'):jK w0 (iC κ w.heap.size (.bd k)) g gs s v (upd c k { c k with body:=(c k).body++b }) (upd x k { x k with bo:=n,fU:=p }) z o w':=by
 have f:∀i,jy (c k).body (x k).bo=M i->κ i=.bd k:=fun i e=>by
  unfold jy at e;split at e
  . cases e
  . rename_i l;rcases h.held (.bd k) t with ⟨_,_,B⟩ | ⟨C,_⟩
    . cases m:(x k).bo with
      | none=>rw[m] at e;cases e
      | some a=>rw[m] at e;injection e with e;rw[<-e];exact B a m
    . exact absurd C l
 refine h.act q r (.bd k) (by intro h;cases h) y f (N:=fun i=>jy (c k).body (x k).bo=M i∨w.heap.size<=i) ?_ (fun i e=>?_) (fun d D=>?_)
 . intro _;rw[iI,iI];exact u
 . rcases e with e | e
   . exact A (f i e)
   . exact R e
 . cases d with
   | row=>rfl
   | iX=>rfl
   | rq j =>
     by_cases e:j=k
     . subst e;simp only[Cv,iI]
     . simp only[Cv];rw[upd_ne _ _ e,upd_ne _ _ e]
   | fl j =>
     by_cases e:j=k
     . subst e;simp only[Cv,iI]
     . simp only[Cv];rw[upd_ne _ _ e,upd_ne _ _ e]
   | bd j =>
     have e:j≠k:=fun e=>D (by rw[e]);simp only[Cv];rw[upd_ne _ _ e,upd_ne _ _ e]
   | ret=>rfl
   | out=>rfl
end
theorem jU.ahm {w:X}{g gs:Nat}{v:Nat->List Value}(h:jU w g gs v){k:Nat}(a:k<4){l n a2 p q r m:Value}(s:v k=[l,n,a2,p,q,r,m]){o:Nat}(t:1+k*7=o)(b c d e f:Value):
 jU (((((w.setCell ⟨g,o+1,U⟩ b).setCell ⟨g,o+2,U⟩ c).setCell ⟨g,o+3,U⟩ d).setCell ⟨g,o+4,U⟩ e).setCell ⟨g,o+5,U⟩ f) g gs (upd v k [l,b,c,d,e,f,m])∧Turns (fun i=>i=g) w (((((w.setCell ⟨g,o+1,U⟩ b).setCell ⟨g,o+2,U⟩ c).setCell ⟨g,o+3,U⟩ d).setCell ⟨g,o+4,U⟩ e).setCell ⟨g,o+5,U⟩ f):=by
 subst t;refine⟨?_,gY g [b,c,d,e,f] (1+k*7+1) w⟩;have:=((((h.set a (j:=1) (by decide) b).set a (j:=2) (by decide) c).set a (j:=3) (by decide) d).set a (j:=4) (by decide) e).set a (j:=5) (by decide) f;simp only[pX,iI,s] at this;exact this
def Ext {C:Type}(κ Cq:Nat->C)(n:Nat):Prop:=∀i,i<n->Cq i=κ i
theorem Ext.iC {C:Type}{κ a:Nat->C}{n m:Nat}(h:Ext κ a n)(c:n<=m)(d:C):Ext κ (iC a m d) n:=fun i b=>by rw[iq (by omega)];exact h i b
theorem Ext.refl {C:Type}(κ:Nat->C)(n:Nat):Ext κ κ n:=fun _ _=>rfl
structure xJ (w0:X)(κ:Nat->Ae)(g gs:Nat)(c:Nat->Gt.Cn)(z:Nat->Ob)(o:Ob)(k:Nat)(w:X)(G:Gt.Gs)(e:Ending)(w':X):Prop where
 ret:∃(ao:ak) (cap n:Nat),e=Y (Z ao n cap)∧n=G.out.length∧gN w' ao cap G.out
 at_:∃Cq x',jK w0 Cq g gs G.s (xW (upd c k ⟨(c k).rq,G.hd,G.body⟩) x') (upd c k ⟨(c k).rq,G.hd,G.body⟩) x' z o w'∧Ext κ Cq w.heap.size
 turns:Turns (fun i=>κ i=.row∨κ i=.iX∨κ i=.bd k) w w'
section
variable {w0 w:X} {κ:Nat->Ae} {g gs:Nat} {s:Sr.Sh} {c:Nat->Gt.Cn} {x:Nat->Qm} {z:Nat->Ob} {o:Ob} {k:Nat}
theorem aaS {hd:Rq.Hd}(h:Rq.oU hd){fo:ak}{fZ:Nat}(a:ji w fo fZ hd.fields.length (gG (Rq.nu hd.fields))):pE w (Gt.nu hd.fields) fo fZ hd.fields.length :=
 ⟨a, by rw[show Gt.nu hd.fields = Rq.nu hd.fields from rfl]; exact Rq.qI _, by have := h.many; omega, fun p b => by
  obtain⟨f,d,rfl⟩:=aN.1 b;have:=h.fields f d;refine⟨?_,?_⟩
  . show f.1.toArray.size<=_;rw[bK];omega
  . show f.2.toArray.size<=_;rw[bK];omega⟩
theorem Uf (u:∀k,kE (z k))(v:kE o)(h:jK w0 κ g gs s (xW c x) c x z o w)(b:k<4)(hd:Rq.Hd){fo bo n:ak}{fZ nf nb fU p r:Nat}(y:hd.fields.length=nf)(H:nN w (fun i=>κ i=.fl k) fo fZ nf (gG (Rq.nu hd.fields))):
 Calls prog 46 #[Q (M ⟨g,0,U⟩),Q (M ⟨g,1+k*7,U⟩),.agg #[I J 1,V ⟨hd.method.toArray⟩,V ⟨hd.target.toArray⟩,I J (hd.minor:Int),Z fo nf fZ,I J hd.length,Z bo nb fU,V ⟨#[]⟩,V ⟨#[]⟩,V ⟨#[]⟩,Z n p r,I J 0]] w fun e w'=>xJ w0 κ g gs c z o k w ⟨s,hd,(c k).body,[]⟩ e w':=by
 have l:=(eY _ w).alloc (aM _) (K #[I J 1,V ⟨hd.method.toArray⟩,V ⟨hd.target.toArray⟩,I J (hd.minor:Int),Z fo nf fZ,I J hd.length,Z bo nb fU,V ⟨#[]⟩,V ⟨#[]⟩,V ⟨#[]⟩,Z n p r,I J 0] 98);have B:=h.stay u v l;have a:=B.XI;have d:xW c x k=[Q (M ⟨(x k).gp,0,U⟩),V ⟨(c k).hd.method.toArray⟩,V ⟨(c k).hd.target.toArray⟩,I J ((c k).hd.minor:Int),Z (x k).fo (c k).hd.fields.length (x k).fZ,I J (c k).hd.length,Z (x k).bo (c k).body.length (x k).fU]:=rfl;have L:=a.at_ b (j:=1) (by decide) (by rw[d];rfl);have N:=a.at_ b (j:=2) (by decide) (by rw[d];rfl);have T:=a.at_ b (j:=3) (by decide) (by rw[d];rfl);have W:=a.at_ b (j:=4) (by decide) (by rw[d];rfl);have c5:=a.at_ b (j:=5) (by decide) (by rw[d];rfl);have f1:=a.fz (1+k*7+1);have f2:=a.fz (1+k*7+2);have f3:=a.fz (1+k*7+3);have f4:=a.fz (1+k*7+4);have f5:=a.fz (1+k*7+5)
 obtain⟨q,C⟩:∃q,1+k*7=q:=⟨_,rfl⟩;have D:=a.ahm b d C (V ⟨hd.method.toArray⟩) (V ⟨hd.target.toArray⟩) (I J (hd.minor:Int)) (Z fo nf fZ) (I J hd.length);rw[C] at L N T W c5 f1 f2 f3 f4 f5 ⊢;have t:=H.turns (Turns.of_below (S:=fun _=>False) l) (fun _ _ e=>e);have f:∀m,jU m g gs (upd (xW c x) k [Q (M ⟨(x k).gp,0,U⟩),V ⟨hd.method.toArray⟩,V ⟨hd.target.toArray⟩,I J (hd.minor:Int),Z fo nf fZ,I J hd.length,Z (x k).bo (c k).body.length (x k).fU])->Turns (fun i=>i=g) (w.alloc (K #[I J 1,V ⟨hd.method.toArray⟩,V ⟨hd.target.toArray⟩,I J (hd.minor:Int),Z fo nf fZ,I J hd.length,Z bo nb fU,V ⟨#[]⟩,V ⟨#[]⟩,V ⟨#[]⟩,Z n p r,I J 0] 98)) m->xJ w0 κ g gs c z o k w ⟨s,hd,(c k).body,[]⟩ (Y (Z U 0 0)) m:=fun m hr G=>by
  have h2:=B.head k hd fo fZ (by rw[y];exact t);have h3:=h2.row u v hr G;refine⟨⟨U,0,0,rfl,rfl,gN.nil _⟩,⟨_,upd x k { x k with fo:=fo,fZ:=fZ },?_,(Ext.refl κ _).iC l.size .row⟩,(Turns.of_below l).trans G (fun i e _=>A (by rw[e];exact(h.held .row).2))⟩;rw[zl];have:UA ⟨(c k).rq,hd,(c k).body⟩ { x k with fo:=fo,fZ:=fZ }=[Q (M ⟨(x k).gp,0,U⟩),V ⟨hd.method.toArray⟩,V ⟨hd.target.toArray⟩,I J (hd.minor:Int),Z fo nf fZ,I J hd.length,Z (x k).bo (c k).body.length (x k).fU]:=by unfold UA;rw[y]
  rw[this];exact h3
 go_enter func46,ntmps46;go_wp2;go_ret;exact f _ D.1 D.2
theorem Ug (G:∀k,kE (z k))(H:kE o)(h:jK w0 κ g gs s (xW c x) c x z o w)(p:k<4)(b:av){fo bo r:ak}{fZ nf nb fU t u:Nat}(hn:b.length=nb)(hB:gN w bo fU b)(hl:(c k).body.length+nb<=100000):
 Calls prog 46 #[Q (M ⟨g,0,U⟩),Q (M ⟨g,1+k*7,U⟩),.agg #[I J 2,V ⟨#[]⟩,V ⟨#[]⟩,I J 0,Z fo nf fZ,I J 0,Z bo nb fU,V ⟨#[]⟩,V ⟨#[]⟩,V ⟨#[]⟩,Z r t u,I J 0]] w fun e w'=>xJ w0 κ g gs c z o k w ⟨s,(c k).hd,(c k).body++b,[]⟩ e w':=by
 have L:=(eY _ w).alloc (aM _) (K #[I J 2,V ⟨#[]⟩,V ⟨#[]⟩,I J 0,Z fo nf fZ,I J 0,Z bo nb fU,V ⟨#[]⟩,V ⟨#[]⟩,V ⟨#[]⟩,Z r t u,I J 0] 98);have N:=(h.stay G H L).stay G H (gy _ _);have hg:=N.XI;have hv:xW c x k=[Q (M ⟨(x k).gp,0,U⟩),V ⟨(c k).hd.method.toArray⟩,V ⟨(c k).hd.target.toArray⟩,I J ((c k).hd.minor:Int),Z (x k).fo (c k).hd.fields.length (x k).fZ,I J (c k).hd.length,Z (x k).bo (c k).body.length (x k).fU]:=rfl;have c6:=hg.at_ p (j:=6) (by decide) (by rw[hv];rfl);have S:=N.held (.bd k) p;have HB:=(hB.stay L).stay (gy _ _);obtain⟨j0,T,W,hy1,hy2⟩:=info_parts jJ;have Hj:=T;have NQ:=H9 W;have NR:=H9 hy1;have NS:=H9 hy2
 obtain⟨q,hq⟩:∃q,1+k*7=q:=⟨_,rfl⟩;have pO:∀f l d,gK d (fun i=>jy (c k).body (x k).bo=M i∨(w.alloc (K #[I J 2,V ⟨#[]⟩,V ⟨#[]⟩,I J 0,Z fo nf fZ,I J 0,Z bo nb fU,V ⟨#[]⟩,V ⟨#[]⟩,V ⟨#[]⟩,Z r t u,I J 0] 98)).drew.heap.size<=i) 5 f l ((c k).body++b)->Turns (fun i=>jy (c k).body (x k).bo=M i) (w.alloc (K #[I J 2,V ⟨#[]⟩,V ⟨#[]⟩,I J 0,Z fo nf fZ,I J 0,Z bo nb fU,V ⟨#[]⟩,V ⟨#[]⟩,V ⟨#[]⟩,Z r t u,I J 0] 98)).drew d->(d.cell? ⟨g,q+6,U⟩=M (Z (x k).bo (c k).body.length (x k).fU)∧d.frozen? ⟨g,q+6,U⟩=F)∧xJ w0 κ g gs c z o k w ⟨s,(c k).hd,(c k).body++b,[]⟩ (Y (Z U 0 0)) (d.setCell ⟨g,q+6,U⟩ (Z f ((c k).body.length+nb) l)):=fun f l d IL v=>by
  have h5:=N.grow G H k p IL v;have m:=h5.XI;have hr:=m.set p (j:=6) (by decide) (Z f ((c k).body.length+nb) l);have n:Turns (fun i=>i=g) d (d.setCell ⟨g,1+k*7+6,U⟩ (Z f ((c k).body.length+nb) l)):=Turns.setCell _ _ _ _ rfl;have h6:=h5.row G H hr n;rw[hq] at h6 n;have y:=m.at_ p (j:=6) (by decide) (by rw[hv];rfl);have B:=m.fz (1+k*7+6);rw[hq] at y B;have hz5:=v.size;have hza:(w.alloc (K #[I J 2,V ⟨#[]⟩,V ⟨#[]⟩,I J 0,Z fo nf fZ,I J 0,Z bo nb fU,V ⟨#[]⟩,V ⟨#[]⟩,V ⟨#[]⟩,Z r t u,I J 0] 98)).drew.heap.size=w.heap.size+1:=by show(w.alloc _).heap.size=_;rw[fG]
  refine⟨⟨y,B⟩,⟨⟨U,0,0,rfl,rfl,gN.nil _⟩,⟨iC (iC κ (w.alloc (K #[I J 2,V ⟨#[]⟩,V ⟨#[]⟩,I J 0,Z fo nf fZ,I J 0,Z bo nb fU,V ⟨#[]⟩,V ⟨#[]⟩,V ⟨#[]⟩,Z r t u,I J 0] 98)).drew.heap.size (.bd k)) d.heap.size .row,upd x k { x k with bo:=f,fU:=l },?_,((Ext.refl κ _).iC (by omega) _).iC (by omega) _⟩,((Turns.of_below (then_ L (gy _ _))).trans v (fun i e _=>?_)).trans n (fun i e _=>A (by rw[e];exact(h.held .row).2))⟩⟩
  . rw[zl];have:UA ⟨(c k).rq,(c k).hd,(c k).body++b⟩ { x k with bo:=f,fU:=l }=(xW c x k).set 6 (Z f ((c k).body.length+nb) l):=by unfold UA xW;rw[aV,hn];rfl
    rw[this];exact h6
  . have C:(c k).body≠[]:=fun e2=>by unfold jy at e;rw[if_pos e2] at e;cases e
    rcases h.held (.bd k) p with ⟨_,_,h3⟩ | ⟨h3,_⟩
    . unfold jy at e;rw[if_neg C] at e;cases sK:(x k).bo with
      | none=>rw[sK] at e;cases e
      | some a=>rw[sK] at e;injection e with e;rw[<-e];exact R (R (h3 a sK))
    . exact absurd h3 C
 rw[hq] at c6 ⊢;generalize hbl:(c k).body.length=nl at *;go_enter func46,ntmps46;go_upto_region 5 with fail
 go_region_law ((refine nU (by rfl) (.tmp 24) (.tmp 26) 31 (by rfl) 5 j0 underlying31 Hj NQ.o NR.o NS.o (by rfl) (by rfl) S hbl HB hn (by omega) ?_;intro bo5 D d vX v;obtain⟨⟨d6,e6⟩,hm⟩:=pO bo5 D d vX v;have HM:=H9 hm;clear vX v hm))
 all_goals
  go_wp2;go_ret;exact HM.o
theorem XJ (L:∀k,kE (z k))(N:kE o)(h:jK w0 κ g gs s (xW c x) c x z o w)(T:k<4)(ok:Sr.Ok s)(hc:Gt.BP (c k)){fo bo p:ak}{fZ nf nb fU q r:Nat}(hl:(c k).body.length<=20000):
 Calls prog 46 #[Q (M ⟨g,0,U⟩),Q (M ⟨g,1+k*7,U⟩),.agg #[I J 3,V ⟨#[]⟩,V ⟨#[]⟩,I J 0,Z fo nf fZ,I J 0,Z bo nb fU,V ⟨#[]⟩,V ⟨#[]⟩,V ⟨#[]⟩,Z p q r,I J 0]] w fun e w'=>xJ w0 κ g gs c z o k w (Gt.ev Tu.iQ ⟨s,(c k).hd,(c k).body,[]⟩ .fin) e w':=by
 have hb:=(eY _ w).alloc (aM _) (K #[I J 3,V ⟨#[]⟩,V ⟨#[]⟩,I J 0,Z fo nf fZ,I J 0,Z bo nb fU,V ⟨#[]⟩,V ⟨#[]⟩,V ⟨#[]⟩,Z p q r,I J 0] 98);have f:(w.alloc (K #[I J 3,V ⟨#[]⟩,V ⟨#[]⟩,I J 0,Z fo nf fZ,I J 0,Z bo nb fU,V ⟨#[]⟩,V ⟨#[]⟩,V ⟨#[]⟩,Z p q r,I J 0] 98)).heap.size=w.heap.size+1:=fG ..;have h0:=h.trim L N;have h1:=h0.stay L N hb;have H0:=h;have H1:=H9 h1;have j:=H9 L;have W:=H9 N;have u:=H9 hc;have rJ:=H9 ok
 have HZa:=H9 f;obtain⟨a,hR⟩:∃a,a=Gt.over Tu.iQ s (c k).hd (c k).body:=⟨_,rfl⟩;have HG:Gt.ev Tu.iQ ⟨s,(c k).hd,(c k).body,[]⟩ .fin=⟨a.1,Rq.hd0,[],Gt.textOf a.2⟩:=by rw[hR];rfl
 have l:=H9 hR;rw[HG];clear h h0 f  hR HG L N hc ok;go_enter func46,ntmps46;go_wp2_with fail
 refine(Ai h1.XI T (rfl:xW c x k=[Q (M ⟨(x k).gp,0,U⟩),V ⟨(c k).hd.method.toArray⟩,V ⟨(c k).hd.target.toArray⟩,I J ((c k).hd.minor:Int),Z (x k).fo (c k).hd.fields.length (x k).fZ,I J (c k).hd.length,Z (x k).bo (c k).body.length (x k).fU])).mono ?_;rintro e w2 ⟨rfl,hr2,jN⟩;have b:=H1.o.row j.o W.o hr2 jN;have hz2:=jN.size;have v:∀i,i=g->iC κ w.heap.size .out i=.row:=fun i e=>by rw[e];exact(H1.o.held .row).2
 have hfl:=((b.held (.fl k)).1 T).is;have hby:=gK.tQ (b.held (.bd k) T);have H2:=H9 b;have HT2:=H9 jN
 go_wp2_with fail
 refine(OV (m:=⟨(c k).hd.method.toArray⟩) (t:=⟨(c k).hd.target.toArray⟩) (mi:=((c k).hd.minor:Int)) (ln:=(c k).hd.length) ⟨b.pow,b.qy,fun i e=>b.far i (by rw[e];intro h;cases h)⟩ (b.held .iX) rJ.o b.XI.store (aaS u.o.hd hfl) (c k).body rfl hby hl (by show(c k).hd.target.toArray.size<=_;rw[bK];have:=u.o.hd.target;omega)).mono ?_;rintro e w3 ⟨⟨fo3,aeO,nf3,bo3,aeP,nb3,rfl,y,B,C,D,_,_⟩,jQ,nL⟩;rw[show Gt.answer Tu.iQ s ⟨(c k).hd.method.toArray⟩ ⟨(c k).hd.target.toArray⟩ (Gt.nu (c k).hd.fields) (c k).body=a from l.o.symm] at y B C D jQ;rw[show Gt.answer Tu.iQ s ⟨(c k).hd.method.toArray⟩ ⟨(c k).hd.target.toArray⟩ (Gt.nu (c k).hd.fields) (c k).body=a from l.o.symm];have h3:=H2.o.iX j.o W.o jQ nL;have hz3:=nL.size;have hsm:Gt.Small a.2:=by rw[l.o];exact Gt.yT rJ.o _ _ _ _
 have H3:=H9 h3;have HT3:=H9 nL
 go_wp2_with fail
 refine(Gz w3 a.2 fo3 bo3 nf3 aeO nb3 aeP hsm y B C D (h3.pow.stay h3.qy)).mono ?_;rintro e w4 ⟨⟨rO,d,n4,rfl,OY,G⟩,n⟩;have h4:=H3.o.stay j.o W.o n;have h5:=(h4.head k Rq.hd0 U 0 (nN.nil _ _)).nobody k;rw[pX,pX,iI,iI] at h5;have H:Hid (xJ w0 κ g gs c z o k w ⟨a.1,Rq.hd0,[],Gt.textOf a.2⟩ (Y (Z rO n4 d)) w4):=by
  have f:=HZa.o;refine⟨⟨rO,d,n4,rfl,OY,G⟩,⟨_,upd x k { gp:=(x k).gp,fo:=U,fZ:=0,bo:=U,fU:=0 },?_,(((Ext.refl κ w.heap.size).iC (aM _) .out).iC (m:=(w.alloc (K #[I J 3,V ⟨#[]⟩,V ⟨#[]⟩,I J 0,Z fo nf fZ,I J 0,Z bo nb fU,V ⟨#[]⟩,V ⟨#[]⟩,V ⟨#[]⟩,Z p q r,I J 0] 98)).heap.size) (by omega) .row).iC (m:=w2.heap.size) (by omega) .iX⟩,?_⟩
  . rw[zl];exact h5
  . refine(((Turns.of_below hb).trans HT2.o (fun i e hi=>A ?_)).trans HT3.o (fun i e hi=>R (A ?_))).trans (Turns.of_below (S:=fun _=>False) n) (fun _ e _=>e.elim)
    . have:=v i e;rw[iq hi] at this;exact this
    . have e:iC (iC κ w.heap.size .out) (w.alloc (K #[I J 3,V ⟨#[]⟩,V ⟨#[]⟩,I J 0,Z fo nf fZ,I J 0,Z bo nb fU,V ⟨#[]⟩,V ⟨#[]⟩,V ⟨#[]⟩,Z p q r,I J 0] 98)).heap.size .row i=.iX:=e;rw[iq (by omega),iq hi] at e;exact e
 clear h4 h5 n G v OY;go_wp2;go_ret;exact H.o
theorem Uh (y:∀k,kE (z k))(B:kE o)(h:jK w0 κ g gs s (xW c x) c x z o w)(hk:k<4)(a:Nat){fo bo j:ak}{fZ nf nb fU l n:Nat}:
 Calls prog 46 #[Q (M ⟨g,0,U⟩),Q (M ⟨g,1+k*7,U⟩),.agg #[I J 4,V ⟨#[]⟩,V ⟨#[]⟩,I J 0,Z fo nf fZ,I J 0,Z bo nb fU,V ⟨#[]⟩,V ⟨#[]⟩,V ⟨#[]⟩,Z j l n,I J (a:Int)]] w fun e w'=>xJ w0 κ g gs c z o k w ⟨s,Rq.hd0,[],Gt.textOf (Gt.qZ a)⟩ e w':=by
 have hb:=(eY _ w).alloc (aM _) (K #[I J 4,V ⟨#[]⟩,V ⟨#[]⟩,I J 0,Z fo nf fZ,I J 0,Z bo nb fU,V ⟨#[]⟩,V ⟨#[]⟩,V ⟨#[]⟩,Z j l n,I J (a:Int)] 98);have p:(w.alloc (K #[I J 4,V ⟨#[]⟩,V ⟨#[]⟩,I J 0,Z fo nf fZ,I J 0,Z bo nb fU,V ⟨#[]⟩,V ⟨#[]⟩,V ⟨#[]⟩,Z j l n,I J (a:Int)] 98)).heap.size=w.heap.size+1:=fG ..;have h0:=h.trim y B;have h1:=h0.stay y B hb;have C:w.heap.size≠g:=by have:=h.XI.lt;omega
 have H1:=h1;have d:=H9 y;have D:=H9 B
 have G:=H9 p;have xV:=eX w (K #[I J 4,V ⟨#[]⟩,V ⟨#[]⟩,I J 0,Z fo nf fZ,I J 0,Z bo nb fU,V ⟨#[]⟩,V ⟨#[]⟩,V ⟨#[]⟩,Z j l n,I J (a:Int)] 98);go_enter func46,ntmps46;go_wp2_with fail
 refine(Ai h1.XI hk (rfl:xW c x k=[Q (M ⟨(x k).gp,0,U⟩),V ⟨(c k).hd.method.toArray⟩,V ⟨(c k).hd.target.toArray⟩,I J ((c k).hd.minor:Int),Z (x k).fo (c k).hd.fields.length (x k).fZ,I J (c k).hd.length,Z (x k).bo (c k).body.length (x k).fU])).mono ?_;rintro e w2 ⟨rfl,H,v⟩;have h2:=H1.row d.o D.o H v;have hz2:=v.size;have a11:=eZ w2 _ 11 _ _ _ (v.row xV C);have q:∀i,i=g->iC κ w.heap.size .out i=.row:=fun i e=>by rw[e];exact(H1.held .row).2
 have H2:=h2;have L:=H9 v
 go_wp2_with fail
 refine((fun W=>NW a W) _).mono ?_;rintro e w3 ⟨rfl,r⟩;have N:=H2.stay d.o D.o r;have H3:=N;have T:=H9 r
 go_wp2_with fail
 refine(Gz w3 (Gt.qZ a) U U 0 0 0 0 (Gt.xC a) rfl (ji.nil _) rfl (gN.nil _) (N.pow.stay N.qy)).mono ?_;rintro e w4 ⟨⟨rO,b,n4,rfl,OY,t⟩,f⟩;have h4:=H3.stay d.o D.o f;have h5:=(h4.head k Rq.hd0 U 0 (nN.nil _ _)).nobody k;rw[pX,pX,iI,iI] at h5;have u:xJ w0 κ g gs c z o k w ⟨s,Rq.hd0,[],Gt.textOf (Gt.qZ a)⟩ (Y (Z rO n4 b)) w4:=by
  have p:=G.o;refine⟨⟨rO,b,n4,rfl,OY,t⟩,⟨_,upd x k { gp:=(x k).gp,fo:=U,fZ:=0,bo:=U,fU:=0 },?_,((Ext.refl κ w.heap.size).iC (aM _) .out).iC (m:=(w.alloc (K #[I J 4,V ⟨#[]⟩,V ⟨#[]⟩,I J 0,Z fo nf fZ,I J 0,Z bo nb fU,V ⟨#[]⟩,V ⟨#[]⟩,V ⟨#[]⟩,Z j l n,I J (a:Int)] 98)).heap.size) (by omega) .row⟩,?_⟩
  . rw[zl];exact h5
  . refine((Turns.of_below hb).trans L.o (fun i e hi=>A ?_)).trans (Turns.of_below (S:=fun _=>False) (then_ T.o f)) (fun _ e _=>e.elim);have:=q i e;rw[iq hi] at this;exact this
 clear h4 h5 f t q OY;go_wp2;go_ret;exact u
end
def YB (ao:ak)(cap:Nat)(es:List iH):Ob:=fun w S=>mR w S 98 ao cap es
theorem YB.law (ao:ak)(cap:Nat)(es:List iH):kE (YB ao cap es):=⟨fun h b a=>mR.turns h b a,fun h a=>mR.mono h a⟩
def GrO (ao:ak)(cap:Nat)(l:av):Ob:=fun w S=>gK w S 5 ao cap l
theorem GrO.law (ao:ak)(cap:Nat)(l:av):kE (GrO ao cap l):=⟨fun h b a=>gK.turns h b a,fun h a=>gK.mono h a⟩
def XK (k:Nat)(b:Ob):Nat->Ob:=fun j w S=>j=k->b w S
theorem XK.law {k:Nat}{b:Ob}(c:kE b):∀j,kE (XK k b j):=fun _=>⟨fun h d a e=>c.turns (h e) d a,fun h a e=>c.mono (h e) a⟩
theorem mR.lit {w:X}{S:Nat->Prop}{g:Nat}{ao:ak}{cap:Nat}{es:List iH}(h:mR w S g ao cap es)(k:0<es.length):∃b o,ao=M ⟨b,o,U⟩∧∀j (d:j<es.length),∃s,(∀i u,(es[j].cells s)[i]? = M u->w.cell? ⟨b,o+j*12+i,U⟩=M u)∧BQ w S es[j] s:=by
 obtain⟨f,rfl,l,_,m⟩:=h;have n:=l.qE;obtain⟨b,o,rfl,p⟩:=n.lit (by rw[nQ];rw[aF] at k;omega);refine⟨b,o,rfl,fun j d=>?_⟩;have a:j<f.length:=by simpa using d
 refine⟨f[j].2,fun i u c=>?_,?_⟩
 . rw[aG] at c;have q:i<12:=(aQ.1 c).1;rw[<-sJ _ j a i q] at c;have:=p _ _ c;rw[bJ];exact this
 . rw[aG];exact(m _ (aC a)).mono (fun _ _ e=>e.1)
section
variable {w0 w w':X} {κ:Nat->Ae} {g gs:Nat} {s:Sr.Sh} {v:Nat->List Value} {c:Nat->Gt.Cn} {x:Nat->Qm} {z:Nat->Ob} {o o':Ob} {k:Nat}
theorem jK.answered (i:∀k,kE (z k))(j:kE o)(a:kE o')(h:jK w0 κ g gs s v c x z o w){T N:Nat->Prop}(b:Turns T w w')(f:∀k,T k->κ k=.ret)(l:o' w' N)(m:∀k,N k->κ k=.ret∨w.heap.size<=k):jK w0 (iC κ w.heap.size .ret) g gs s v c x z o' w' :=
 ⟨h.held.act (lI i j) b f (X':=Cv g gs s v 4 c x z o') a l m (fun d n=>by cases d <;> first | rfl | exact absurd rfl n),h.pow,h.qy.trans (b.below (fun k e=>h.far k (by rw[f k e];intro h;cases h)) h.qy.size),Jr h.far h.qy.size⟩
theorem aco (c:Nat->Gt.Cn)(x:Nat->Qm)(k:Nat)(r:Rq.St):xW (upd c k { c k with rq:=r }) x=xW c x:=by
 funext i;unfold xW upd;split
 . next h=>subst h;rfl
 . rfl
theorem jK.fed (h:jK w0 κ g gs s v c x KI zQ w)(B:k<4){l:av}{e:Ending}(D:Pg w (fun i=>κ i=.rq k) (x k).gp (c k).rq l e w'):∃ao cap n a,e=Y (Z ao n cap)∧n=(Rq.join (Rq.outs (c k).rq l)).length∧jK w0 a g gs s v (upd c k { c k with rq:=Rq.fold (c k).rq l }) x (XK k (YB ao cap ((Rq.join (Rq.outs (c k).rq l)).map Rq.Ev.d))) zQ w'∧Turns (fun i=>κ i=.rq k) w w'∧∀i,i<w.heap.size->a i=κ i∨κ i≠.out:=by
 obtain⟨ao,cap,n,G,f,H,L,N,T,hd,hS,m,q⟩:=D;obtain⟨a,r,b,h3⟩:=h.held.split (lI (fun _=>kE.kC) kE.kC) (p:=.rq k) (e:=.fl k) (by intro h;cases h) (X':=Cv g gs s v 4 (upd c k { c k with rq:=Rq.fold (c k).rq l }) x (XK k (YB ao cap ((Rq.join (Rq.outs (c k).rq l)).map Rq.Ev.d))) zQ) q (fun _ e=>e) (P:=G) (E:=f) (fun _=>by rw[iI];exact N) (lI (XK.law (YB.law _ _ _)) kE.kC _) hd hS m
  (fun S hX t u=>⟨fun B=>by rw[iI];exact(hX.1 B).mono (fun i _ e=>t i e),fun _=>T.all.mono (fun i _ e=>u i e)⟩)
  (fun d r b => by
   cases d with
   | row=>rfl
   | iX=>rfl
   | rq j =>
     have e:j≠k:=fun e=>r (by rw[e]);simp only[Cv];rw[upd_ne _ _ e]
   | fl j =>
     have e:j≠k:=fun e=>b (by rw[e]);simp only[Cv];rw[upd_ne _ _ e];funext W S;unfold XK;simp[e]
   | bd j =>
     by_cases e:j=k
     . subst e;simp only[Cv,iI]
     . simp only[Cv];rw[upd_ne _ _ e]
   | ret=>rfl
   | out=>rfl)
 refine⟨ao,cap,n,a,H,L,⟨r,h.pow,h.qy.trans (q.below (fun i e=>h.far i (by rw[e];intro h;cases h)) h.qy.size),fun i y=>?_⟩,q,fun i y=>?_⟩
 . rcases aT i w.heap.size with C | C
   . rcases b i C with e | e
     . exact h.far i (by rw[<-e];exact y)
     . exact h.far i (by rw[e.1];intro h;cases h)
   . have:=h.qy.size;omega
 . rcases b i y with e | e
   . exact A e
   . exact R (by rw[e.1];intro h;cases h)
end
structure XL (S:Nat->Prop)(w:X)(g gs:Nat)(c:Nat->Gt.Cn)(k:Nat)(r:Sr.Sh×Gt.Cn×av)(code:Int)(e:Ending)(w':X):Prop where
 ret:∃(ao:ak) (cap n:Nat),e=Y (.tuple #[Z ao n cap,I J code])∧n=r.2.2.length∧gN w' ao cap r.2.2
 at_:jf w' (gB S w) g gs r.1 (upd c k r.2.1)
 turns:Turns S w w'
section
variable {w0 w:X} {S:Nat->Prop} {g gs:Nat} {s:Sr.Sh} {c:Nat->Gt.Cn}
theorem XM {κ:Nat->Ae}{x:Nat->Qm}{z:Nat->Ob}{o:Ob}{k:Nat}(a:∀k,kE (z k))(f:kE o)(h:jK w0 κ g gs s (xW c x) c x z o w)(j:k<4)(ok:Sr.Ok s)(m:Gt.BP (c k))(ev:Rq.Ev)(es:EvS)(l:BQ w (fun i=>κ i=.fl k) ev.d es)(p:(c k).body.length+ev.d.bytes.length<=20000):
 Calls prog 46 #[Q (M ⟨g,0,U⟩),Q (M ⟨g,1+k*7,U⟩),.agg #[I J ev.d.kind,V ev.d.method,V ev.d.target,I J ev.d.minor,Z es.fo ev.d.fields.length es.fZ,I J ev.d.length,Z es.bo ev.d.bytes.length es.fU,V ev.d.kK,V ev.d.ku,V ev.d.ptype,Z es.po ev.d.gT.length es.jh,I J ev.d.code]] w fun e w'=>xJ w0 κ g gs c z o k w (Gt.ev Tu.iQ ⟨s,(c k).hd,(c k).body,[]⟩ ev) e w':=by
 cases ev with
 | head hd=>exact Uf a f h j hd (Rq.qI _).symm l.fields
 | body b=>exact Ug a f h j b rfl l.bytes.is (by have:(Rq.Ev.body b).d.bytes.length=b.length:=rfl;omega)
 | fin=>exact XJ a f h j ok m (by omega)
 | fail n=>exact Uh a f h j n
theorem Gt.XO (s:Sr.Sh)(hd:Rq.Hd)(body out:av)(e:Rq.Ev):Gt.ev Tu.iQ ⟨s,hd,body,out⟩ e={ Gt.ev Tu.iQ ⟨s,hd,body,[]⟩ e with out:=out++(Gt.ev Tu.iQ ⟨s,hd,body,[]⟩ e).out }:=by
 have:=Gt.abk Tu.iQ ⟨s,hd,body,[]⟩ out e;rw[show({ (⟨s,hd,body,[]⟩:Gt.Gs) with out:=out++[] }:Gt.Gs)=⟨s,hd,body,out⟩ from by rw[bU]] at this;exact this
structure L9 (w0:X)(S:Nat->Prop)(w:X)(g gs:Nat)(c:Nat->Gt.Cn)(k:Nat)(ro:Rq.St)(eo:ak)(ec:Nat)(es:List Rq.Ev)(G:Gt.Gs)(ao:ak)(cap:Nat)(wr:X):Prop where
 at_:∃κ x,jK w0 κ g gs G.s (xW (upd c k ⟨ro,G.hd,G.body⟩) x) (upd c k ⟨ro,G.hd,G.body⟩) x (XK k (YB eo ec (es.map Rq.Ev.d))) (GrO ao cap G.out) wr∧∀i,κ i≠.out->gB S w i
 turns:Turns S w wr
 ok:Sr.Ok G.s
 hd:Rq.oU G.hd
theorem aeQ:∀{s:Sr.Sh},Sr.Ok s->∀m t l body,Sr.Ok (Tu.iQ s m t l body).1:=fun h m t l b=>Tu.Ii h m t l b
theorem ZY {κ:Nat->Ae}{k:Nat}{ro:Rq.St}{eo:ak}{ec:Nat}{es:List Rq.Ev}{G G':Gt.Gs}{ao:ak}{cap:Nat}{v w5:X}{e:Ending}(L:∀i,κ i≠.out->gB S w i)(N:Turns S w v)(q:xJ w0 κ g gs (upd c k ⟨ro,G.hd,G.body⟩) (XK k (YB eo ec (es.map Rq.Ev.d))) (GrO ao cap G.out) k v G' e w5)(ok:Sr.Ok G'.s)(x:Rq.oU G'.hd):
 ∃(r:ak) (b t:Nat) (B:Nat->Prop),e=Y (Z r t b)∧t=G'.out.length∧gN w5 r b G'.out∧gK w5 B 5 ao cap G.out∧∀l f u,gK u (fun i=>jy G.out ao=M i∨w5.heap.size<=i) 5 l f (G.out++G'.out)->Turns (fun i=>jy G.out ao=M i) w5 u->L9 w0 S w g gs c k ro eo ec es { G' with out:=G.out++G'.out } l f u:=by
 obtain⟨r,b,t,he,y,hB⟩:=q.ret;obtain⟨j,x5,z,hE⟩:=q.at_;have hz5:=q.turns.size;have hzb:=N.size;rw[pX,iI] at z;have T:gK w5 (fun i=>j i=.ret) 5 ao cap G.out:=z.held .ret;have m:∀i,jy G.out ao=M i->j i=.ret:=fun i e=>by
  unfold jy at e;split at e
  . cases e
  . rename_i C;rcases T with ⟨_,_,h3⟩ | ⟨h1,_⟩
    . cases D:ao with
      | none=>rw[D] at e;cases e
      | some a=>rw[D] at e;injection e with e;rw[<-e];exact h3 a D
    . exact absurd h1 C
 have o:∀i,j i≠.out->gB S w i:=fun i n=>by
  rcases aT i v.heap.size with p | p
  . exact L i (by rw[<-hE i p];exact n)
  . exact R (by omega)
 refine⟨r,b,t,_,he,y,hB,T,fun l f u H W=>⟨⟨iC j w5.heap.size .ret,x5,z.answered (XK.law (YB.law _ _ _)) (GrO.law _ _ _) (GrO.law _ _ _) W m H (fun i e=>?_),fun i n=>?_⟩,(N.trans q.turns (fun i e n=>?_)).trans W (fun i e n=>?_),ok,x⟩⟩
 . rcases e with e | e
   . exact A (m i e)
   . exact R e
 . rcases aT i w5.heap.size with p | p
   . rw[iq p] at n;exact o i n
   . exact R (by omega)
 . have y:κ i≠.out:=by rcases e with e | e | e <;> (rw[e];intro h;cases h)
   rcases L i y with h | h
   . exact h
   . omega
 . rcases o i (by rw[m i e];intro h;cases h) with h | h
   . exact h
   . omega
theorem L9.done {k:Nat}{ro:Rq.St}{eo:ak}{ec:Nat}{es:List Rq.Ev}{G:Gt.Gs}{ao:ak}{cap:Nat}{wr:X}(h:L9 w0 S w g gs c k ro eo ec es G ao cap wr):gN wr ao cap G.out∧jf wr (gB S w) g gs G.s (upd c k ⟨ro,G.hd,G.body⟩)∧Turns S w wr:=by
 obtain⟨a,x,b,e⟩:=h.at_;have f:gK wr (fun i=>a i=.ret) 5 ao cap G.out:=b.held .ret;refine⟨f.tQ,⟨a,x,fun d=>?_,e⟩,h.turns⟩;have hd:=b.held d;cases d with
 | fl j=>exact⟨hd.1,trivial⟩
 | ret=>trivial
 | row=>exact hd
 | iX=>exact hd
 | rq j=>exact hd
 | bd j=>exact hd
 | out=>trivial
end
section
variable {w0 w:X} {S:Nat->Prop} {g gs:Nat} {s:Sr.Sh} {c:Nat->Gt.Cn}
theorem Ma (k:Int)(b:k<0∨4<=k)(bo:ak)(fU n:Nat)(w:X):
 Calls prog 15 #[Q (M ⟨g,0,U⟩),I J k,Z bo n fU] w fun e w'=>e=Y (.tuple #[Z U 0 0,I J 1])∧w'=w:=by
 have a:=fun W=>uD k W;rw[show(decide (0<=k)&&decide (k<4))=F from by rcases b with h | h <;> simp <;> omega] at a;go_enter func15,ntmps15;go_wp2_with fail
 refine(a _).mono ?_;rintro e f ⟨rfl,d⟩;subst d;go_wp2;go_ret2;exact⟨rfl,rfl⟩
theorem Ui (hP:kD w0)(hW:Below w0.heap.size w0 w)(hF:∀i,S i->w0.heap.size<=i)(h:jf w S g gs s c)(ok:Sr.Ok s)(k:Nat)(hk:k<4)(hc:Gt.BP (c k))(l:av){bo:ak}{fU n:Nat}(hB:gN w bo fU l)(sK:l≠[]->∀a,bo=M a->¬S a.block)(hn:l.length=n)(hl:(c k).body.length+n<=20000):
 Calls prog 15 #[Q (M ⟨g,0,U⟩),I J (k:Int),Z bo n fU] w fun e w'=>XL S w g gs c k (Gt.feed Tu.iQ s (c k) l) (if (c k).rq.ph=4 then 18 else 0) e w':=by
 have HI:=fun W=>uD (k:Int) W;rw[show(decide ((0:Int)<=(k:Int))&&decide ((k:Int)<4))=true from by simp;omega] at HI;obtain⟨κ,x,hH,hS⟩:=h;have hG0:jK w0 κ g gs s (xW c x) c x KI zQ w:=⟨hH,hP,hW,fun i e=>hF i (hS i e)⟩;have cg:w.cell? ⟨g,1+k*7,U⟩=M (Q (M ⟨(x k).gp,0,U⟩)):=hG0.XI.at_ hk (j:=0) (u:=Q (M ⟨(x k).gp,0,U⟩)) (by decide) rfl;have HD:=KD w (fun i=>κ i=.rq k) (x k).gp (c k).rq (hH (.rq k) hk);have k0:(0:Int)<=(k:Int):=by omega
 have k4:(k:Int)<4:=by omega
 by_cases T:(c k).rq.ph=4
 . rw[if_pos T];rw[aI T] at HD;have Zw:Gt.feed Tu.iQ s (c k) l=(s,c k,[]):=by
    have:=Rq.sF l (c k).rq T;unfold Gt.feed Gt.VH;rw[this.1,this.2];rfl
   rw[Zw];have r:XL S w g gs c k (s,c k,[]) 18 (Y (.tuple #[Z U 0 0,I J 18])) w:=⟨⟨U,0,0,rfl,rfl,gN.nil _⟩,by rw[upd_same];exact jf.mono ⟨κ,x,hH,hS⟩ (fun i _ e=>A e),Turns.refl _ _⟩;go_enter func15,ntmps15;go_wp2_with fail
   refine(HI _).mono ?_;rintro e w1 ⟨rfl,hw⟩;rw[hw];go_wp2_with fail
   refine HD.mono ?_;rintro e w1 ⟨rfl,hw⟩;rw[hw];go_wp2;go_ret2;exact r
 . rw[if_neg T];rw[aJ T] at HD;have UN:=L8 w (fun i=>κ i=.rq k) (x k).gp (c k).rq l bo fU n (hH (.rq k) hk) hc.rq hB (fun t a e e2=>sK t a e (hS _ (by rw[e2];intro h;cases h))) hn (by omega);have HG0:=hG0;have HS:=H9 hS
   go_enter func15,ntmps15;go_wp2_with fail
   refine(HI _).mono ?_;rintro e w1 ⟨rfl,hw⟩;rw[hw];go_wp2_with fail
   refine HD.mono ?_;rintro e w1 ⟨rfl,hw⟩;rw[hw];go_wp2_with fail
   refine UN.mono ?_;rintro e w1 hFr;obtain⟨eo,ec,ne,κ1,rfl,t,p,hT1,hE1⟩:=HG0.fed hk hFr;have hS1:∀i,κ1 i≠.out->gB S w i:=fun i hi=>by
    rcases aT i w.heap.size with hl | hl
    . rcases hE1 i hl with e | e
      . exact A (HS.o i (by rw[<-e];exact hi))
      . exact A (HS.o i e)
    . exact R hl
   rw[<-aco c x k (Rq.fold (c k).rq l)] at p;have mO:=Rq.Qb (c k).rq l;obtain⟨es,v⟩:∃es,es=Rq.join (Rq.outs (c k).rq l):=⟨_,rfl⟩;have aaU:∀e∈es,e.tX:=by rw[v];exact Rq.oz _ (Rq.qo l hc.rq)
   have JE:Gt.feed Tu.iQ s (c k) l=((Gt.evs Tu.iQ ⟨s,(c k).hd,(c k).body,[]⟩ es).s,⟨Rq.fold (c k).rq l,(Gt.evs Tu.iQ ⟨s,(c k).hd,(c k).body,[]⟩ es).hd,(Gt.evs Tu.iQ ⟨s,(c k).hd,(c k).body,[]⟩ es).body⟩,(Gt.evs Tu.iQ ⟨s,(c k).hd,(c k).body,[]⟩ es).out):=by rw[v,Gt.vF];rfl
   rw[<-v] at t p mO;have hR0:L9 w0 S w g gs c k (Rq.fold (c k).rq l) eo ec es ⟨s,(c k).hd,(c k).body,[]⟩ U 0 w1:=⟨⟨κ1,x,⟨fun d=>by
    have hd:=p.held d;cases d with
    | ret =>
      show gK w1 (fun i=>κ1 i=.ret) 5 U 0 [];exact gK.nil _ _ _
    | fl j=>exact hd
    | row=>exact hd
    | iX=>exact hd
    | rq j=>exact hd
    | bd j=>exact hd
    | out=>trivial,p.pow,p.qy,p.far⟩,hS1⟩,hT1.mono (fun i e=>HS.o i (by rw[e];intro h;cases h)),ok,hc.hd⟩
   have hbd:∀i (hi:i<es.length),(Gt.evs Tu.iQ ⟨s,(c k).hd,(c k).body,[]⟩ (es.take i)).body.length+es[i].d.bytes.length<=20000:=fun i hi=>by
    have h1:=Gt.Dq Tu.iQ (es.take i) ⟨s,(c k).hd,(c k).body,[]⟩;have h2:Rq.iO (es.take i)+es[i].d.bytes.length<=Rq.iO es:=by
     conv=>rhs;rw[<-bV i es,Rq.lU,aD hi]
     generalize es[i]=e;cases e with
     | body b=>show _+b.length<=_+(b.length+_);omega
     | head _=>exact Nat.add_le_add_left (aA _) _
     | fin=>exact Nat.add_le_add_left (aA _) _
     | fail _=>exact Nat.add_le_add_left (aA _) _
    have h3:=mO.2.1;have T:(⟨s,(c k).hd,(c k).body,[]⟩:Gt.Gs).body.length=(c k).body.length:=rfl;omega
   have hol:∀i,i<=es.length->(Gt.evs Tu.iQ ⟨s,(c k).hd,(c k).body,[]⟩ (es.take i)).out.length<=6000*40000:=fun i hi=>by
    have h1:=Gt.Ba (es.take i) (g:=⟨s,(c k).hd,(c k).body,[]⟩) ok;rw[bW] at h1;have h3:=mO.1;have T:(⟨s,(c k).hd,(c k).body,[]⟩:Gt.Gs).out.length=0:=rfl;omega
   have hlen:es.length<=40000:=by have:=mO.1;omega
   have aeR:Rq.Good (Rq.fold (c k).rq l):=hc.rq.fold l;have Ky:=hR0;have zP:=H9 hbd;have HOl:=H9 hol;have HFi:=H9 aaU;have HRo:=H9 aeR
   obtain⟨j0,hj0,hy0,hy1,hy2⟩:=info_parts jJ;have Hj:=hj0;have NQ:=H9 hy0;have NR:=H9 hy1;have NS:=H9 hy2
   subst t;clear p hT1 hE1 hS1 mO aaU v hR0 hbd hol aeR HG0 UN HI HD hFr cg hj0 hy0 hy1 hy2;generalize Rq.fold (c k).rq l=ro at *;generalize ahq:(⟨s,(c k).hd,(c k).body,[]⟩:Gt.Gs)=G0 at *;go_wp2;go_loopw [9,37] (fun vo vi wr=>∃(i m:Nat) (ao:ak) (cap:Nat),i<=es.length∧vi=I J i∧vo=Z ao m cap∧m=(Gt.evs Tu.iQ G0 (es.take i)).out.length∧L9 w0 S w g gs c k ro eo ec es (Gt.evs Tu.iQ G0 (es.take i)) ao cap wr) (fun _ vi _=>es.length-(intOf vi).toNat)
   case atStart=>exact⟨0,0,U,0,aA _,rfl,rfl,by rw[<-ahq];rfl,Ky⟩
   case round =>
    obtain⟨i,m,ao,cap,hi,rfl,rfl,hm,y⟩:=hrel;by_cases z:i<es.length
    . have hlt':(i:Int)<es.length:=by omega
      have hTk:Gt.evs Tu.iQ G0 (es.take (i+1))=Gt.ev Tu.iQ (Gt.evs Tu.iQ G0 (es.take i)) es[i]:=by rw[bM z,Gt.M7];rfl
      have hbi:=zP.o i z;have C:=HOl.o (i+1) (by omega);have ahr:=HOl.o i (by omega);have hfi:=HFi.o es[i] (aC z);obtain⟨κ,x2,hG,hS2⟩:=y.at_;have hEv:mR wr (fun j=>κ j=.fl k) 98 eo ec (es.map Rq.Ev.d):=(hG.held (.fl k)).2 rfl;have hcap:es.length<=ec:=by have:=hEv.afZ.1;rw[aF] at this;exact this
      obtain⟨b,o,rfl,aeS⟩:=hEv.lit (by rw[aF];omega);obtain⟨q,f,hIn⟩:=aeS i (by rw[aF];exact z);rw[aG] at f hIn;generalize Gt.evs Tu.iQ G0 (es.take i)=G at *;rw[hTk] at C;generalize hev:es[i]=ev at *;have jc:=(eY _ wr).alloc (aM _) (K #[I J ev.d.kind,V ev.d.method,V ev.d.target,I J ev.d.minor,Z q.fo ev.d.fields.length q.fZ,I J ev.d.length,Z q.bo ev.d.bytes.length q.fU,V ev.d.kK,V ev.d.ku,V ev.d.ptype,Z q.po ev.d.gT.length q.jh,I J ev.d.code] 98);have hGA:=hG.stay (XK.law (YB.law _ _ _)) (GrO.law _ _ _) jc;have aeT:=hIn.turns (Turns.of_below (S:=fun _=>False) jc) (fun _ _ e=>e);have HMt:=XM (XK.law (YB.law _ _ _)) (GrO.law _ _ _) hGA hk y.ok (by rw[iI];exact⟨HRo.o,y.hd⟩) ev q aeT (by rw[iI];exact hbi);rw[iI] at HMt;have hNx:=fun(w5:X) (e5:Ending)=>ZY (e:=e5) (w5:=w5) (G:=G) (G':=Gt.ev Tu.iQ ⟨G.s,G.hd,G.body,[]⟩ ev) (κ:=κ) (es:=es) (eo:=M ⟨b,o,U⟩) (ec:=ec) (ao:=ao) (cap:=cap) (ro:=ro) (k:=k) (c:=c) (g:=g) (gs:=gs) (w0:=w0) hS2 (y.turns.trans (Turns.of_below (S:=fun _=>False) jc) (fun _ e _=>e.elim));have hfr:Gt.ev Tu.iQ G ev={ Gt.ev Tu.iQ ⟨G.s,G.hd,G.body,[]⟩ ev with out:=G.out++(Gt.ev Tu.iQ ⟨G.s,G.hd,G.body,[]⟩ ev).out }:=Gt.XO G.s G.hd G.body G.out ev;have D:Sr.Ok (Gt.ev Tu.iQ ⟨G.s,G.hd,G.body,[]⟩ ev).s:=Gt.VI Tu.iQ aeQ (g:=⟨G.s,G.hd,G.body,[]⟩) y.ok ev;have aeU:Rq.oU (Gt.ev Tu.iQ ⟨G.s,G.hd,G.body,[]⟩ ev).hd:=Gt.aag Tu.iQ (g:=⟨G.s,G.hd,G.body,[]⟩) y.hd hfi;have H:G.out.length+(Gt.ev Tu.iQ ⟨G.s,G.hd,G.body,[]⟩ ev).out.length<=6000*40000:=by rw[<-aV];rw[hfr] at C;exact C
      have c0:wr.cell? ⟨b,o+i*12,U⟩=M (I J ev.d.kind):=f 0 _ rfl;have c1:wr.cell? ⟨b,o+i*12+1,U⟩=M (V ev.d.method):=f 1 _ rfl;have c2:wr.cell? ⟨b,o+i*12+2,U⟩=M (V ev.d.target):=f 2 _ rfl;have c3:wr.cell? ⟨b,o+i*12+3,U⟩=M (I J ev.d.minor):=f 3 _ rfl;have c4:wr.cell? ⟨b,o+i*12+4,U⟩=M (Z q.fo ev.d.fields.length q.fZ):=f 4 _ rfl;have c5:wr.cell? ⟨b,o+i*12+5,U⟩=M (I J ev.d.length):=f 5 _ rfl;have c6:wr.cell? ⟨b,o+i*12+6,U⟩=M (Z q.bo ev.d.bytes.length q.fU):=f 6 _ rfl;have c7:wr.cell? ⟨b,o+i*12+7,U⟩=M (V ev.d.kK):=f 7 _ rfl;have c8:wr.cell? ⟨b,o+i*12+8,U⟩=M (V ev.d.ku):=f 8 _ rfl;have c9:wr.cell? ⟨b,o+i*12+9,U⟩=M (V ev.d.ptype):=f 9 _ rfl;have c10:wr.cell? ⟨b,o+i*12+10,U⟩=M (Z q.po ev.d.gT.length q.jh):=f 10 _ rfl;have c11:wr.cell? ⟨b,o+i*12+11,U⟩=M (I J ev.d.code):=f 11 _ rfl;have QA:=hNx;have qU:=H9 hTk;have HFr:=H9 hfr;have aht:=H9 D;have ahu:=H9 aeU;have HM:=H9 hm
      clear y hG hS2 hEv aeS f hIn jc hGA aeT hNx hTk hfr D aeU hbi C ahr hfi hm;generalize ev.d=ed at *;generalize Gt.ev Tu.iQ ⟨G.s,G.hd,G.body,[]⟩ ev=G' at *;go_wp2_with fail
      refine HMt.mono ?_;rintro e w5 hMt;obtain⟨xY,cap5,n5,B,rfl,hn5,Bq,aeV,L⟩:=QA w5 e hMt aht.o ahu.o;have nX:=Bq;have HGr:=H9 aeV;have JB:=H9 L;have HN5:=H9 hn5.symm;have HM2:=H9 HM.o.symm
      have hml:m+n5<=240000000:=by rw[hn5,HM.o];exact H
      clear hMt Bq aeV L hn5 HMt QA H;go_wp2_with (at_builtin;refine kN rfl (.tmp 41) (.tmp 45) 31 rfl 5 j0 underlying31 Hj NQ.o NR.o NS.o rfl rfl HGr.o HM2.o nX HN5.o (by omega) ?_;intro ao6 N w6 Ea BF;have HF6:=H9 (JB.o ao6 N w6 Ea BF);clear Ea BF)
      go_roundw
      case rel=>exact⟨i+1,m+n5,ao6,N,by omega,by go_num,rfl,by rw[qU.o,HFr.o];show _=(G.out++G'.out).length;rw[aV,HM.o,HN5.o],by rw[qU.o,HFr.o];exact HF6.o⟩
      case measure=>simp[intOf];omega
    . obtain rfl:i=es.length:=by omega
      rw[bN] at hm y;obtain⟨pV,hG9,qB⟩:=y.done;have r:XL S w g gs c k (Gt.feed Tu.iQ s (c k) l) 0 (Y (.tuple #[Z ao m cap,I J 0])) wr:=by
       rw[JE];exact⟨⟨ao,cap,m,rfl,hm,pV⟩,hG9,qB⟩
      go_wp2;go_ret2;exact r
end
section
variable {w0 w:X} {S:Nat->Prop} {g gs:Nat} {s:Sr.Sh} {c:Nat->Gt.Cn}
def Mc (gp:Nat):Qm:=⟨gp,U,0,U,0⟩
structure zN (S:Nat->Prop)(w:X)(g gs:Nat)(s:Sr.Sh)(n:Nat)(wr:X):Prop where
 at_:∃κ v x,Held (Cv g gs s v n (fun _=>Gt.yR) x KI zQ) κ wr∧(∀k,k<n->v k=UA Gt.yR (x k))∧∀i,κ i≠.out->gB S w i
 turns:Turns S w wr
theorem jU.Z0 {v:Nat->List Value}(h:jU w g gs v){k:Nat}(a:k<4)(b d e f l m n:Value):
 jU (((((((w.setCell ⟨g,1+k*7,U⟩ b).setCell ⟨g,1+k*7+1,U⟩ d).setCell ⟨g,1+k*7+2,U⟩ e).setCell ⟨g,1+k*7+3,U⟩ f).setCell ⟨g,1+k*7+4,U⟩ l).setCell ⟨g,1+k*7+5,U⟩ m).setCell ⟨g,1+k*7+6,U⟩ n) g gs (upd v k [b,d,e,f,l,m,n])∧Turns (fun i=>i=g) w (((((((w.setCell ⟨g,1+k*7,U⟩ b).setCell ⟨g,1+k*7+1,U⟩ d).setCell ⟨g,1+k*7+2,U⟩ e).setCell ⟨g,1+k*7+3,U⟩ f).setCell ⟨g,1+k*7+4,U⟩ l).setCell ⟨g,1+k*7+5,U⟩ m).setCell ⟨g,1+k*7+6,U⟩ n):=by
 refine⟨?_,gY g [b,d,e,f,l,m,n] (1+k*7) w⟩;have:=((((((h.set a (j:=0) (by decide) b).set a (j:=1) (by decide) d).set a (j:=2) (by decide) e).set a (j:=3) (by decide) f).set a (j:=4) (by decide) l).set a (j:=5) (by decide) m).set a (j:=6) (by decide) n;obtain⟨p,q,r,t,u,x,y,o⟩:=Go.Proofs.YthhklgjjnaeaoaaGreatDoor.seven (h.seven k a);simp only[pX,iI,o] at this;exact this
theorem zN.step {n gp:Nat}{wr o:X}(h:zN S w g gs s n wr)(D:jq o (fun k=>wr.heap.size<=k) gp Rq.start)(p:Below wr.heap.size wr o):∃v,jU o g gs v∧∀f,jU f g gs (upd v n (UA Gt.yR (Mc gp)))->Turns (fun i=>i=g) o f->zN S w g gs s (n+1) f:=by
 obtain⟨⟨q,v,x,b,G,y⟩,z⟩:=h;have l:=(b .row).1.lt;have W:=z.size;refine⟨v,⟨(p.block g l).trans (b .row).1.row,(b .row).1.seven⟩,fun f r t=>?_⟩;have a:∀d,d≠.row->Cv g gs s v n (fun _=>Gt.yR) x KI zQ d f (fun i=>iC q wr.heap.size (.rq n) i=d):=fun d H=>by
  have L:kE (Cv g gs s v n (fun _=>Gt.yR) x KI zQ d):=lI (fun _=>kE.kC) kE.kC d;have N:=L.mono (b d) (S':=fun i=>q i=d∧i<wr.heap.size) (fun i m e=>⟨e,m⟩);have T:=L.turns (L.turns N (Turns.of_below (S:=fun _=>False) p) (fun _ _ e=>e)) t (fun i e B=>H (by rw[<-e.1,B];exact(b .row).2));exact L.mono T (fun i _ e=>(iq e.2).trans e.1)
 refine⟨⟨iC q wr.heap.size (.rq n),upd v n (UA Gt.yR (Mc gp)),upd x n (Mc gp),fun d=>?_,fun j u=>?_,fun i m=>?_⟩,(z.trans (Turns.of_below (S:=fun _=>False) p) (fun _ e _=>e.elim)).trans t (fun i e m=>?_)⟩
 . cases d with
   | row=>exact⟨r,(iq l).trans (b .row).2⟩
   | iX=>exact a .iX (by intro h;cases h)
   | rq j =>
     intro u;by_cases e:j=n
     . subst e;rw[iI];exact(D.turns t (fun i e B=>by omega)).mono (fun i _ e=>nI e)
     . rw[upd_ne _ _ e];exact a (.rq j) (by intro h;cases h) (by omega)
   | fl j =>
     refine⟨fun u=>?_,trivial⟩;by_cases e:j=n
     . subst e;rw[iI];exact nN.nil _ _
     . rw[upd_ne _ _ e];exact(a (.fl j) (by intro h;cases h)).1 (by omega)
   | bd j =>
     intro u;by_cases e:j=n
     . subst e;rw[iI];exact gK.nil _ _ _
     . rw[upd_ne _ _ e];exact a (.bd j) (by intro h;cases h) (by omega)
   | ret=>trivial
   | out=>trivial
 . by_cases e:j=n
   . subst e;rw[iI,iI]
   . rw[upd_ne _ _ e,upd_ne _ _ e];exact G j (by omega)
 . rcases aT i wr.heap.size with C | C
   . rw[iq C] at m;exact y i m
   . exact R (by omega)
 . rcases y i (by rw[e,(b .row).2];intro h;cases h) with h | h
   . exact h
   . omega
theorem zN.done {wr:X}(h:zN S w g gs s 4 wr):jf wr (gB S w) g gs s (fun _=>Gt.yR)∧Turns S w wr:=by
 obtain⟨⟨e,v,x,f,b,i⟩,l⟩:=h;refine⟨⟨e,x,fun d=>?_,i⟩,l⟩;have a:=f d;cases d with
 | row =>
   refine⟨⟨?_,fun k m=>rfl⟩,a.2⟩;have:=a.1.row;unfold Qn at this ⊢;rw[b 0 (by omega),b 1 (by omega),b 2 (by omega),b 3 (by omega)] at this;exact this
 | iX=>exact a
 | rq j=>exact a
 | fl j=>exact a
 | bd j=>exact a
 | ret=>trivial
 | out=>trivial
theorem EI (h:zN S w g gs s 0 w):
 Calls prog 35 #[Q (M ⟨g,0,U⟩)] w fun e w'=>e=Y (.tuple #[])∧jf w' (gB S w) g gs s (fun _=>Gt.yR)∧Turns S w w':=by
 go_enter func35,ntmps35;go_wp2;go_loopw [3] (fun l wr=>∃i:Nat,i<=4∧l=I J i∧zN S w g gs s i wr) (fun l _=>4-(intOf l).toNat)
 case atStart=>exact⟨0,aA _,rfl,h⟩
 case round =>
  obtain⟨i,hi,rfl,n⟩:=hrel;by_cases b:i<4
  . have p:(i:Int)<4:=by omega
    have t:(0:Int)<=(i:Int):=by omega
    have y:zN S w g gs s i wr.drew:=by
     obtain⟨⟨z,v,x,B,d,C⟩,D⟩:=n;exact⟨⟨z,v,x,B.stay (lI (fun _=>kE.kC) kE.kC) (gy _ _),d,C⟩,D.trans (Turns.drewN (fun _=>False) wr 1) (fun _ e _=>e.elim)⟩
    go_upto_region 3 with fail
    go_region_law ((go_simp;go_at_call 39;refine((fun W=>Bu W) _).mono ?_;rintro e G ⟨q,rfl,r,f⟩;obtain⟨v,a,k⟩:=y.step r f;obtain⟨H,L,N,T,a4,a5,a6,d⟩:=Go.Proofs.YthhklgjjnaeaoaaGreatDoor.seven (a.seven i b);have c0:G.cell? ⟨g,1+i*7,U⟩=M H:=a.at_ b (j:=0) (by decide) (by rw[d];rfl);have c1:=a.at_ b (j:=1) (by decide) (u:=L) (by rw[d];rfl);have c2:=a.at_ b (j:=2) (by decide) (u:=N) (by rw[d];rfl);have c3:=a.at_ b (j:=3) (by decide) (u:=T) (by rw[d];rfl);have c4:=a.at_ b (j:=4) (by decide) (u:=a4) (by rw[d];rfl);have c5:=a.at_ b (j:=5) (by decide) (u:=a5) (by rw[d];rfl);have c6:=a.at_ b (j:=6) (by decide) (u:=a6) (by rw[d];rfl);have fz:=fun j=>a.fz j;have pO:=H9 (k _ (a.Z0 b (Q (M ⟨q,0,U⟩)) (V ⟨#[]⟩) (V ⟨#[]⟩) (I J 0) (Z U 0 0) (I J 0) (Z U 0 0)).1 (a.Z0 b (Q (M ⟨q,0,U⟩)) (V ⟨#[]⟩) (V ⟨#[]⟩) (I J 0) (Z U 0 0) (I J 0) (Z U 0 0)).2);clear r f k d))
    all_goals
     go_wp2;go_roundw
     case rel=>exact⟨i+1,by omega,by go_num,pO.o⟩
     case measure=>simp[intOf];omega
  . obtain rfl:i=4:=by omega
    have m:=n.done;go_wp2;go_end0
    exact⟨rfl,m⟩
end
section
variable {w w':X} {S S':Nat->Prop} {g gs:Nat} {s s':Sr.Sh} {c:Nat->Gt.Cn}
theorem jf.ask (h:jf w S g gs s c):∃a:Nat->Prop,gX w a gs s∧(∀k,a k->S k)∧w.cell? ⟨g,0,U⟩=M (Q (M ⟨gs,0,U⟩))∧∀s' w',gX w' (gB a w) gs s'->Turns a w w'->jf w' (gB S w) g gs s' c:=by
 obtain⟨i,x,b,j⟩:=h;refine⟨fun k=>i k=.iX,b .iX,fun k e=>j k (by rw[e];intro q;cases q),(b .row).1.store,fun s' w' m n=>⟨iC i w.heap.size .iX,x,?_,fun k l=>?_⟩⟩
 . exact b.act (lI (fun _=>kE.kC) kE.kC) n (fun _ e=>e) (X':=Cv g gs s' (xW c x) 4 c x KI zQ) (lI (fun _=>kE.kC) kE.kC .iX) m (fun _ e=>e) (fun d o=>by cases d <;> first | rfl | exact absurd rfl o)
 . rcases aT k w.heap.size with f | f
   . rw[iq f] at l;exact A (j k l)
   . exact R f
theorem zN.Z4 (h:jf w S g gs s c):zN S w g gs s 0 w:=by
 obtain⟨f,x,i,l⟩:=h;refine⟨⟨f,xW c x,x,fun d=>?_,fun k b=>absurd b (bX k),fun k b=>A (l k b)⟩,Turns.refl _ _⟩;have e:=i d;cases d with
 | row=>exact e
 | iX=>exact e
 | rq j=>exact fun a=>absurd a (bX j)
 | fl j=>exact⟨fun a=>absurd a (bX j),trivial⟩
 | bd j=>exact fun a=>absurd a (bX j)
 | ret=>trivial
 | out=>trivial
end
inductive XP
 | row
 | gate
 | tr
 | out
def poC (g:Nat)(io:ak)(ni gM:Nat):Obj:=K #[Q (M ⟨g,0,U⟩),Z io ni gM] 78 (0,0)
def poX (p g gs:Nat)(o:Obj)(P:Pt.P)(io:ak)(gM:Nat):XP->Ob
 | .row=>wz p o
 | .gate=>fun w S=>jf w S g gs P.s P.c
 | .tr=>Ov io gM P.tr
 | .out=>fun _ _=>True
theorem rQ {p g gs:Nat}{o:Obj}{P:Pt.P}{b:ak}{c:Nat}:∀d,kE (poX p g gs o P b c d)
 | .row=>wz.law _ _
 | .gate=>⟨fun h e a=>jf.turns h e a,fun h a=>jf.mono h a⟩
 | .tr=>Ov.law _ _ _
 | .out=>kE.kC
def gI (w:X)(S:Nat->Prop)(p g gs:Nat)(P:Pt.P):Prop:=∃κ io gM,Held (poX p g gs (poC g io P.tr.length gM) P io gM) κ w∧∀k,κ k≠.out->S k
section
variable {w w':X} {S S':Nat->Prop} {p g gs:Nat} {P:Pt.P}
theorem gI.turns (h:gI w S p g gs P)(c:Turns S' w w')(f:∀k,S k->¬S' k):gI w' S p g gs P:=by
 obtain⟨i,j,l,m,a⟩:=h;refine⟨i,j,l,fun d=>?_,a⟩;by_cases b:d=.out
 . subst b;exact trivial
 . exact(rQ d).turns (m d) c (fun k e=>f k (a k (by rw[e];exact b)))
theorem gI.stay (h:gI w S p g gs P)(a:Below w.heap.size w w'):gI w' S p g gs P:=h.turns (Turns.of_below (S:=fun _=>False) a) (fun _ _ e=>e)
theorem gI.mono (h:gI w S p g gs P)(c:∀k,k<w.heap.size->S k->S' k):gI w S' p g gs P:=by
 obtain⟨f,i,j,l,m⟩:=h;refine⟨iC f w.heap.size .out,i,j,fun d=>?_,fun k a=>?_⟩
 . by_cases n:d=.out
   . subst n;exact trivial
   . exact(rQ d).mono (l d) (fun k a e=>(iq a).trans e)
 . rcases aT k w.heap.size with b | b
   . rw[iq b] at a;exact c k b (m k a)
   . exact absurd (nI b) a
theorem po_new {κ:Nat->XP}{d:XP}(c:∀k,κ k≠.out->S k):∀k,iC κ w.heap.size d k≠.out->gB S w k:=fun k b=>by
 rcases aT k w.heap.size with a | a
 . rw[iq a] at b;exact A (c k b)
 . exact R a
theorem gI.ask (h:gI w S p g gs P):∃a:Nat->Prop,jf w a g gs P.s P.c∧(∀k,a k->S k)∧w.cell? ⟨p,0,U⟩=M (Q (M ⟨g,0,U⟩))∧∀b f w',jf w' (gB a w) g gs b f->Turns a w w'->gI w' (gB S w) p g gs ⟨b,f,P.tr⟩:=by
 obtain⟨m,i,j,l,n⟩:=h;refine⟨fun k=>m k=.gate,l .gate,fun k e=>n k (by rw[e];intro q;cases q),eZ w p 0 _ _ _ (l .row).1,fun b f w' o r=>⟨iC m w.heap.size .gate,i,j,?_,po_new n⟩⟩;exact l.act rQ r (fun _ e=>e) (X':=poX p g gs (poC g i P.tr.length j) ⟨b,f,P.tr⟩ i j) (rQ .gate) o (fun _ e=>e) (fun d t=>by cases d <;> first | rfl | exact absurd rfl t)
theorem gI.trail (h:gI w S p g gs P):∃f u,gH w 0 3 1 f u P.tr.length (qW P.tr)∧w.cell? ⟨p,1,U⟩=M (Z f P.tr.length u)∧w.frozen? ⟨p,1,U⟩=F∧S p∧(∀k,fV f=M k->S k) ∧
 ∀l m i w', gH w' 0 3 1 l m (P.tr.length + 1) (qW P.tr ++ [I J i]) -> w.grownBy w' (fV f) -> (∀j, fV l = M j -> fV f = M j ∨ w.heap.size <= j) ->
   (w'.cell? ⟨p,1,U⟩=M (Z f P.tr.length u)∧w'.frozen? ⟨p,1,U⟩=F)∧gI (w'.setCell ⟨p,1,U⟩ (Z l (P.tr.length+1) m)) (gB S w) p g gs ⟨P.s,P.c,P.tr++[i]⟩∧Turns S w (w'.setCell ⟨p,1,U⟩ (Z l (P.tr.length+1) m)):=by
 obtain⟨v,f,u,B,y⟩:=h;have x:=B .row;have r:∀k,fV f=M k->v k=.tr:=fun k e=>by
  cases f with
  | none=>cases e
  | some a=>injection e with e;rw[<-e];exact(B .tr).2 a rfl
 have C:∀{a b:XP} {k:Nat},v k=a->v k=b->a=b:=fun e e2=>e.symm.trans e2;refine⟨f,u,(B .tr).1,eZ w p 1 _ _ _ x.1,fq w p 1 _ _ x.1,y p (by rw[x.2];intro q;cases q),fun k e=>y k (by rw[r k e];intro q;cases q),fun l m i w' hO hG D=>?_⟩;have n:Turns (fun k=>v k=.tr) w w':=Turns.iL (S:=fun k=>v k=.tr) hG r;have t:=n.row x.1 (fun e=>by have:=C x.2 e;cases this);have hz:=n.size;have T:Turns (fun k=>k=p) w' (w'.setCell ⟨p,1,U⟩ (Z l (P.tr.length+1) m)):=Turns.setCell (fun k=>k=p) w' _ _ rfl;have G:=fu w' p 1 _ _ (Z l (P.tr.length+1) m) t;have o:(P.tr++[i]).length=P.tr.length+1:=by simp
 have z:qW (P.tr++[i])=qW P.tr++[I J i]:=by simp[qW]
 refine⟨⟨eZ w' p 1 _ _ _ t,fq w' p 1 _ _ t⟩,?_,(n.mono (fun k e=>y k (by rw[e];intro q;cases q))).trans T (fun k e _=>by rw[e];exact y p (by rw[x.2];intro q;cases q))⟩;have H:Held (poX p g gs (poC g f P.tr.length u) ⟨P.s,P.c,P.tr++[i]⟩ l m) (iC v w.heap.size .tr) w' :=
  B.act rQ n (fun _ e=>e) (rQ .tr) (N:=fun k=>fV f=M k∨w.heap.size<=k) (by
   refine⟨?_,fun a e=>D a.block (by rw[e];rfl)⟩;show gH w' 0 3 1 l m (P.tr++[i]).length (qW (P.tr++[i]));rw[o,z];exact hO) (fun k e=>by
   rcases e with e | e
   . exact A (r k e)
   . exact R e) (fun d L=>by cases d <;> first | rfl | exact absurd rfl L)
 have h2:=H.act rQ T (c:=.row) (fun k e=>by rw[e];exact(H .row).2) (X':=poX p g gs (poC g l (P.tr++[i]).length m) ⟨P.s,P.c,P.tr++[i]⟩ l m) (rQ .row) (N:=fun k=>k=p) (by
  refine⟨?_,rfl⟩;rw[o];exact G) (fun k e=>A (by rw[e];exact(H .row).2)) (fun d L=>by cases d <;> first | rfl | exact absurd rfl L)
 refine⟨_,l,m,h2,fun k W=>?_⟩;rcases aT k w'.heap.size with hl | hl
 . rw[iq hl] at W;exact po_new (w:=w) y k W
 . exact R (by omega)
theorem gI.lt (h:gI w S p g gs P):p<w.heap.size:=by
 obtain⟨b,c,d,a,e⟩:=h;exact(aL.1 (a .row).1).1
end
section
variable {w w':X} {S:Nat->Prop} {p g gs:Nat} {P:Pt.P}
theorem gI.iX (h:gI w S p g gs P):∃B:Nat->Prop,gX w B gs P.s∧(∀k,B k->S k)∧(w.cell? ⟨p,0,U⟩=M (Q (M ⟨g,0,U⟩))∧w.cell? ⟨g,0,U⟩=M (Q (M ⟨gs,0,U⟩)))∧∀a w',gX w' (gB B w) gs a->Turns B w w'->gI w' (gB S w) p g gs ⟨a,P.c,P.tr⟩:=by
 obtain⟨r,j,l,m,n⟩:=h.ask;obtain⟨B,o,f,b,d⟩:=j.ask;exact⟨B,o,fun k e=>l k (f k e),⟨m,b⟩,fun a w' q i=>n a P.c w' (d a w' q i) (i.mono f)⟩
structure xK (S:Nat->Prop)(w:X)(p g gs:Nat)(P:Pt.P)(w':X):Prop where
 at_:gI w' (gB S w) p g gs P
 turns:Turns S w w'
theorem gI.begins (h:gI w S p g gs P)(ok:Sr.Ok P.s)(a:Int):Calls prog 100 #[Q (M ⟨gs,0,U⟩),I J a] w fun e w'=>e=Y (I J ((Sr.begins P.s a).2:Int))∧xK S w p g gs ⟨(Sr.begins P.s a).1,P.c,P.tr⟩ w':=by
 obtain⟨B,b,f,_,i⟩:=h.iX;exact(Li b ok a).mono fun e w' d=>⟨d.ret,i _ _ d.at_ d.turns,d.turns.mono f⟩
theorem gI.ends (h:gI w S p g gs P)(ok:Sr.Ok P.s)(a:Int):Calls prog 103 #[Q (M ⟨gs,0,U⟩),I J a] w fun e w'=>e=Y (I J ((Sr.ends P.s a).2:Int))∧xK S w p g gs ⟨(Sr.ends P.s a).1,P.c,P.tr⟩ w':=by
 obtain⟨B,b,f,_,i⟩:=h.iX;exact(Ti b ok a).mono fun e w' d=>⟨d.ret,i _ _ d.at_ d.turns,d.turns.mono f⟩
theorem gI.sync (h:gI w S p g gs P):Calls prog 101 #[Q (M ⟨gs,0,U⟩)] w fun e w'=>e=Y (.tuple #[])∧xK S w p g gs ⟨Sr.sync P.s,P.c,P.tr⟩ w':=by
 obtain⟨B,b,d,_,f⟩:=h.iX;exact(nC b).mono fun e w' ⟨i,j,a⟩=>⟨i,f _ _ (j.mono fun k _ e=>A e) a,a.mono d⟩
theorem gI.cells (h:gI w S p g gs P):w.cell? ⟨p,0,U⟩=M (Q (M ⟨g,0,U⟩))∧w.cell? ⟨g,0,U⟩=M (Q (M ⟨gs,0,U⟩)):=by
 obtain⟨B,_,_,a,_⟩:=h.iX;exact a
def G7 (p g gs:Nat)(c:Nat->Gt.Cn)(tr:List Int):Wm:=fun w S _ s=>gI w S p g gs ⟨s,c,tr⟩
theorem tq {c:Nat->Gt.Cn}{tr:List Int}:zm (G7 p g gs c tr):=⟨fun h b a=>gI.turns h b a,fun h a=>gI.mono h a⟩
theorem iM.into {O O':Wm}{S' b:Nat->Prop}{W W':X}{bs:List Obj}{s d:Sr.Sh}(h:iM O S w g bs s S' W)(f:O' W' b g d)(j:∀k,b k->gB S' W k)(c:Turns S' W W'):iM O' S w g bs d b W':=by
 have l:=h.sz;refine⟨fun i m=>?_,f,fun k e=>?_,h.tu.trans c (fun k e n=>?_),dB l c.size⟩
 . refine(c.block _ (by omega) (fun e=>?_)).trans (h.bx i m);rcases h.ap _ e with a | a
   . omega
   . omega
 . rcases j k e with e | e
   . exact h.ap k e
   . exact R (by omega)
 . rcases h.ap k e with a | a
   . exact a
   . omega
theorem iM.trim {O:Wm}{S':Nat->Prop}{W:X}{bs:List Obj}{s:Sr.Sh}(L:zm O)(h:iM O S w g bs s S' W):iM O S w g bs s (fun k=>S' k∧k<W.heap.size) W:=⟨h.bx,L.mono h.sh (fun _ a e=>⟨e,a⟩),fun k e=>h.ap k e.1,h.tu,h.sz⟩
structure EJ (S:Nat->Prop)(w:X)(p g gs:Nat)(r:Pt.P×Pt.O)(e:Ending)(w':X):Prop where
 ret:∃(ao uo:ak) (jS an gQ un:Nat),e=Y (.agg #[I J (r.2.code:Int),Z ao an jS,Z uo un gQ])∧an=r.2.out.length∧un=r.2.up.length∧gN w' ao jS r.2.out∧gN w' uo gQ r.2.up∧∃Pd,gI w' Pd p g gs r.1∧(∀k,Pd k->gB S w k)∧(r.2.up≠[]->∀a,uo=M a->w.heap.size<=a.block∧¬Pd a.block)
 at_:gI w' (gB S w) p g gs r.1
 turns:Turns S w w'
def FC (x0 x1 x2:Value):Obj:=K #[x0,x1,x2] 70 (0,0)
theorem gN.QS {W d:X}{b:Nat}{ao:ak}{cap:Nat}{l:av}(o:W.heap[b]? = M (FC (I J 0) (Z U 0 0) (Z U 0 0)))(h:gN W ao cap l)(q:Turns (fun k=>k=b) W d):gN d ao cap l:=by
 by_cases i:l=[]
 . subst i;exact gN.empty d h
 . have j:=eu.2 i;obtain⟨m,r,rfl,_⟩:=h.lit j;refine h.turns q (fun a e=>?_);injection e with e;subst e;intro f;have f:m=b:=f;subst f;have c:=h.cell 0 j;rw[fQ,eZ W m _ _ _ _ o] at c;match r,c with
   | 0,c=>cases c
   | 1,c=>cases c
   | 2,c=>cases c
   | n+3,c=>simp at c
theorem iM.tells {c:Nat->Gt.Cn}{tr:List Int}{S':Nat->Prop}{W W':X}{bs:List Obj}{s:Sr.Sh}(h:iM (G7 p g gs c tr) S w 0 bs s S' W)(q:Below W.heap.size W W'){i:Nat}(j:bs[i]? = M (FC (I J 0) (Z U 0 0) (Z U 0 0))){b:Nat}(r:w.heap.size+i=b)(o:Pt.O){ci:Int}(t:(o.code:Int)=ci){ao uo:ak}{jS an gQ un:Nat}(u:an=o.out.length)(v:un=o.up.length)(x:gN W' ao jS o.out)(y:gN W' uo gQ o.up)(B:o.up≠[]->∀a,uo=M a->w.heap.size<=a.block∧¬S' a.block):
 (W'.cell? ⟨b,0,U⟩=M (I J 0)∧W'.cell? ⟨b,1,U⟩=M (Z U 0 0)∧W'.cell? ⟨b,2,U⟩=M (Z U 0 0)∧W'.frozen? ⟨b,0,U⟩=F∧W'.frozen? ⟨b,1,U⟩=F∧W'.frozen? ⟨b,2,U⟩=F) ∧
 Hid ((((W'.setCell ⟨b,0,U⟩ (I J ci)).setCell ⟨b,1,U⟩ (Z ao an jS)).setCell ⟨b,2,U⟩ (Z uo un gQ)).cell? ⟨b,0,U⟩=M (I J ci)∧(((W'.setCell ⟨b,0,U⟩ (I J ci)).setCell ⟨b,1,U⟩ (Z ao an jS)).setCell ⟨b,2,U⟩ (Z uo un gQ)).cell? ⟨b,1,U⟩=M (Z ao an jS)∧(((W'.setCell ⟨b,0,U⟩ (I J ci)).setCell ⟨b,1,U⟩ (Z ao an jS)).setCell ⟨b,2,U⟩ (Z uo un gQ)).cell? ⟨b,2,U⟩=M (Z uo un gQ)∧EJ S w p g gs (⟨s,c,tr⟩,o) (Y (.agg #[I J ci,Z ao an jS,Z uo un gQ])) (((W'.setCell ⟨b,0,U⟩ (I J ci)).setCell ⟨b,1,U⟩ (Z ao an jS)).setCell ⟨b,2,U⟩ (Z uo un gQ))):=by
 subst r;have d:=h.stay tq q;obtain⟨z,C⟩:=Ah (d.row i j) (I J ci) (Z ao an jS) (Z uo un gQ);have D:=(aQ.1 j).1;refine⟨z,?_⟩;obtain⟨G,H,L,l⟩:=C.o;generalize (((W'.setCell ⟨w.heap.size+i,0,U⟩ _).setCell ⟨w.heap.size+i,1,U⟩ _).setCell ⟨w.heap.size+i,2,U⟩ _)=N at *;have T:gI W' S' p g gs ⟨s,c,tr⟩:=d.sh;have f:gI N S' p g gs ⟨s,c,tr⟩:=T.turns l (fun k e e2=>by
  rcases d.ap k e with m | m
  . omega
  . omega)
 have n:∀k,S' k->gB S w k:=fun k e=>by
  rcases d.ap k e with m | m
  . exact A m.1
  . exact R (by omega)
 exact⟨G,H,L,⟨ao,uo,jS,an,gQ,un,by rw[<-t],u,v,x.QS (d.row i j) l,y.QS (d.row i j) l,S',f,n,B⟩,f.mono (fun k _ e=>n k e),(d.tu.mono (fun k e=>e.1)).trans l (fun k e hk=>by omega)⟩
end
theorem Ul (w:X)(m t:ay)(mi ln:Int)(l:au)(fo bo:ak)(fZ nf fU nb:Nat)(body:av)(b:ji w fo fZ nf (gG l))(c:l.length=nf)(d:nf<=1000000)(f:∀p∈l,p.1.size<=2000∧p.2.size<=2000)(g:m.size+t.size<=10000)(i:body.length=nb)(a:gN w bo fU body)(k:nb<=100000)(n:kD w):
 Calls prog 152 #[.agg #[V m,V t,I J mi,Z fo nf fZ,I J ln],Z bo nb fU] w fun e w'=>XQ w (Rq.Z5 m t l) body e w':=by
 by_cases j:Rq.uI (Ch.isToken m.data.toList) (Rq.isTarget t.data.toList) (m.data.toList.length+t.data.toList.length+10) nb nf (Fd.vals lW l).length (Fd.vals lX l).length (Fd.vals lV l).length=0
 . exact Ph w m t ⟨(Ch.iV 8 nb).toArray⟩ mi ln l fo bo fZ nf fU nb body b c d f g i a (fun W o=>pz nb (by omega) W (n.stay o)) rfl j
 . exact Md w m t mi ln l fo bo fZ nf fU nb body b c d f g i j
section
variable {w0 w w':X}
theorem Pk (u:Sp.Up)(n:Nat)(hid:u.id=(n:Int))(hn:n<1000000000){bo:ak}{fU nb:Nat}(t:gN w bo fU u.bytes)(hb:u.bytes.length=nb)(hnb:nb<=100000)(hz:u.note.size<=2000)(hP:kD w)(sz st:Int):
 Calls prog 102 #[.agg #[I J (n:Int),I J sz,V u.note,Z bo nb fU,I J st]] w fun e w'=>∃(ao:ak) (cap m:Nat),e=Y (Z ao m cap)∧m=(Pt.onward u).length∧gN w' ao cap (Pt.onward u)∧Below w.heap.size w w'∧∀a,ao=M a->w.heap.size<=a.block:=by
 have v:=(eY _ w).alloc (aM _) (K #[I J (n:Int),I J sz,V u.note,Z bo nb fU,I J st] 92);have x:=pz n hn _ (hP.stay v);obtain⟨d,hd⟩:∃d:ay,d=⟨(Ch.iV 8 n).toArray⟩:=⟨_,rfl⟩;have hdz:d.size<=9:=by
  rw[hd];show(Ch.iV 8 n).toArray.size<=9;rw[bK];exact(Ch.jm 8 n).1
 rw[<-hd] at x;have W:Pt.target u.id=Pt.VW++d:=by
  unfold Pt.target Tu.dec;rw[hid,Int.toNat_natCast,hd]
 have QK:Pt.head u=Rq.Z5 Tu.AL (Pt.VW++d) (Pt.xu u.note):=by unfold Pt.head;rw[W];rfl
 have UK:Hid (Pt.onward u=(Rq.text (Rq.Z5 ⟨#[80,79,83,84]⟩ ((⟨#[47,116,97,107,101,47]⟩:ay)++d) (Pt.xu u.note)) u.bytes).1):=by unfold Hid Pt.onward;rw[QK];rfl
 have hzt:((⟨#[47,116,97,107,101,47]⟩:ay)++d).size<=15:=by rw[bL];show 6+d.size<=_;omega
 have hz1:¬(9223372036854775807<6+d.size):=by omega
 clear QK W hd;go_enter func102,ntmps102;go_wp2_with fail
 refine x.mono ?_;rintro e b ⟨rfl,y⟩;have HR:=(y.block w.heap.size (by simp)).trans (eX w _);have x2:=eZ b _ 2 _ _ _ HR;have x3:=eZ b _ 3 _ _ _ HR;simp at x2 x3;have HB1:=H9 (then_ v y);obtain⟨tb,htb⟩:∃tb,(u.note.toList==[])=tb:=⟨_,rfl⟩;have HTb:Hid ((tb=true->u.note.size=0)∧(tb=F->¬u.note.size=0)):=by
  rw[<-htb,Lib.toList_data];have e:u.note.data.toList.length=u.note.size:=by rw[aO];rfl
  exact⟨fun h=>by rw[<-e,aS.1 h];rfl,fun h h2=>aR.1 h (dh (e.trans h2))⟩
 have s:=(aL.1 HR).1;have hA1:=(eY _ b).alloc (aM _) (K #[V ⟨#[72,111,115,116]⟩,V ⟨#[105,110,108,97,110,100]⟩] 131);have z:=then_ hA1 ((eY _ (b.alloc (K #[V ⟨#[72,111,115,116]⟩,V ⟨#[105,110,108,97,110,100]⟩] 131))).alloc (aM _) (K #[V ⟨#[80,79,83,84]⟩,V ((⟨#[47,116,97,107,101,47]⟩:ay)++d),I J 0,Z (M ⟨b.heap.size,0,U⟩) 1 1,I J 0] 82));have C:=H9 ((z.block w.heap.size s).trans HR);have p:=H9 (eX (b.alloc (K #[V ⟨#[72,111,115,116]⟩,V ⟨#[105,110,108,97,110,100]⟩] 131)) (K #[V ⟨#[80,79,83,84]⟩,V ((⟨#[47,116,97,107,101,47]⟩:ay)++d),I J 0,Z (M ⟨b.heap.size,0,U⟩) 1 1,I J 0] 82));have D:(b.alloc (K #[V ⟨#[72,111,115,116]⟩,V ⟨#[105,110,108,97,110,100]⟩] 131)).heap.size=b.heap.size+1:=fG ..;rw[D] at p;have HOf:Hid (gH ((b.alloc (K #[V ⟨#[72,111,115,116]⟩,V ⟨#[105,110,108,97,110,100]⟩] 131)).alloc (K #[V ⟨#[80,79,83,84]⟩,V ((⟨#[47,116,97,107,101,47]⟩:ay)++d),I J 0,Z (M ⟨b.heap.size,0,U⟩) 1 1,I J 0] 82)) b.heap.size 131 2 (M ⟨b.heap.size,0,U⟩) 1 1 (gG [(Pt.Dr,Pt.vIn)])):=by
  have h0:gH (b.alloc (K #[V ⟨#[72,111,115,116]⟩,V ⟨#[105,110,108,97,110,100]⟩] 131)) b.heap.size 131 2 (M ⟨b.heap.size,0,U⟩) 1 1 (gG [(Pt.Dr,Pt.vIn)]):=⟨rfl,.inr ⟨b.heap.size,1,_,rfl,aM _,eX b _,aM _,by decide,rfl,rfl⟩⟩;exact h0.alloc _
 have G:=H9 (then_ HB1.o z);have hs2:((b.alloc (K #[V ⟨#[72,111,115,116]⟩,V ⟨#[105,110,108,97,110,100]⟩] 131)).alloc (K #[V ⟨#[80,79,83,84]⟩,V ((⟨#[47,116,97,107,101,47]⟩:ay)++d),I J 0,Z (M ⟨b.heap.size,0,U⟩) 1 1,I J 0] 82)).heap.size=b.heap.size+2:=by rw[fG,D]
 have HS2:=H9 hs2;clear hs2;have hsz:w.heap.size<b.heap.size:=s;obtain⟨i0,hi0,hq0,hq1,hq2⟩:=info_parts pq;have Hi:=H9 hi0;have kY:=H9 hq0;have kT:=H9 hq1;have kZ:=H9 hq2
 have H:Hid (nb=u.bytes.length∧nb<=100000∧gN w bo fU u.bytes):=⟨hb.symm,hnb,t⟩;have JC:=H9 hP;clear hA1 z hi0 hq0 hq1 hq2 x2 x3 x y D HR t hb hP v HB1;go_upto_region 2 with fail
 generalize ((⟨#[47,116,97,107,101,47]⟩:ay)++d)=tg at *;generalize ((b.alloc (K #[V ⟨#[72,111,115,116]⟩,V ⟨#[105,110,108,97,110,100]⟩] 131)).alloc (K #[V ⟨#[80,79,83,84]⟩,V tg,I J 0,Z (M ⟨b.heap.size,0,U⟩) 1 1,I J 0] 82))=L at *;have x2:=eZ L _ 2 _ _ _ C.o;simp at x2;have h3:=eZ L _ 3 _ _ _ p.o;simp at h3;have hf3:=fq L _ 3 _ _ p.o;generalize b.heap.size=f at *;go_upto_if 15 with fail
 go_cut [] (fun wd=>∃(fo:ak) (fc nf:Nat),wd.heap[f+1]? = M (K #[V ⟨#[80,79,83,84]⟩,V tg,I J 0,Z fo nf fc,I J 0] 82 (0,0))∧nf=(Pt.xu u.note).length∧ji wd fo fc nf (gG (Pt.xu u.note))∧Below w.heap.size w wd∧wd.heap[w.heap.size]? = M (K #[I J (n:Int),I J sz,V u.note,Z bo nb fU,I J st] 92 (0,0)))
 case first =>
  cases tb
  case true =>
   have r:=HTb.o.1 rfl;have Ja:Hid (Pt.xu u.note=[(Pt.Dr,Pt.vIn)]):=by unfold Hid Pt.xu;rw[if_pos r]
   clear r;go_wp2;go_meet;exact⟨M ⟨f,0,U⟩,1,1,p.o,by rw[Ja.o];rfl,by rw[Ja.o];exact HOf.o.qE,G.o,C.o⟩
  case false =>
   have r:=HTb.o.2 rfl;have Ja:Hid (Pt.xu u.note=[(Pt.Dr,Pt.vIn)]++[(Tu.FX,u.note)]):=by unfold Hid Pt.xu;rw[if_neg r];rfl
   have EW:Hid (Below L.heap.size L (L.alloc (K #[V ⟨#[85,112,108,111,97,100,45,77,101,116,97,100,97,116,97]⟩,V u.note] 131))):=(eY _ _).alloc (aM _) _;have xV:=H9 (HOf.o.stay EW.o);have pO:Hid (∀g j l,(L.alloc (K #[V ⟨#[85,112,108,111,97,100,45,77,101,116,97,100,97,116,97]⟩,V u.note] 131)).grownBy g (M f)->gH g f 131 2 j l 2 (gG [(Pt.Dr,Pt.vIn)]++[V Tu.FX,V u.note])->(g.cell? ⟨f+1,3,U⟩=M (Z (M ⟨f,0,U⟩) 1 1)∧g.frozen? ⟨f+1,3,U⟩=F)∧((g.setCell ⟨f+1,3,U⟩ (Z j 2 l)).heap[f+1]? = M (K #[V ⟨#[80,79,83,84]⟩,V tg,I J 0,Z j 2 l,I J 0] 82 (0,0))∧ji (g.setCell ⟨f+1,3,U⟩ (Z j 2 l)) j l 2 (gG ([(Pt.Dr,Pt.vIn)]++[(Tu.FX,u.note)]))∧Below w.heap.size w (g.setCell ⟨f+1,3,U⟩ (Z j 2 l))∧(g.setCell ⟨f+1,3,U⟩ (Z j 2 l)).heap[w.heap.size]? = M (K #[I J (n:Int),I J sz,V u.note,Z bo nb fU,I J st] 92 (0,0)))):=fun g j l hG hO=>by
    have T:=(Turns.of_below (S:=fun k=>k=f) EW.o).trans (Turns.iL hG (fun k e=>by injection e with e;exact e.symm)) (fun _ e _=>e);have r4:=T.row p.o (by omega);have u4:=T.row C.o (by omega);have wm:Turns (fun k=>k=f+1) g (g.setCell ⟨f+1,3,U⟩ (Z j 2 l)):=Turns.setCell (fun k=>k=f+1) g _ _ rfl;have hne:=kP r4 hO (by decide);rw[gD] at hne;have vX:=hO.turns wm (fun a e e2=>hne (by rw[e];show M a.block=_;rw[e2]));have hB4:=(G.o.trans (T.below (B:=w.heap.size) (fun k e=>by omega) G.o.size));refine⟨⟨eZ g _ 3 _ _ _ r4,fq g _ 3 _ _ r4⟩,fu g _ 3 _ _ _ r4,vX.qE,hB4.trans (wm.below (B:=w.heap.size) (fun k e=>by omega) hB4.size),wm.row u4 (by omega)⟩
   clear r;go_wp2_with (at_builtin;go_loud (refine gP rfl (.tmp 17) (.tmp 21) 80 rfl f 131 i0 (.agg #[V ⟨#[]⟩,V ⟨#[]⟩]) 2 32 underlying80 Hi.o kY.o kT.o kZ.o rfl (by decide) rfl xV.o rfl (ji.made _ _ 1 _ _) rfl (IG _ _) (by decide) (by decide) (by rw[fG];have:=HS2.o;omega) ?_;intro j l g hO4 hG4 TH;obtain⟨⟨e3,ef3⟩,hst⟩:=pO.o g j l hG4 hO4;have JB:=H9 hst;clear hO4 hG4 TH hst))
   go_meet;exact⟨j,l,2,JB.o.1,by rw[Ja.o];rfl,by rw[Ja.o];exact JB.o.2.1,JB.o.2.2.1,JB.o.2.2.2⟩
 case rest =>
  obtain⟨fo,fc,nf,i,hnf,hV,t,hru⟩:=hcut;have b0:=eZ wc _ 0 _ _ _ i;have b1:=eZ wc _ 1 _ _ _ i;have b2:=eZ wc _ 2 _ _ _ i;have b3:=eZ wc _ 3 _ _ _ i;have b4:=eZ wc _ 4 _ _ _ i;have x3:=eZ wc _ 3 _ _ _ hru;simp at b0 b1 b2 b3 b4 x3;have mO:(Pt.xu u.note).length<=2:=by unfold Pt.xu;split <;> simp
  have HWr:=Ul wc ⟨#[80,79,83,84]⟩ tg 0 0 (Pt.xu u.note) fo bo fc nf fU nb u.bytes hV hnf.symm (by omega) (fun q hq=>by
   unfold Pt.xu at hq;rcases dZ.1 hq with e | e
   . subst e;exact⟨by decide,by decide⟩
   . split at e
     . cases e
     . rw[bA.1 e];exact⟨show Tu.FX.size<=2000 by decide,hz⟩) (by show 4+tg.size<=_;omega) H.o.1.symm (H.o.2.2.stay t) H.o.2.1 (JC.o.stay t)
  have Gn:=H9 t;clear hV t hru i hnf mO;go_wp2_with fail
  refine HWr.mono ?_;intro e w5 hw;have HFin:∃(ao:ak) (cap k cd:Nat),e=Y (.tuple #[Z ao k cap,I J (cd:Int)])∧k=(Pt.onward u).length∧gN w5 ao cap (Pt.onward u)∧Below w.heap.size w w5∧∀a,ao=M a->w.heap.size<=a.block:=by
   cases hw with
   | bad c hc he ht N=>exact⟨U,0,0,c,he,by rw[UK.o,ht];rfl,by rw[UK.o,ht];exact gN.nil _,then_ Gn.o N,fun a e=>by cases e⟩
   | ok gb cap k he hk ht hO N=>exact⟨M ⟨gb,0,U⟩,cap,k,0,he,by rw[UK.o];exact hk,by rw[UK.o];exact hO.tQ,then_ Gn.o N,fun a e=>by injection e with e;subst e;exact dB Gn.o.size hO.rD⟩
  obtain⟨ao,cap,k,cd,rfl,T⟩:=HFin;have HT:=H9 T;clear hw T;go_wp2;go_ret;exact⟨ao,cap,k,rfl,HT.o⟩
end
section
variable {w0 w w':X} {S:Nat->Prop} {p g gs:Nat} {P:Pt.P}
def z3:Obj:=FC (I J 0) (Z U 0 0) (Z U 0 0)
theorem aaX (h:gI w S p g gs P):iM (G7 p g gs P.c P.tr) S w 0 [z3] P.s (fun k=>S k∧k<w.heap.size) (w.alloc (K #[I J 0,Z U 0 0,Z U 0 0] 70)) :=
 (iM.start tq (s:=P.s) h).box tq rfl (fun _ e=>e.2) _
theorem Um (h:gI w S p g gs P)(ok:Sr.Ok P.s)(a:Int):
 Calls prog 60 #[Q (M ⟨p,0,U⟩),I J a] w fun e w'=>EJ S w p g gs (Pt.stepT P a) e w':=by
 obtain⟨f,j⟩:∃f,f=Pt.stepT P a:=⟨_,rfl⟩;rw[<-j];unfold Pt.stepT at j;have u:=aaX h;obtain⟨N,x1⟩:=gI.cells u.sh;have k:=gI.ends u.sh ok a;have d:(Sr.ends P.s a).2≠0->(Sr.ends P.s a).1=P.s:=Tu.lN;generalize Sr.ends P.s a=r at *;obtain⟨s2,l⟩:=r;simp only at j k d;have n:=H9 j;have T:=H9 d
 clear j d;go_enter func60,ntmps60;go_wp2_with fail
 refine k.mono ?_;rintro e W ⟨rfl,G⟩;have t:=u.did (O:=G7 p g gs P.c P.tr) G.at_ G.turns;obtain⟨H,L⟩:=gI.cells t.sh;clear N x1;by_cases x:l=0
 . subst x;rw[if_neg (by simp)] at n;have IE:=gI.sync t.sh;go_wp2_with fail
   refine IE.mono ?_;rintro e w3 ⟨rfl,m⟩;have T3:=t.did (O:=G7 p g gs P.c P.tr) m.at_ m.turns;obtain⟨⟨z0,z1,z2,f0,f1,f2⟩,y⟩:=T3.tells (eY _ _) (i:=0) rfl (b:=w.heap.size) rfl ⟨0,[],[]⟩ (ci:=0) rfl (ao:=U) (uo:=U) (jS:=0) (gQ:=0) rfl rfl (gN.nil _) (gN.nil _) (fun q=>absurd rfl q);clear H L;go_wp2;generalize (((w3.setCell ⟨w.heap.size,0,U⟩ _).setCell ⟨w.heap.size,1,U⟩ _).setCell ⟨w.heap.size,2,U⟩ _)=wf at *;obtain⟨z,B,C,D⟩:=y.o;refine fI (v:=.agg #[I J 0,Z U 0 0,Z U 0 0]) (by simp[results,results60,go_sem,z,B,C]) rfl ?_;rw[n.o];exact D
 . rw[if_pos (by simpa using x)] at n;have e:=T.o x;subst e;have tc:((l:Int)==0)=F:=aR.2 (by omega);obtain⟨⟨z0,z1,z2,f0,f1,f2⟩,y⟩:=t.tells (eY _ _) (i:=0) rfl (b:=w.heap.size) rfl ⟨l,[],[]⟩ (ci:=(l:Int)) rfl (ao:=U) (uo:=U) (jS:=0) (gQ:=0) rfl rfl (gN.nil _) (gN.nil _) (fun q=>absurd rfl q);clear H L;go_wp2;generalize (((W.setCell ⟨w.heap.size,0,U⟩ _).setCell ⟨w.heap.size,1,U⟩ _).setCell ⟨w.heap.size,2,U⟩ _)=wf at *;obtain⟨z,B,C,D⟩:=y.o;refine fI (v:=.agg #[I J (l:Int),Z U 0 0,Z U 0 0]) (by simp[results,results60,go_sem,z,B,C]) rfl ?_;rw[n.o];exact D
theorem XT (hP:kD w0)(hW:Below w0.heap.size w0 w)(hF:∀i,S i->w0.heap.size<=i)(h:gI w S p g gs P)(ok:Sr.Ok P.s)(htr:P.tr.length<=1000000)(d:Int):
 Calls prog 59 #[Q (M ⟨p,0,U⟩),I J d] w fun e w'=>EJ S w p g gs (Pt.Gg P d) e w':=by
 obtain⟨W,hR⟩:∃W,W=Pt.Gg P d:=⟨_,rfl⟩;rw[<-hR];unfold Pt.Gg at hR;have T1:=aaX h;obtain⟨x0,x1⟩:=gI.cells T1.sh;have z:=gI.begins T1.sh ok d;have C:(Sr.begins P.s d).2≠0->(Sr.begins P.s d).1=P.s:=Tu.lN;have D:(Sr.begins P.s d).2=0->∃i u,Sp.place (Sr.begins P.s d).1.h.l d=M i∧(Sr.begins P.s d).1.h.l[i]? = M { u with sent:=1 }∧Pt.Il (Sr.begins P.s d).1.h d=Pt.onward u∧u.id=d∧1<=d∧d<=100000∧u.note.size<=100∧u.bytes.length<=2000:=fun h0=>by
  obtain⟨i,u,hp,t,m,_,_,he⟩:=Pt.Pn h0;obtain⟨h1,h2,h3⟩:=Pt.Z6 hp t he;have hk:=ok.h.all u (dH t);have:=hk.low;have:=hk.high;have:=ok.FR
  exact⟨i,u,h1,h2,h3,m,by omega,by omega,hk.note,hk.long⟩
 have I5:=H9 (ok.begins d);generalize Sr.begins P.s d=r at *;obtain⟨s2,c2⟩:=r;simp only at hR z C D I5;have HR:=H9 hR;have Jg:=H9 C;have HYs:=H9 D
 have HP:=H9 hP;have HW:=H9 hW;have HF:=H9 hF
 clear hR C D hP hW hF;go_enter func59,ntmps59;go_wp2_with fail
 refine z.mono ?_;rintro e w2 ⟨rfl,hd⟩;have T2:=T1.did (O:=G7 p g gs P.c P.tr) hd.at_ hd.turns;obtain⟨y0,y1⟩:=gI.cells T2.sh;clear x0 x1;by_cases h0:c2=0
 . subst h0;rw[if_neg (by simp)] at HR;obtain⟨i,u,hp,t,hsu,m,hlo,hhi,hnz,hbz⟩:=HYs.o rfl;rw[hsu] at HR;have IE:=gI.sync T2.sh;have HPl:=H9 hp;have HUi:=H9 t;have HId:=H9 m;have HNz:=H9 hnz;have HBz:=H9 hbz
   obtain⟨n,rfl⟩:∃n:Nat,d=n:=⟨d.toNat,by omega⟩;clear hsu hp t m hnz hbz HYs Jg;go_wp2_with fail
   refine IE.mono ?_;rintro e w3 ⟨rfl,G⟩;have T3:=T2.did (O:=G7 p g gs P.c P.tr) G.at_ G.turns;have H:=(eY _ w3).alloc (aM _) (K #[I J (n:Int)] 3);have T4:=T3.stay tq H;have hpl:=gI.lt T3.sh;obtain⟨io,gM,hO,hc1,hf1,_,_,hK⟩:=gI.trail T4.sh;have c3:w3.cell? ⟨p,1,U⟩=M (Z io P.tr.length gM):=((H.cell (p:=⟨p,1,U⟩) hpl).symm).trans hc1;have HO:Hid (gH (w3.alloc (K #[I J (n:Int)] 3)) 0 3 1 io gM P.tr.length (qW P.tr)):=hO;obtain⟨i0,hi0,hq0,hq1,hq2⟩:=info_parts yV;have Hi:=H9 hi0;have kY:=H9 hq0;have kT:=H9 hq1;have kZ:=H9 hq2
   have pO:Hid (∀x L f,gH f 0 3 1 x L (P.tr.length+1) (qW P.tr++[I J (n:Int)])->(w3.alloc (K #[I J (n:Int)] 3)).grownBy f (fV io)->(∀j,fV x=M j->fV io=M j∨(w3.alloc (K #[I J (n:Int)] 3)).heap.size<=j) ->
    (f.cell? ⟨p,1,U⟩=M (Z io P.tr.length gM)∧f.frozen? ⟨p,1,U⟩=F)∧∃Pd,iM (G7 p g gs P.c (P.tr++[(n:Int)])) S w 0 [z3] (Sr.sync s2) Pd (f.setCell ⟨p,1,U⟩ (Z x (P.tr.length+1) L))):=fun x L f h1 h2 h3=>by
    obtain⟨k1,k2,k3⟩:=hK x L (n:Int) f h1 h2 h3;exact⟨k1,_,T4.into (O':=G7 p g gs P.c (P.tr++[(n:Int)])) k2 (fun _ e=>e) k3⟩
   clear y0 y1 hi0 hq0 hq1 hq2 hO hK T2 T1 T3 T4 H hc1 hf1 z IE hd G;generalize P.tr.length=tn at *;go_upto_region 5 with fail
   go_upto_region 6 with (at_builtin;go_loud (refine gP rfl (.tmp 33) (.tmp 35) 55 rfl 0 3 i0 (I J 0) 1 8 underlying55 Hi.o kY.o kT.o kZ.o rfl (by decide) rfl HO.o rfl (ji.made _ _ 1 _ _) rfl (fun u t=>by simp at t;rw[t];rfl) (by omega) (by omega) (aA _) ?_;intro x L f hO4 hG4 TH;obtain⟨⟨e1,ef1⟩,hA4⟩:=pO.o x L f hO4 hG4 (fun j e=>by rcases TH with q | q;exact A (q▸e);exact R (by rw[q] at e;injection e with e;omega));have Ww:=H9 hA4;clear hO4 hG4 TH hA4))
   clear e1 ef1 c3 HO pO hpl;obtain⟨A5,T5⟩:=Ww.o;clear Ww;generalize (f.setCell ⟨p,1,U⟩ (Z x (tn+1) L))=w5 at *;obtain⟨B,hSt,_,⟨y0,y1⟩,_⟩:=gI.iX T5.sh;obtain⟨gp,gl,lo,lca,Pp,hI⟩:=hSt;obtain⟨⟨y2,_⟩,_⟩:=kG hI.row;have N:=Sp.lg HPl.o;have y:s2.h.l[i]={ u with sent:=1 }:=by
    have:=HUi.o;rw[dz N] at this;injection this
   have Yw:=Al s2.h Pp gp (n:Int) i w5 hI.sQ I5.o.h HPl.o N;rw[y] at Yw;simp only[HId.o] at Yw;clear hI y N;have Tt:=H9 T5;clear T5;go_wp2_with fail
   refine Yw.mono ?_;rintro e w6 ⟨bo,fU,rfl,WE,hb6⟩;have T:=(eY _ w6).alloc (aM _) (K #[I J (n:Int),I J u.size,V u.note,Z bo u.bytes.length fU,I J 1] 92);have T7:=(Tt.o.stay tq hb6).stay tq T;have TJ:=H9 (WE.stay T);have hr7:=eX w6 (K #[I J (n:Int),I J u.size,V u.note,Z bo u.bytes.length fU,I J 1] 92);have hW7:Below w0.heap.size w0 (w6.alloc (K #[I J (n:Int),I J u.size,V u.note,Z bo u.bytes.length fU,I J 1] 92)):=HW.o.trans ((T7.tu.mono (S':=S) (fun k e=>e.1)).below (B:=w0.heap.size) (fun k e=>HF.o k e) HW.o.size);have HOn:=Pk (w:=w6.alloc (K #[I J (n:Int),I J u.size,V u.note,Z bo u.bytes.length fU,I J 1] 92)) u n HId.o (by omega) TJ.o rfl (by have:=HBz.o;omega) (by have:=HNz.o;omega) (HP.o.stay hW7) u.size 1;have OE:=H9 (T7.trim tq);have Qx:=H9 hr7
   clear T7 hr7 hW7 T WE hb6 Yw Tt y0 y1 y2;go_upto_region 7 with fail
   generalize (w6.alloc (K #[I J (n:Int),I J u.size,V u.note,Z bo u.bytes.length fU,I J 1] 92))=W7 at *;have b0:=eZ W7 _ 0 _ _ _ Qx.o;have b1:=eZ W7 _ 1 _ _ _ Qx.o;have b2:=eZ W7 _ 2 _ _ _ Qx.o;have b3:=eZ W7 _ 3 _ _ _ Qx.o;have b4:=eZ W7 _ 4 _ _ _ Qx.o;simp at b0 b1 b2 b3 b4;go_wp2_with fail
   refine HOn.mono ?_;rintro e w8 ⟨uo,gQ,un,rfl,hun,hU8,YA,hnw⟩;obtain⟨⟨z0,z1,z2,f0,f1,f2⟩,HE⟩:=OE.o.tells YA (i:=0) rfl (b:=w.heap.size) rfl ⟨0,[],Pt.onward u⟩ (ci:=0) rfl (ao:=U) (jS:=0) (an:=0) rfl hun (gN.nil _) hU8 (fun _ a e=>by have h1:=hnw a e;have h2:=OE.o.sz;exact⟨by omega,fun q=>by have:=q.2;omega⟩);clear b0 b1 b2 b3 b4 hun hU8 YA hnw;go_wp2;generalize (((w8.setCell ⟨w.heap.size,0,U⟩ _).setCell ⟨w.heap.size,1,U⟩ _).setCell ⟨w.heap.size,2,U⟩ _)=wf at *;obtain⟨q0,q1,q2,q3⟩:=HE.o;refine fI (v:=.agg #[I J 0,Z U 0 0,Z uo un gQ]) (by simp[results,results59,go_sem,q0,q1,q2]) rfl ?_;rw[HR.o];exact q3
 . rw[if_pos (by simpa using h0)] at HR;have e:=Jg.o h0;subst e;have tc:((c2:Int) != 0)=true:=cK.2 (by omega);obtain⟨⟨z0,z1,z2,f0,f1,f2⟩,HE⟩:=T2.tells (eY _ _) (i:=0) rfl (b:=w.heap.size) rfl ⟨c2,[],[]⟩ (ci:=(c2:Int)) rfl (ao:=U) (uo:=U) (jS:=0) (gQ:=0) rfl rfl (gN.nil _) (gN.nil _) (fun q=>absurd rfl q);clear y0 y1;go_wp2;generalize (((w2.setCell ⟨w.heap.size,0,U⟩ _).setCell ⟨w.heap.size,1,U⟩ _).setCell ⟨w.heap.size,2,U⟩ _)=wf at *;obtain⟨q0,q1,q2,q3⟩:=HE.o;refine fI (v:=.agg #[I J (c2:Int),Z U 0 0,Z U 0 0]) (by simp[results,results59,go_sem,q0,q1,q2]) rfl ?_;rw[HR.o];exact q3
end
section
variable {w0 w w1 wf wr:X} {S:Nat->Prop} {g gs:Nat} {s:Sr.Sh} {c:Nat->Gt.Cn} {κ:Nat->Ae} {x:Nat->Qm} {v:Nat->List Value} {k gp:Nat}
theorem jK.renew (h:jK w0 κ g gs s v c x KI zQ wr)(t:jq w1 (fun i=>wr.heap.size<=i) gp Rq.start)(o:Below wr.heap.size wr w1)(l:jU wf g gs (upd v k (UA Gt.yR (Mc gp))))(m:Turns (fun i=>i=g) w1 wf):
 jK w0 (iC κ wr.heap.size (.rq k)) g gs s (upd v k (UA Gt.yR (Mc gp))) (upd c k Gt.yR) (upd x k (Mc gp)) KI zQ wf:=by
 have b:=h.held;have n:=(b .row).1.lt;have p:=h.qy.size;have a:∀d,d≠.row->Cv g gs s v 4 c x KI zQ d wf (fun i=>iC κ wr.heap.size (.rq k) i=d):=fun d u=>by
  have L:kE (Cv g gs s v 4 c x KI zQ d):=lI (fun _=>kE.kC) kE.kC d;have y:=L.mono (b d) (S':=fun i=>κ i=d∧i<wr.heap.size) (fun i z e=>⟨e,z⟩);have C:=L.turns (L.turns y (Turns.of_below (S:=fun _=>False) o) (fun _ _ e=>e)) m (fun i e r=>u (by rw[<-e.1,r];exact(b .row).2));exact L.mono C (fun i _ e=>(iq e.2).trans e.1)
 refine⟨fun d=>?_,h.pow,h.qy.trans ((Turns.of_below o).trans m (fun i e _=>e) |>.below (B:=w0.heap.size) (fun i e=>by rw[e];exact h.far g (by rw[(b .row).2];intro q;cases q)) p),Jr h.far p⟩;cases d with
 | row=>exact⟨l,(iq n).trans (b .row).2⟩
 | iX=>exact a .iX (by intro q;cases q)
 | rq j =>
   intro f;by_cases e:j=k
   . subst e;rw[iI,iI];exact(t.turns m (fun i e r=>by omega)).mono (fun i _ e=>nI e)
   . rw[upd_ne _ _ e,upd_ne _ _ e];exact a (.rq j) (by intro q;cases q) f
 | fl j =>
   refine⟨fun f=>?_,trivial⟩;by_cases e:j=k
   . subst e;rw[iI,iI];exact nN.nil _ _
   . rw[upd_ne _ _ e,upd_ne _ _ e];exact(a (.fl j) (by intro q;cases q)).1 f
 | bd j =>
   intro f;by_cases e:j=k
   . subst e;rw[iI,iI];exact gK.nil _ _ _
   . rw[upd_ne _ _ e,upd_ne _ _ e];exact a (.bd j) (by intro q;cases q) f
 | ret=>trivial
 | out=>trivial
theorem Po {d:Ae}{n:Nat}(h:∀i,κ i≠.out->gB S w i)(e:w.heap.size<=n):∀i,iC κ n d i≠.out->gB S w i:=fun i a=>by
 rcases aT i n with b | b
 . rw[iq b] at a;exact h i a
 . exact R (by omega)
theorem jK.done (h:jK w0 κ g gs s (xW c x) c x KI zQ wr)(a:∀i,κ i≠.out->gB S w i):jf wr (gB S w) g gs s c:=⟨κ,x,h.held,a⟩
theorem Mh (j:Int)(b:j<0∨4<=j)(w:X):
 Calls prog 13 #[Q (M ⟨g,0,U⟩),I J j] w fun e w'=>e=Y (I J 1)∧w'=w:=by
 have a:=fun W=>uD j W;rw[show(decide (0<=j)&&decide (j<4))=F from by rcases b with h | h <;> simp <;> omega] at a;go_enter func13,ntmps13;go_wp2_with fail
 refine(a _).mono ?_;rintro e w1 ⟨rfl,d⟩;subst d;go_wp2;go_ret;exact⟨rfl,rfl⟩
structure QV (S:Nat->Prop)(w:X)(g gs:Nat)(c:Nat->Gt.Cn)(k:Nat)(s:Sr.Sh)(w':X):Prop where
 at_:jf w' (gB S w) g gs s (upd c k Gt.yR)
 turns:Turns S w w'
theorem Un (hP:kD w0)(hW:Below w0.heap.size w0 w)(hF:∀i,S i->w0.heap.size<=i)(h:jf w S g gs s c)(ok:Sr.Ok s)(k:Nat)(r:k<4)(hc:Gt.BP (c k))(hl:(c k).body.length<=20000):
 Calls prog 13 #[Q (M ⟨g,0,U⟩),I J (k:Int)] w fun e w'=>e=Y (I J 0)∧QV S w g gs c k (Gt.gone Tu.iQ s (c k)) w':=by
 have HI:=fun W=>uD (k:Int) W;rw[show(decide ((0:Int)<=(k:Int))&&decide ((k:Int)<4))=true from by simp;omega] at HI;obtain⟨κ,x,hH,hS⟩:=h;have hG0:jK w0 κ g gs s (xW c x) c x KI zQ w:=⟨hH,hP,hW,fun i e=>hF i (hS i e)⟩;have HS:=H9 hS;have N:∀k,kE (KI k):=fun _=>kE.kC;have T:kE zQ:=kE.kC;have HIp:=fun W=>KX ⟨(c k).hd.method.toArray⟩ ⟨(c k).hd.target.toArray⟩ ((c k).hd.minor:Int) (c k).hd.length (x k).fo (x k).bo (c k).hd.fields.length (x k).fZ (c k).body.length (x k).fU W (by show(c k).hd.target.toArray.size<=_;rw[bK];have:=hc.hd.target;omega);have HNc:=fun W=>Bu W;have k0:(0:Int)<=(k:Int):=by omega
 have k4:(k:Int)<4:=by omega
 have MF:=Ai hG0.XI r (rfl:xW c x k=[Q (M ⟨(x k).gp,0,U⟩),V ⟨(c k).hd.method.toArray⟩,V ⟨(c k).hd.target.toArray⟩,I J ((c k).hd.minor:Int),Z (x k).fo (c k).hd.fields.length (x k).fZ,I J (c k).hd.length,Z (x k).bo (c k).body.length (x k).fU]);obtain⟨y,hR⟩:∃y,y=Gt.gone Tu.iQ s (c k):=⟨_,rfl⟩;rw[<-hR];unfold Gt.gone at hR;obtain⟨bp,hbp⟩:∃b,(decide ((⟨(c k).hd.method.toArray⟩:ay)=Gt.Dj)&&Gt.yQ ⟨(c k).hd.target.toArray⟩)=b:=⟨_,rfl⟩;simp only[hbp] at HIp;have hpc:(Gt.txt (c k).hd.method=Gt.Dj∧Gt.yQ (Gt.txt (c k).hd.target)=true)<->bp=true:=by
  rw[<-hbp,cO,decide_eq_true_iff];rfl
 clear hbp;go_enter func13,ntmps13;go_wp2_with fail
 refine(HI _).mono ?_;rintro e w1 ⟨rfl,hw⟩;rw[hw];go_wp2_with fail
 refine MF.mono ?_;rintro e n ⟨rfl,hr2,jN⟩;have h2:=hG0.row N T hr2 jN;have hS2:=Po (d:=.row) (w:=w) (S:=S) (fun i e=>A (hS i e)) (aM _);have hbx:=(eY _ n).alloc (aM _) (K #[V ⟨(c k).hd.method.toArray⟩,V ⟨(c k).hd.target.toArray⟩,I J ((c k).hd.minor:Int),Z (x k).fo (c k).hd.fields.length (x k).fZ,I J (c k).hd.length,Z (x k).bo (c k).body.length (x k).fU] 84);have C:=eX n (K #[V ⟨(c k).hd.method.toArray⟩,V ⟨(c k).hd.target.toArray⟩,I J ((c k).hd.minor:Int),Z (x k).fo (c k).hd.fields.length (x k).fZ,I J (c k).hd.length,Z (x k).bo (c k).body.length (x k).fU] 84);have h3:=h2.stay N T hbx;have hlt2:n.heap.size<(n.alloc (K #[V ⟨(c k).hd.method.toArray⟩,V ⟨(c k).hd.target.toArray⟩,I J ((c k).hd.minor:Int),Z (x k).fo (c k).hd.fields.length (x k).fZ,I J (c k).hd.length,Z (x k).bo (c k).body.length (x k).fU] 84)).heap.size:=by rw[fG];omega
 have hg2:g<n.heap.size:=hr2.lt;have nL:Turns S w (n.alloc (K #[V ⟨(c k).hd.method.toArray⟩,V ⟨(c k).hd.target.toArray⟩,I J ((c k).hd.minor:Int),Z (x k).fo (c k).hd.fields.length (x k).fZ,I J (c k).hd.length,Z (x k).bo (c k).body.length (x k).fU] 84)):=(jN.mono (fun i e=>by rw[e];exact hS g (by rw[(hH .row).2];intro h;cases h))).trans (Turns.of_below (S:=fun _=>False) hbx) (fun _ e _=>e.elim);go_upto_region 4 with fail
 generalize (n.alloc (K #[V ⟨(c k).hd.method.toArray⟩,V ⟨(c k).hd.target.toArray⟩,I J ((c k).hd.minor:Int),Z (x k).fo (c k).hd.fields.length (x k).fZ,I J (c k).hd.length,Z (x k).bo (c k).body.length (x k).fU] 84))=W2 at *;have pO:Hid (∀gp D wf,jq D (fun i=>W2.drew.heap.size<=i) gp Rq.start->Below W2.drew.heap.size W2.drew D->jU wf g gs (upd (upd (xW c x) k [Q (M ⟨(x k).gp,0,U⟩),V ⟨#[]⟩,V ⟨#[]⟩,I J 0,Z U 0 0,I J 0,Z U 0 0]) k (UA Gt.yR (Mc gp)))->Turns (fun i=>i=g) D wf ->
  (∃Cq x',jK w0 Cq g gs s (xW (upd c k Gt.yR) x') (upd c k Gt.yR) x' KI zQ wf∧∀i,Cq i≠.out->gB S w i)∧wf.heap[n.heap.size]? = M (K #[V ⟨(c k).hd.method.toArray⟩,V ⟨(c k).hd.target.toArray⟩,I J ((c k).hd.minor:Int),Z (x k).fo (c k).hd.fields.length (x k).fZ,I J (c k).hd.length,Z (x k).bo (c k).body.length (x k).fU] 84 (0,0))∧Turns S w wf∧ji wf (x k).fo (x k).fZ (c k).hd.fields.length (gG (Rq.nu (c k).hd.fields))∧gN wf (x k).bo (x k).fU (c k).body):=fun gp D wf G z hrf Uj=>by
  have h4:=(h3.stay N T (gy _ _));have h5:=h4.renew G z hrf Uj;rw[pX,<-zl] at h5;have B:=then_ (gy _ _) z;have H:=h3.stay N T B;have hgr:iC κ w.heap.size .row g=.row:=(h2.held .row).2;refine⟨⟨_,_,h5,Po hS2 ?_⟩,Uj.row ((B.block _ hlt2).trans C) (fun e=>by have e:n.heap.size=g:=e;omega),(nL.trans (Turns.of_below (S:=fun _=>False) B) (fun _ e _=>e.elim)).trans Uj (fun i e _=>by rw[e];exact hS g (by rw[(hH .row).2];intro h;cases h)),?_,?_⟩
  . exact nL.size
  . exact(((H.held (.fl k)).1 r).turns Uj (fun i e e2=>by rw[e2] at e;have:=hgr.symm.trans e;cases this)).is
  . exact gK.tQ ((H.held (.bd k) r).turns Uj (fun i e e2=>by rw[e2] at e;have:=hgr.symm.trans e;cases this))
 have HR3:∀W,Below W2.heap.size W2 W->jU W g gs _:=fun W hW=>(h3.stay N T hW).XI;clear h3 h2 nL hbx C jN hr2 hG0 hH hS2 MF;go_cut [] (fun wd=>(∃Cq x',jK w0 Cq g gs s (xW (upd c k Gt.yR) x') (upd c k Gt.yR) x' KI zQ wd∧∀i,Cq i≠.out->gB S w i)∧wd.heap[n.heap.size]? = M (K #[V ⟨(c k).hd.method.toArray⟩,V ⟨(c k).hd.target.toArray⟩,I J ((c k).hd.minor:Int),Z (x k).fo (c k).hd.fields.length (x k).fZ,I J (c k).hd.length,Z (x k).bo (c k).body.length (x k).fU] 84 (0,0))∧Turns S w wd∧ji wd (x k).fo (x k).fZ (c k).hd.fields.length (gG (Rq.nu (c k).hd.fields))∧gN wd (x k).bo (x k).fU (c k).body)
 case first =>
  go_region_law ((go_simp;go_at_call 39;refine(HNc _).mono ?_;rintro e D ⟨gp,rfl,G,z⟩;have B:Below W2.heap.size W2 D:=then_ (gy _ _) z;have a:=HR3 D B;obtain⟨a0,a1,a2,a3,a4,a5,a6,hv⟩:=Go.Proofs.YthhklgjjnaeaoaaGreatDoor.seven (a.seven k r);have c0:D.cell? ⟨g,1+k*7,U⟩=M a0:=a.at_ r (j:=0) (by decide) (by rw[hv];rfl);have c1:=a.at_ r (j:=1) (by decide) (u:=a1) (by rw[hv];rfl);have c2:=a.at_ r (j:=2) (by decide) (u:=a2) (by rw[hv];rfl);have c3:=a.at_ r (j:=3) (by decide) (u:=a3) (by rw[hv];rfl);have c4:=a.at_ r (j:=4) (by decide) (u:=a4) (by rw[hv];rfl);have c5:=a.at_ r (j:=5) (by decide) (u:=a5) (by rw[hv];rfl);have c6:=a.at_ r (j:=6) (by decide) (u:=a6) (by rw[hv];rfl);have fz:=fun j=>a.fz j;have JB:=H9 (pO.o gp D _ G z (a.Z0 r (Q (M ⟨gp,0,U⟩)) (V ⟨#[]⟩) (V ⟨#[]⟩) (I J 0) (Z U 0 0) (I J 0) (Z U 0 0)).1 (a.Z0 r (Q (M ⟨gp,0,U⟩)) (V ⟨#[]⟩) (V ⟨#[]⟩) (I J 0) (Z U 0 0) (I J 0) (Z U 0 0)).2);clear G z hv B a))
  all_goals
   go_wp2;go_meet;exact JB.o
 case rest =>
  obtain⟨⟨κ3,x3,hG3,GJ⟩,l,hTw,hFV,hBV⟩:=hcut;have b0:=eZ wc _ 0 _ _ _ l;have b1:=eZ wc _ 1 _ _ _ l;have b2:=eZ wc _ 2 _ _ _ l;have b3:=eZ wc _ 3 _ _ _ l;have b4:=eZ wc _ 4 _ _ _ l;have b5:=eZ wc _ 5 _ _ _ l;have Uo:=(aL.1 l).1;have HRw:=H9 l;have HTw:=hTw;have xU:=hG3;have yX:=H9 GJ;have HFV:=hFV;have HBV:=hBV
  clear pO HR3 HNc;go_wp2_with fail
  refine(HIp _).mono ?_;rintro e w5 ⟨rfl,f⟩;have wm:Turns S w w5:=HTw.trans (Turns.of_below (S:=fun _=>False) f) (fun _ e _=>e.elim);have h5:=xU.stay N T f;have b6:=(f.cell (p:=⟨n.heap.size,5,U⟩) Uo).trans b5;have vW:s=y->QV S w g gs c k y w5:=fun e=>⟨by rw[<-e];exact h5.done yX.o,wm⟩;cases bp with
  | false =>
    have HN:=H9 (vW (by rw[hR,if_neg (fun e=>by have:=hpc.1 ⟨e.1,e.2.1⟩;cases this)]));go_wp2;go_ret;exact⟨rfl,HN.o⟩
  | true =>
    by_cases L:(c k).body=[]
    . have HN:=H9 (vW (by rw[hR,if_neg (fun e=>e.2.2 L)]));have hl0:(c k).body.length=0:=by rw[L];rfl
      have t:decide (((c k).body.length:Int) > 0)=F:=aJ (by omega);go_wp2;go_ret;exact⟨rfl,HN.o⟩
    . have hp:=hpc.2 rfl;rw[if_pos ⟨hp.1,hp.2,L⟩] at hR;have hl0:=eu.2 L;have t:decide (((c k).body.length:Int) > 0)=true:=aI (by omega);have H:jK w0 κ3 g gs s (xW (upd c k Gt.yR) x3) (upd c k Gt.yR) x3 KI zQ w5.drew:=h5.stay N T (gy _ _);have ZP:=QL (m:=⟨(c k).hd.method.toArray⟩) (t:=⟨(c k).hd.target.toArray⟩) (mi:=((c k).hd.minor:Int)) (ln:=(c k).hd.length) ⟨H.pow,H.qy,fun i e=>H.far i (by rw[e];intro h;cases h)⟩ (H.held .iX) ok (aaS hc.hd ((hFV.stay f).stay (gy _ _))) (c k).body rfl ((hBV.stay f).stay (gy _ _)) (by omega) (by show(c k).hd.target.toArray.size<=_;rw[bK];have:=hc.hd.target;omega);have hz5:=wm.size;have HDn:∀w9,gX w9 (gB (fun i=>κ3 i=.iX) w5.drew) gs (Tu.iQ s ⟨(c k).hd.method.toArray⟩ ⟨(c k).hd.target.toArray⟩ (Gt.nu (c k).hd.fields) (c k).body).1->Turns (fun i=>κ3 i=.iX) w5.drew w9->QV S w g gs c k y w9:=fun w9 jA qB=>by
       have h9:=H.iX N T jA qB;refine⟨?_,(wm.trans (Turns.drewN (fun _=>False) w5 1) (fun _ e _=>e.elim)).trans qB (fun i e hi=>?_)⟩
       . rw[hR];exact h9.done (Po yX.o hz5)
       . rcases yX.o i (by rw[e];intro h;cases h) with q | q
         . exact q
         . omega
      have y0:=h5.XI.store;have y1:=(f.cell (p:=⟨n.heap.size,0,U⟩) Uo).trans b0;have y2:=(f.cell (p:=⟨n.heap.size,1,U⟩) Uo).trans b1;have y3:=(f.cell (p:=⟨n.heap.size,2,U⟩) Uo).trans b2;have y4:=(f.cell (p:=⟨n.heap.size,3,U⟩) Uo).trans b3;have y5:=(f.cell (p:=⟨n.heap.size,4,U⟩) Uo).trans b4;clear hR vW h5 H;go_upto_region 6 with fail
      go_cut [] (fun wd=>QV S w g gs c k y wd)
      case first =>
       go_region_law (first | (go_simp;go_at_call 41;refine ZP.mono ?_;rintro e w9 ⟨⟨jv,gU,n9,rfl,lK,jX⟩,jA,qB⟩;have UL:=H9 (HDn w9 jA qB);clear lK jX jA qB))
       all_goals
        go_wp2;go_meet;exact UL.o
      case rest =>
       have HC:=H9 hcut;go_wp2;go_ret;exact⟨rfl,HC.o⟩
end
section
variable {w0 w:X} {S:Nat->Prop} {g gs:Nat} {s:Sr.Sh} {c:Nat->Gt.Cn}
def Mi:List Value:=[Q U,V ⟨#[]⟩,V ⟨#[]⟩,I J 0,Z U 0 0,I J 0,Z U 0 0]
theorem zN.begin_ (h:gX w S gs s):zN (fun k=>(S k∧k<w.heap.size)∨k=w.heap.size) (w.alloc (K (Qn gs (fun _=>Mi)).toArray 89)) w.heap.size gs s 0 (w.alloc (K (Qn gs (fun _=>Mi)).toArray 89)):=by
 have l:=(eY _ w).alloc (aM _) (K (Qn gs (fun _=>Mi)).toArray 89);classical
 refine⟨⟨fun k=>if k=w.heap.size then .row else if S k∧k<w.heap.size then .iX else .out,fun _=>Mi,fun _=>Mc 0,fun d=>?_,fun k a=>absurd a (bX k),fun k a=>?_⟩,Turns.refl _ _⟩
 . cases d with
   | row=>exact⟨⟨eX w _,fun _ _=>rfl⟩,if_pos rfl⟩
   | iX=>exact gX.mono ((gX.mono h (S':=fun k=>S k∧k<w.heap.size) (fun k a e=>⟨e,a⟩)).stay l) (fun k _ e=>by
    show(if k=w.heap.size then Ae.row else if S k∧k<w.heap.size then .iX else .out)=.iX;rw[if_neg (by have:=e.2;omega),if_pos e])
   | rq j=>exact fun b=>absurd b (bX j)
   | fl j=>exact⟨fun b=>absurd b (bX j),trivial⟩
   | bd j=>exact fun b=>absurd b (bX j)
   | ret=>trivial
   | out=>trivial
 . simp only at a;by_cases f:k=w.heap.size
   . exact A (R f)
   . rw[if_neg f] at a;by_cases i:S k∧k<w.heap.size
     . exact A (A i)
     . rw[if_neg i] at a;exact absurd rfl a
theorem XU (h:gX w S gs s):
 Calls prog 11 #[Q (M ⟨gs,0,U⟩)] w fun e w'=>e=Y (Q (M ⟨w.heap.size,0,U⟩))∧jf w' (gB S w) w.heap.size gs s (fun _=>Gt.yR)∧Turns S w w':=by
 have b:=(eY _ w).alloc (aM _) (K (Qn gs (fun _=>Mi)).toArray 89);go_enter func11,ntmps11;go_wp2_with fail
 refine(EI (zN.begin_ h)).mono ?_;rintro e d ⟨rfl,f,i⟩;have a:jf d (gB S w) w.heap.size gs s (fun _=>Gt.yR)∧Turns S w d:=by
  have j:=b.size;refine⟨f.mono (fun k _ e=>?_),(Turns.of_below b).trans i (fun k e l=>?_)⟩
  . rcases e with (e | e) | e
    . exact A e.1
    . exact R (by omega)
    . exact R (by omega)
  . rcases e with e | e
    . exact e.1
    . omega
 go_wp2;go_ret;exact⟨rfl,a⟩
end
section
variable {w0 w w':X} {S:Nat->Prop} {p g gs N:Nat} {P:Pt.P}
theorem gI.feed (t:kD w0)(u:Below w0.heap.size w0 w)(v:∀i,S i->w0.heap.size<=i)(h:gI w S p g gs P)(ok:Pt.Ok P N)(k:Int)(l:av){bo:ak}{fU n:Nat}(x:gN w bo fU l)(y:l≠[]->∀a,bo=M a->¬S a.block)(z:l.length=n)(L:N+n<=20000):
 Calls prog 15 #[Q (M ⟨g,0,U⟩),I J k,Z bo n fU] w fun e w'=>∃ao cap m,e=Y (.tuple #[Z ao m cap,I J ((Pt.vI P k l).2.code:Int)])∧m=(Pt.vI P k l).2.out.length∧gN w' ao cap (Pt.vI P k l).2.out∧xK S w p g gs (Pt.vI P k l).1 w':=by
 unfold Pt.vI;by_cases b:Pt.isC k
 . rw[if_pos b];obtain⟨T,B,d,_,C⟩:=h.ask;have W:=b.1;have h4:=b.2
   obtain⟨j,rfl⟩:∃j:Nat,k=j:=⟨k.toNat,by omega⟩;rw[Int.toNat_natCast];refine(Ui t u (fun i e=>v i (d i e)) B ok.s j (by omega) (ok.c j) l x (fun f a e q=>y f a e (d _ q)) z (by have:=ok.few j;omega)).mono ?_;rintro e D ⟨⟨ao,cap,m,rfl,G,H⟩,o,r⟩;refine⟨ao,cap,m,?_,G,H,C _ _ _ o r,r.mono d⟩;split <;> rfl
 . rw[if_neg b];refine(Ma k (by unfold Pt.isC at b;omega) bo fU n w).mono ?_;rintro e D ⟨rfl,rfl⟩;exact⟨U,0,0,rfl,rfl,gN.nil _,h.mono (fun _ _ e=>A e),Turns.refl _ _⟩
theorem gI.gone (l:kD w0)(m:Below w0.heap.size w0 w)(n:∀i,S i->w0.heap.size<=i)(h:gI w S p g gs P)(ok:Pt.Ok P N)(t:N<=20000)(k:Int):
 Calls prog 13 #[Q (M ⟨g,0,U⟩),I J k] w fun e w'=>e=Y (I J ((Pt.stepG P k).2.code:Int))∧xK S w p g gs (Pt.stepG P k).1 w':=by
 unfold Pt.stepG;by_cases a:Pt.isC k
 . rw[if_pos a];obtain⟨u,o,d,_,q⟩:=h.ask;have v:=a.1;have x:=a.2
   obtain⟨j,rfl⟩:∃j:Nat,k=j:=⟨k.toNat,by omega⟩;rw[Int.toNat_natCast];refine(Un l m (fun i e=>n i (d i e)) o ok.s j (by omega) (ok.c j) (by have:=ok.few j;omega)).mono ?_;rintro e r ⟨rfl,b,f⟩;exact⟨rfl,q _ _ _ b f,f.mono d⟩
 . rw[if_neg a];refine(Mh k (by unfold Pt.isC at a;omega) w).mono ?_;rintro e r ⟨rfl,rfl⟩;exact⟨rfl,h.mono (fun _ _ e=>A e),Turns.refl _ _⟩
theorem gI.crash (h:gI w S p g gs P)(ok:Sr.Ok P.s)(n:Int):Calls prog 61 #[Q (M ⟨gs,0,U⟩),I J n] w fun e w'=>e=Y (.tuple #[])∧xK S w p g gs ⟨Sr.crash P.s n,P.c,P.tr⟩ w':=by
 obtain⟨B,b,d,_,f⟩:=h.iX;exact(Mq b ok n).mono fun e w' ⟨i,a⟩=>⟨i,f _ _ a.at_ a.turns,a.turns.mono d⟩
theorem gI.reset (h:gI w S p g gs P):Calls prog 35 #[Q (M ⟨g,0,U⟩)] w fun e w'=>e=Y (.tuple #[])∧xK S w p g gs ⟨P.s,fun _=>Gt.yR,P.tr⟩ w':=by
 obtain⟨j,b,c,_,d⟩:=h.ask;exact(EI (zN.Z4 b)).mono fun e w' ⟨f,i,a⟩=>⟨f,d _ _ _ i a,a.mono c⟩
theorem Pt.X8 (P:Pt.P)(k:Int)(l:av):(Pt.vI P k l).2.up=[]∧(Pt.vI P k l).1.tr=P.tr:=by
 unfold Pt.vI;split <;> exact⟨rfl,rfl⟩
theorem Pt.X9 (P:Pt.P)(k:Int):(Pt.stepG P k).2.up=[]∧(Pt.stepG P k).2.out=[]∧(Pt.stepG P k).1.tr=P.tr:=by
 unfold Pt.stepG;split <;> exact⟨rfl,rfl,rfl⟩
theorem ae5 (h:gI w S p g gs P)(o:Obj):iM (G7 p g gs P.c P.tr) S w 0 [o,z3] P.s (fun k=>S k∧k<w.heap.size) ((w.alloc o).alloc (K #[I J 0,Z U 0 0,Z U 0 0] 70)) :=
 ((iM.start tq (s:=P.s) h).box tq rfl (fun _ e=>e.2) o).box tq (by rw[fG];rfl) (fun k e=>by rw[fG];have:=e.2;omega) _
theorem Ya (hP:kD w0)(hW:Below w0.heap.size w0 w)(hF:∀i,S i->w0.heap.size<=i)(h:gI w S p g gs P)(ok:Pt.Ok P N)(htr:P.tr.length<=1000000)(x:Pt.aan){bo:ak}{fU nb:Nat}(hB:gN w bo fU x.b)(sK:x.b≠[]->∀a,bo=M a->¬S a.block)(hn:x.b.length=nb)(hl:N+nb<=20000):
 Calls prog 27 #[Q (M ⟨p,0,U⟩),.agg #[I J x.kind,I J x.conn,I J x.n,Z bo nb fU]] w fun e w'=>EJ S w p g gs (Pt.step P x) e w':=by
 obtain⟨d,hR⟩:∃d,d=Pt.step P x:=⟨_,rfl⟩;rw[<-hR];unfold Pt.step at hR;have T2:=ae5 h (K #[I J x.kind,I J x.conn,I J x.n,Z bo nb fU] 73 (0,0));have hb2:Below w.heap.size w ((w.alloc (K #[I J x.kind,I J x.conn,I J x.n,Z bo nb fU] 73)).alloc (K #[I J 0,Z U 0 0,Z U 0 0] 70)):=then_ ((eY _ w).alloc (aM _) _) ((eY _ _).alloc (aM _) _);have hB2:=hB.stay hb2;have hW2:=then_ hW hb2;have HP:=H9 hP;have HF:=H9 hF;have z:=H9 hR
 obtain⟨B,hkd⟩:∃B,x.kind=B:=⟨_,rfl⟩;rw[hkd] at z T2 hB2 hW2 ⊢;clear hb2 hR hP hF hB hW h;go_enter func27,ntmps27;go_upto_region 1 with fail
 generalize ((w.alloc (K #[I J B,I J x.conn,I J x.n,Z bo nb fU] 73)).alloc (K #[I J 0,Z U 0 0,Z U 0 0] 70))=t at *;have G:=T2.row 0 rfl;have k0:=eZ t _ 0 _ _ _ G;have k1:=eZ t _ 1 _ _ _ G;have k2:=eZ t _ 2 _ _ _ G;have k3:=eZ t _ 3 _ _ _ G;simp at k0 k1 k2 k3;obtain⟨c0,c1⟩:=gI.cells T2.sh;have r:=H9 T2;have HB2:=H9 hB2;have HW2:=H9 hW2
 clear T2 G hB2 hW2;by_cases h1:B=1
 . subst h1;rw[if_pos rfl] at z;have l:=Pt.X8 P x.conn x.b;have H:=r.o.stay tq (gy t.heap.size _);have UN:=gI.feed (w:=t.drew) (N:=N) HP.o (then_ HW2.o (gy _ _)) (fun i e=>HF.o i e.1) H.sh ok x.conn x.b (HB2.o.stay (gy _ _)) (fun hne a e q=>sK hne a e q.1) hn hl;rw[<-z.o] at UN l;have L:Hid (∀j,xK (fun k=>S k∧k<w.heap.size) t.drew p g gs d.1 j->∃C,iM (G7 p g gs d.1.c d.1.tr) S w 0 [K #[I J 1,I J x.conn,I J x.n,Z bo nb fU] 73 (0,0),z3] d.1.s C j):=fun j f=>⟨_,H.into (O':=G7 p g gs d.1.c d.1.tr) f.at_ (fun _ e=>e) f.turns⟩;have OT:=H9 l;clear H l;go_upto_region 3 with fail
   go_cut [5,6] (fun v5 v6 wd=>∃(ao:ak) (u m:Nat) (C:Nat->Prop),v5=Z ao m u∧v6=I J (d.2.code:Int)∧m=d.2.out.length∧gN wd ao u d.2.out∧iM (G7 p g gs d.1.c d.1.tr) S w 0 [K #[I J 1,I J x.conn,I J x.n,Z bo nb fU] 73 (0,0),z3] d.1.s C wd)
   case first =>
    go_region_law (first | (go_simp;go_at_call 15;refine UN.mono ?_;rintro e j ⟨ao,u,m,rfl,hm,hI,f⟩;have HM:=H9 hm;have HI:=H9 hI;have HD:=H9 (L.o j f);clear hm hI f))
    all_goals
     go_wp2;go_meet;obtain⟨C,hA⟩:=HD.o;exact⟨ao,u,m,C,rfl,rfl,HM.o,HI.o,hA⟩
   case rest =>
    obtain⟨ao,u,m,C,rfl,rfl,hm,hI,T⟩:=hcut;obtain⟨⟨z0,z1,z2,f0,f1,f2⟩,W⟩:=T.tells (eY _ _) (i:=1) rfl (b:=w.heap.size+1) rfl d.2 (ci:=(d.2.code:Int)) rfl (ao:=ao) (jS:=u) (an:=m) (uo:=U) (gQ:=0) (un:=0) hm (by rw[OT.o.1];rfl) hI (by rw[OT.o.1];exact gN.nil _) (fun q=>absurd OT.o.1 q);clear hm hI T UN;generalize d.2.code=D at *;go_wp2;generalize (((wc.setCell ⟨w.heap.size+1,0,U⟩ _).setCell ⟨w.heap.size+1,1,U⟩ _).setCell ⟨w.heap.size+1,2,U⟩ _)=wf at *;obtain⟨q0,q1,q2,q3⟩:=W.o;refine fI (v:=.agg #[I J (D:Int),Z ao m u,Z U 0 0]) (by simp[results,results27,go_sem,q0,q1,q2]) rfl ?_;exact q3
 by_cases h2:B=2
 . subst h2;rw[if_neg (by decide),if_pos rfl] at z;have l:=Pt.X9 P x.conn;have H:=r.o.stay tq (gy t.heap.size _);have HGo:=gI.gone (w:=t.drew) (N:=N) HP.o (then_ HW2.o (gy _ _)) (fun i e=>HF.o i e.1) H.sh ok (by omega) x.conn;rw[<-z.o] at HGo l;obtain⟨D,hcd⟩:∃D,d.2.code=D:=⟨_,rfl⟩;rw[hcd] at HGo;have L:Hid (∀j,xK (fun k=>S k∧k<w.heap.size) t.drew p g gs d.1 j->_):=fun j f=>(H.into (O':=G7 p g gs d.1.c d.1.tr) f.at_ (fun _ e=>e) f.turns).tells (eY _ _) (i:=1) rfl (b:=w.heap.size+1) rfl d.2 (ci:=(D:Int)) (by rw[hcd]) (ao:=U) (jS:=0) (an:=0) (uo:=U) (gQ:=0) (un:=0) (by rw[l.2.1];rfl) (by rw[l.1];rfl) (by rw[l.2.1];exact gN.nil _) (by rw[l.1];exact gN.nil _) (fun q=>absurd l.1 q);clear H l hcd;have t1:((2:Int)==1)=F:=rfl;go_upto_region 6 with fail
   go_cut [] (fun wd=>wd.cell? ⟨w.heap.size+1,0,U⟩=M (I J (D:Int))∧wd.cell? ⟨w.heap.size+1,1,U⟩=M (Z U 0 0)∧wd.cell? ⟨w.heap.size+1,2,U⟩=M (Z U 0 0)∧EJ S w p g gs d (Y (.agg #[I J (D:Int),Z U 0 0,Z U 0 0])) wd)
   case first =>
    go_region_law (first | (go_simp;go_at_call 13;refine HGo.mono ?_;rintro e j ⟨rfl,f⟩;obtain⟨⟨z0,z1,z2,f0,f1,f2⟩,W⟩:=L.o j f;clear f))
    all_goals
     go_wp2;go_meet;exact W.o
   case rest =>
    obtain⟨q0,q1,q2,q3⟩:=hcut;go_wp2;refine fI (v:=.agg #[I J (D:Int),Z U 0 0,Z U 0 0]) (by simp[results,results27,go_sem,q0,q1,q2]) rfl ?_;exact q3
 by_cases h3:B=3
 . subst h3;rw[if_neg (by decide),if_neg (by decide),if_pos rfl] at z;have y:=XT (w:=t) HP.o HW2.o (fun i e=>HF.o i e.1) r.o.sh ok.s htr x.n;rw[<-z.o] at y;have L:Hid (∀e j,EJ (fun k=>S k∧k<w.heap.size) t p g gs d e j->∃(ao uo:ak) (jS an gQ un:Nat),e=Y (.agg #[I J (d.2.code:Int),Z ao an jS,Z uo un gQ])∧_):=fun e j f=>by
    obtain⟨⟨ao,uo,jS,an,gQ,un,he,han,hun,hI1,hI2,C,hA,hAs,hAu⟩,hat,T⟩:=f;exact⟨ao,uo,jS,an,gQ,un,he,(r.o.into (O':=G7 p g gs d.1.c d.1.tr) hA hAs T).tells (eY _ _) (i:=1) rfl (b:=w.heap.size+1) rfl d.2 (ci:=(d.2.code:Int)) rfl (ao:=ao) (jS:=jS) (an:=an) (uo:=uo) (gQ:=gQ) (un:=un) han hun hI1 hI2 (fun q a e=>by obtain⟨h1,h2⟩:=hAu q a e;have:=r.o.sz;exact⟨by omega,h2⟩)⟩
   go_wp2_with fail
   refine y.mono ?_;intro e j f;obtain⟨ao,uo,jS,an,gQ,un,rfl,⟨z0,z1,z2,f0,f1,f2⟩,W⟩:=L.o e j f;clear f L y;generalize d.2.code=D at *;go_wp2;generalize (((j.setCell ⟨w.heap.size+1,0,U⟩ _).setCell ⟨w.heap.size+1,1,U⟩ _).setCell ⟨w.heap.size+1,2,U⟩ _)=wf at *;obtain⟨q0,q1,q2,q3⟩:=W.o;refine fI (v:=.agg #[I J (D:Int),Z ao an jS,Z uo un gQ]) (by simp[results,results27,go_sem,q0,q1,q2]) rfl ?_;exact q3
 by_cases h4:B=4
 . subst h4;rw[if_neg (by decide),if_neg (by decide),if_neg (by decide),if_pos rfl] at z;have y:=Um (w:=t) r.o.sh ok.s x.n;rw[<-z.o] at y;have L:Hid (∀e j,EJ (fun k=>S k∧k<w.heap.size) t p g gs d e j->∃(ao uo:ak) (jS an gQ un:Nat),e=Y (.agg #[I J (d.2.code:Int),Z ao an jS,Z uo un gQ])∧_):=fun e j f=>by
    obtain⟨⟨ao,uo,jS,an,gQ,un,he,han,hun,hI1,hI2,C,hA,hAs,hAu⟩,hat,T⟩:=f;exact⟨ao,uo,jS,an,gQ,un,he,(r.o.into (O':=G7 p g gs d.1.c d.1.tr) hA hAs T).tells (eY _ _) (i:=1) rfl (b:=w.heap.size+1) rfl d.2 (ci:=(d.2.code:Int)) rfl (ao:=ao) (jS:=jS) (an:=an) (uo:=uo) (gQ:=gQ) (un:=un) han hun hI1 hI2 (fun q a e=>by obtain⟨h1,h2⟩:=hAu q a e;have:=r.o.sz;exact⟨by omega,h2⟩)⟩
   go_wp2_with fail
   refine y.mono ?_;intro e j f;obtain⟨ao,uo,jS,an,gQ,un,rfl,⟨z0,z1,z2,f0,f1,f2⟩,W⟩:=L.o e j f;clear f L y;generalize d.2.code=D at *;go_wp2;generalize (((j.setCell ⟨w.heap.size+1,0,U⟩ _).setCell ⟨w.heap.size+1,1,U⟩ _).setCell ⟨w.heap.size+1,2,U⟩ _)=wf at *;obtain⟨q0,q1,q2,q3⟩:=W.o;refine fI (v:=.agg #[I J (D:Int),Z ao an jS,Z uo un gQ]) (by simp[results,results27,go_sem,q0,q1,q2]) rfl ?_;exact q3
 by_cases h5:B=5
 . subst h5;rw[if_neg (by decide),if_neg (by decide),if_neg (by decide),if_neg (by decide),if_pos rfl] at z;have H:=r.o.stay tq (gy t.heap.size _);have Lf:=gI.crash (w:=t.drew) H.sh ok.s x.n;have L:Hid (∀j,xK (fun k=>S k∧k<w.heap.size) t.drew p g gs ⟨Sr.crash P.s x.n,P.c,P.tr⟩ j->∃C,iM (G7 p g gs P.c P.tr) S w 0 [K #[I J 5,I J x.conn,I J x.n,Z bo nb fU] 73 (0,0),z3] (Sr.crash P.s x.n) C j):=fun j f=>⟨_,H.did (O:=G7 p g gs P.c P.tr) f.at_ f.turns⟩;clear H;go_upto_region 12 with fail
   go_cut [] (fun wd=>∃C,iM (G7 p g gs P.c P.tr) S w 0 [K #[I J 5,I J x.conn,I J x.n,Z bo nb fU] 73 (0,0),z3] (Sr.crash P.s x.n) C wd)
   case first =>
    go_region_law (first | (go_simp;go_at_call 61;refine Lf.mono ?_;rintro e j ⟨rfl,f⟩;have HD:=H9 (L.o j f);clear f))
    all_goals
     go_wp2;go_meet;exact HD.o
   case rest =>
    obtain⟨C,T⟩:=hcut;have HRe:=gI.reset (w:=wc) T.sh;obtain⟨y0,y1⟩:=gI.cells T.sh;have HT:=H9 T;clear T c0 c1 k0 k1 k2 k3;go_wp2_with fail
    refine HRe.mono ?_;rintro e w4 ⟨rfl,f⟩;obtain⟨⟨z0,z1,z2,f0,f1,f2⟩,W⟩:=(HT.o.into (O':=G7 p g gs (fun _=>Gt.yR) P.tr) f.at_ (fun _ e=>e) f.turns).tells (eY _ _) (i:=1) rfl (b:=w.heap.size+1) rfl ⟨0,[],[]⟩ (ci:=0) rfl (ao:=U) (jS:=0) (an:=0) (uo:=U) (gQ:=0) (un:=0) rfl rfl (gN.nil _) (gN.nil _) (fun q=>absurd rfl q);clear f y0 y1;go_wp2;generalize (((w4.setCell ⟨w.heap.size+1,0,U⟩ _).setCell ⟨w.heap.size+1,1,U⟩ _).setCell ⟨w.heap.size+1,2,U⟩ _)=wf at *;obtain⟨q0,q1,q2,q3⟩:=W.o;refine fI (v:=.agg #[I J 0,Z U 0 0,Z U 0 0]) (by simp[results,results27,go_sem,q0,q1,q2]) rfl ?_;rw[z.o];exact q3
 . rw[if_neg h1,if_neg h2,if_neg h3,if_neg h4,if_neg h5] at z;have t1:(B==1)=F:=aR.2 h1;have t2:(B==2)=F:=aR.2 h2;have t3:(B==3)=F:=aR.2 h3;have t4:(B==4)=F:=aR.2 h4;have t5:(B==5)=F:=aR.2 h5;obtain⟨⟨z0,z1,z2,f0,f1,f2⟩,W⟩:=r.o.tells (eY _ _) (i:=1) rfl (b:=w.heap.size+1) rfl ⟨11,[],[]⟩ (ci:=11) rfl (ao:=U) (uo:=U) (jS:=0) (gQ:=0) (an:=0) (un:=0) rfl rfl (gN.nil _) (gN.nil _) (fun q=>absurd rfl q);go_wp2;generalize (((t.setCell ⟨w.heap.size+1,0,U⟩ _).setCell ⟨w.heap.size+1,1,U⟩ _).setCell ⟨w.heap.size+1,2,U⟩ _)=wf at *;obtain⟨q0,q1,q2,q3⟩:=W.o;refine fI (v:=.agg #[I J 11,Z U 0 0,Z U 0 0]) (by simp[results,results27,go_sem,q0,q1,q2]) rfl ?_;rw[z.o];exact q3
end
theorem gI.laid {w:X}{b:Nat->Prop}{g gs:Nat}(h:jf w b g gs Sr.new (fun _=>Gt.yR)):gI (w.alloc (K #[Q (M ⟨g,0,U⟩),Z U 0 0] 78)) (fun k=>(b k∧k<w.heap.size)∨k=w.heap.size) w.heap.size g gs Pt.new:=by
 have j:=(eY _ w).alloc (aM _) (K #[Q (M ⟨g,0,U⟩),Z U 0 0] 78);classical
 refine⟨fun k=>if k=w.heap.size then .row else if b k∧k<w.heap.size then .gate else .out,U,0,fun d=>?_,fun k c=>?_⟩
 . cases d with
   | row=>exact⟨eX w _,if_pos rfl⟩
   | gate=>exact jf.mono ((h.mono (S':=fun k=>b k∧k<w.heap.size) (fun k c e=>⟨e,c⟩)).stay j) (fun k _ e=>by
    show(if k=w.heap.size then XP.row else if b k∧k<w.heap.size then .gate else .out)=.gate;rw[if_neg (by have:=e.2;omega),if_pos e])
   | tr=>exact⟨gH.nil _ _ _ _,fun a e=>by cases e⟩
   | out=>trivial
 . simp only at c;by_cases f:k=w.heap.size
   . exact R f
   . rw[if_neg f] at c;by_cases i:b k∧k<w.heap.size
     . exact A i
     . rw[if_neg i] at c;exact absurd rfl c
theorem Hg (w:X):
 Calls prog 26 #[] w fun e w'=>∃p g gs,e=Y (Q (M ⟨p,0,U⟩))∧gI w' (fun k=>w.heap.size<=k∧k<w'.heap.size) p g gs Pt.new∧Below w.heap.size w w':=by
 go_enter func26,ntmps26;go_wp2_with fail
 refine(Tg w).mono ?_;rintro e f ⟨gs,rfl,j,l⟩;have a:=H9 l;go_wp2_with fail
 refine(XU j).mono ?_;rintro e i ⟨rfl,b,m⟩;have s:=a.o.size;have u:=m.size;have c:=a.o.trans (m.below (B:=w.heap.size) (fun k e=>e) s);have q:=H9 (gI.laid b);have n:=H9 (then_ c ((eY _ i).alloc (aM _) (K #[Q (M ⟨f.heap.size,0,U⟩),Z U 0 0] 78)));have d:Hid (gI (i.alloc (K #[Q (M ⟨f.heap.size,0,U⟩),Z U 0 0] 78)) (fun k=>w.heap.size<=k∧k<(i.alloc (K #[Q (M ⟨f.heap.size,0,U⟩),Z U 0 0] 78)).heap.size) i.heap.size f.heap.size gs Pt.new):=q.o.mono (fun k t e=>⟨by
  rcases e with e | e
  . rcases e.1 with r | r
    . exact r
    . omega
  . omega,t⟩)
 clear b m c q;go_wp2;go_ret;exact⟨_,_,gs,rfl,d.o,n.o⟩
structure Yd (l:List Pt.aan):Prop where
 few:l.length<=100
 sum:Pt.iO l<=12000
def aaY (w:X)(l:List Pt.aan)(e:Ending)(w':X):Prop:=∃b:Bool,e=Y (.bool b)∧(b=F->Yd l)∧w'=w
theorem FD (l:List Pt.aan)(ao:ak)(cap n:Nat)(w:X)(d:rR w ao cap l)(t:l.length=n)(j:∀q∈l,q.b.length<=140737488355328)(G:n<=140737488355328):
 Calls prog 24 #[Z ao n cap] w fun e w'=>aaY w l e w':=by
 subst t;have H:=H9 d;have u:=H9 j
 have m:=d.cap_;clear d j;go_enter func24,ntmps24;go_wp2;go_loopw [3,4] (fun x f wr=>∃(k:Nat) (v:Int),k<=l.length∧f=I J k∧x=I J v∧(k<=100->v=(Pt.iO (l.take k):Int)∧Pt.iO (l.take k)<=k*140737488355328)∧wr=w) (fun _ f _=>l.length-(intOf f).toNat)
 case atStart=>exact⟨0,0,aA _,rfl,rfl,fun _=>by simp[Pt.iO],rfl⟩
 case round =>
  obtain⟨k,v,L,rfl,rfl,a,y⟩:=hrel;subst y;by_cases c:k<l.length
  . have r:(k:Int)<l.length:=by omega
    obtain⟨b,o,N,rfl,s⟩:=H.o.at_ k c;have z:=u.o l[k] (aC c);have S:=Pt.Im l k c;have T:=s.c3;generalize l[k]=p at *;clear s;generalize p.b.length=nb at *;have g:k+1<=100->wrap64 (v+(nb:Int))=(Pt.iO (l.take (k+1)):Int)∧Pt.iO (l.take (k+1))<=(k+1)*140737488355328:=fun h=>by
     obtain⟨B,W⟩:=a (by omega);rw[B,RF (by omega) (by omega)];omega
    go_wp2;go_roundw
    case rel=>exact⟨k+1,_,by omega,by go_num,rfl,g,by first | rfl | trivial⟩
    case measure=>simp[intOf];omega
  . obtain rfl:k=l.length:=by omega
    have i:l.take l.length=l:=bN;rw[i] at a;by_cases h1:100<l.length
    . have C:decide ((l.length:Int) > 100)=true:=aI (by omega);go_wp2;go_ret;exact⟨true,rfl,(fun h=>by cases h),rfl⟩
    . have C:decide ((l.length:Int) > 100)=F:=aJ (by omega);obtain⟨rfl,_⟩:=a (by omega);by_cases h2:12000<Pt.iO l
      . have D:decide ((Pt.iO l:Int) > 12000)=true:=aI (by omega);go_wp2;go_ret;exact⟨true,rfl,(fun h=>by cases h),rfl⟩
      . have D:decide ((Pt.iO l:Int) > 12000)=F:=aJ (by omega);go_wp2;go_ret;exact⟨F,rfl,fun _=>⟨by omega,by omega⟩,rfl⟩
end Go.Proofs.YthhklgjjnaeaoaaGreatDoor