/- Small texts, one behind the other: GaJ, GaK, GaL, GaM, GaN, GaO, PoA, PoC, RqWrE, PoD, PoE, GaV, GaP, PoF, PoB. -/
import Derived.Test.YthhklgjjnaeaoaaGreatDoorPk47
import Derived.Test.YthhklgjjnaeaoaaGreatDoorPk45
open Go.Value renaming int->I,string->V,slice->Z,pointer->Q
open Go.IntKind renaming i64->J
open Go.Obj renaming cells->K
open Go.Ending renaming returned->Y
open Option renaming none->U,some->M
open Bool renaming false->F
open Or renaming inl->A,inr->R
open Go renaming World->X
set_option maxHeartbeats 6400000
set_option maxRecDepth 100000
open Go.Proofs.Tryz
namespace Go.Proofs.YthhklgjjnaeaoaaGreatDoor
open Go.RowKit
structure jJ (w0:X)(κ:Nat->Af)(g gs:Nat)(s:Sr.Sh)(v:Nat->List Value)(c:Nat->Gt.Cn)(x:Nat->Ql)(z:Nat->Ob)(o:Ob)(w:X):Prop where
 held:Held (Ct g gs s v 4 c x z o) κ w
 pow:kC w0
 qL:Below w0.heap.size w0 w
 far:∀i,κ i≠.out->w0.heap.size<=i
section
variable {w0 w w':X} {κ:Nat->Af} {g gs:Nat} {s s':Sr.Sh} {v v':Nat->List Value} {c c':Nat->Gt.Cn} {x x':Nat->Ql} {z:Nat->Ob} {o:Ob}
theorem Jp {n:Nat}{d:Af}(a:∀i,κ i≠.out->w0.heap.size<=i)(b:w0.heap.size<=n):∀i,iC κ n d i≠.out->w0.heap.size<=i:=by intro l;induction l <;> grind [iC]
theorem jJ.act (a:∀k,kD (z k))(b:kD o)(h:jJ w0 κ g gs s v c x z o w){T N:Nat->Prop}(d:Af)(hd:d≠.out)(f:Turns T w w')(i:∀k,T k->κ k=d)(j:Ct g gs s' v' 4 c' x' z o d w' N)(l:∀k,N k->κ k=d∨w.heap.size<=k)(m:∀e,e≠d->Ct g gs s' v' 4 c' x' z o e=Ct g gs s v 4 c x z o e):jJ w0 (iC κ w.heap.size d) g gs s' v' c' x' z o w' :=
 ⟨h.held.act (lJ a b) f i (X':=Ct g gs s' v' 4 c' x' z o) (lJ a b d) j l m,h.pow,h.qL.trans (f.below (fun k e=>h.far k (by rw[i k e];exact hd)) h.qL.size),Jp h.far h.qL.size⟩
theorem jJ.stay (b:∀k,kD (z k))(d:kD o)(h:jJ w0 κ g gs s v c x z o w)(a:Below w.heap.size w w'):jJ w0 κ g gs s v c x z o w':=⟨h.held.stay (lJ b d) a,h.pow,then_ h.qL a,h.far⟩
theorem jJ.trim (a:∀k,kD (z k))(b:kD o)(h:jJ w0 κ g gs s v c x z o w):jJ w0 (iC κ w.heap.size .out) g gs s v c x z o w:=by
 refine⟨fun d=>?_,h.pow,h.qL,Jp h.far h.qL.size⟩;exact(lJ a b d).mono (h.held d) (fun k f e=>(ig f).trans e)
theorem jJ.row (a:∀k,kD (z k))(b:kD o)(h:jJ w0 κ g gs s v c x z o w)(f:jU w' g gs v')(j:Turns (fun i=>i=g) w w'):jJ w0 (iC κ w.heap.size .row) g gs s v' c x z o w' :=
 h.act a b .row (by intro h;cases h) j (fun k e=>by rw[e];exact(h.held .row).2) (N:=fun k=>k=g) ⟨f,rfl⟩ (fun k e=>A (by rw[e];exact(h.held .row).2)) (fun d l=>by cases d <;> first | rfl | exact absurd rfl l)
theorem jJ.iX (a:∀k,kD (z k))(b:kD o)(h:jJ w0 κ g gs s v c x z o w)(f:gV w' (gB (fun k=>κ k=.iX) w) gs s')(i:Turns (fun k=>κ k=.iX) w w'):jJ w0 (iC κ w.heap.size .iX) g gs s' v c x z o w' :=
 h.act a b .iX (by intro h;cases h) i (fun _ e=>e) f (fun _ e=>e) (fun d j=>by cases d <;> first | rfl | exact absurd rfl j)
theorem jJ.XL (h:jJ w0 κ g gs s v c x z o w):jU w g gs v:=(h.held .row).1
theorem jJ.head (h:jJ w0 κ g gs s v c x z o w)(k:Nat)(hd:Rq.Hd)(fo:ak)(fV:Nat)(f:nM w (fun i=>κ i=.fl k) fo fV hd.fields.length (gG (Rq.nu hd.fields))):jJ w0 κ g gs s v (upd c k { c k with hd:=hd }) (upd x k { x k with fo:=fo,fV:=fV }) z o w:=by
 refine⟨fun d=>?_,h.pow,h.qL,h.far⟩;have a:=h.held d;cases d with
 | row=>exact a
 | iX=>exact a
 | rq j =>
   intro b;by_cases e:j=k
   . subst e;rw[iI,iI];exact a b
   . rw[upd_ne _ _ e,upd_ne _ _ e];exact a b
 | fl j =>
   refine⟨fun b=>?_,a.2⟩;by_cases e:j=k
   . subst e;rw[iI,iI];exact f
   . rw[upd_ne _ _ e,upd_ne _ _ e];exact a.1 b
 | bd j =>
   intro b;by_cases e:j=k
   . subst e;rw[iI,iI];exact a b
   . rw[upd_ne _ _ e,upd_ne _ _ e];exact a b
 | ret=>exact a
 | out=>trivial
theorem jJ.nobody (h:jJ w0 κ g gs s v c x z o w)(k:Nat):jJ w0 κ g gs s v (upd c k { c k with body:=[] }) (upd x k { x k with bo:=U,fU:=0 }) z o w:=by
 refine⟨fun d=>?_,h.pow,h.qL,h.far⟩;have a:=h.held d;cases d with
 | row=>exact a
 | iX=>exact a
 | rq j =>
   intro b;by_cases e:j=k
   . subst e;rw[iI,iI];exact a b
   . rw[upd_ne _ _ e,upd_ne _ _ e];exact a b
 | fl j =>
   refine⟨fun b=>?_,a.2⟩;by_cases e:j=k
   . subst e;rw[iI,iI];exact a.1 b
   . rw[upd_ne _ _ e,upd_ne _ _ e];exact a.1 b
 | bd j =>
   intro b;by_cases e:j=k
   . subst e;rw[iI,iI];exact gK.nil _ _ _
   . rw[upd_ne _ _ e,upd_ne _ _ e];exact a b
 | ret=>exact a
 | out=>trivial
theorem jJ.grow (q:∀k,kD (z k))(r:kD o)(h:jJ w0 κ g gs s v c x z o w)(k:Nat)(t:k<4){n:ak}{p:Nat}{b:av}(u:gK w' (fun i=>jy (c k).body (x k).bo=M i∨w.heap.size<=i) 5 n p ((c k).body++b))(y:Turns (fun i=>jy (c k).body (x k).bo=M i) w w'):jJ w0 (iC κ w.heap.size (.bd k)) g gs s v (upd c k { c k with body:=(c k).body++b }) (upd x k { x k with bo:=n,fU:=p }) z o w':=by
 have f:∀i,jy (c k).body (x k).bo=M i->κ i=.bd k:=fun i e=>by
  unfold jy at e;split at e
  . cases e
  . rename_i l;rcases h.held (.bd k) t with ⟨_,_,B⟩ | ⟨C,_⟩
    . cases m:(x k).bo with
      | none=>rw[m] at e;cases e
      | some a=>rw[m] at e;injection e with e;rw[<-e];exact B a m
    . exact absurd C l
 refine h.act q r (.bd k) (by intro h;cases h) y f (N:=fun i=>jy (c k).body (x k).bo=M i∨w.heap.size<=i) ?_ (fun i e=>?_) (fun d D=>?_)
 . intro _;rw[iI,iI];exact u
 . rcases e with e | e
   . exact A (f i e)
   . exact R e
 . cases d with
   | row=>rfl
   | iX=>rfl
   | rq j =>
     by_cases e:j=k
     . subst e;simp only[Ct,iI]
     . simp only[Ct];rw[upd_ne _ _ e,upd_ne _ _ e]
   | fl j =>
     by_cases e:j=k
     . subst e;simp only[Ct,iI]
     . simp only[Ct];rw[upd_ne _ _ e,upd_ne _ _ e]
   | bd j =>
     have e:j≠k:=fun e=>D (by rw[e]);simp only[Ct];rw[upd_ne _ _ e,upd_ne _ _ e]
   | ret=>rfl
   | out=>rfl
end
theorem jU.ahf {w:X}{g gs:Nat}{v:Nat->List Value}(h:jU w g gs v){k:Nat}(a:k<4){l n a2 p q r m:Value}(s:v k=[l,n,a2,p,q,r,m]){o:Nat}(t:1+k*7=o)(b c d e f:Value):
 jU (((((w.setCell ⟨g,o+1,U⟩ b).setCell ⟨g,o+2,U⟩ c).setCell ⟨g,o+3,U⟩ d).setCell ⟨g,o+4,U⟩ e).setCell ⟨g,o+5,U⟩ f) g gs (upd v k [l,b,c,d,e,f,m])∧Turns (fun i=>i=g) w (((((w.setCell ⟨g,o+1,U⟩ b).setCell ⟨g,o+2,U⟩ c).setCell ⟨g,o+3,U⟩ d).setCell ⟨g,o+4,U⟩ e).setCell ⟨g,o+5,U⟩ f):=by
 subst t;refine⟨?_,gX g [b,c,d,e,f] (1+k*7+1) w⟩;have:=((((h.set a (j:=1) (by decide) b).set a (j:=2) (by decide) c).set a (j:=3) (by decide) d).set a (j:=4) (by decide) e).set a (j:=5) (by decide) f;simp only[pX,iI,s] at this;exact this
def Ext {C:Type}(κ Cq:Nat->C)(n:Nat):Prop:=∀i,i<n->Cq i=κ i
theorem Ext.iC {C:Type}{κ a:Nat->C}{n m:Nat}(h:Ext κ a n)(c:n<=m)(d:C):Ext κ (iC a m d) n:=fun i b=>by rw[ig (by omega)];exact h i b
theorem Ext.refl {C:Type}(κ:Nat->C)(n:Nat):Ext κ κ n:=fun _ _=>rfl
structure xI (w0:X)(κ:Nat->Af)(g gs:Nat)(c:Nat->Gt.Cn)(z:Nat->Ob)(o:Ob)(k:Nat)(w:X)(G:Gt.Gs)(e:Ending)(w':X):Prop where
 ret:∃(ao:ak) (cap n:Nat),e=Y (Z ao n cap)∧n=G.out.length∧gN w' ao cap G.out
 at_:∃Cq x',jJ w0 Cq g gs G.s (xW (upd c k ⟨(c k).rq,G.hd,G.body⟩) x') (upd c k ⟨(c k).rq,G.hd,G.body⟩) x' z o w'∧Ext κ Cq w.heap.size
 turns:Turns (fun i=>κ i=.row∨κ i=.iX∨κ i=.bd k) w w'
section
variable {w0 w:X} {κ:Nat->Af} {g gs:Nat} {s:Sr.Sh} {c:Nat->Gt.Cn} {x:Nat->Ql} {z:Nat->Ob} {o:Ob} {k:Nat}
theorem aaT {hd:Rq.Hd}(h:Rq.oU hd){fo:ak}{fV:Nat}(a:jl w fo fV hd.fields.length (gG (Rq.nu hd.fields))):pE w (Gt.nu hd.fields) fo fV hd.fields.length :=
 ⟨a, by rw[show Gt.nu hd.fields = Rq.nu hd.fields from rfl]; exact Rq.qF _, by have := h.many; omega, fun p b => by
  obtain⟨f,d,rfl⟩:=aN.1 b;have:=h.fields f d;refine⟨?_,?_⟩
  . show f.1.toArray.size<=_;rw[bK];omega
  . show f.2.toArray.size<=_;rw[bK];omega⟩
theorem Ue (u:∀k,kD (z k))(v:kD o)(h:jJ w0 κ g gs s (xW c x) c x z o w)(b:k<4)(hd:Rq.Hd){fo bo n:ak}{fV nf nb fU p r:Nat}(y:hd.fields.length=nf)(H:nM w (fun i=>κ i=.fl k) fo fV nf (gG (Rq.nu hd.fields))):
 Calls prog 46 #[Q (M ⟨g,0,U⟩),Q (M ⟨g,1+k*7,U⟩),.agg #[I J 1,V ⟨hd.method.toArray⟩,V ⟨hd.target.toArray⟩,I J (hd.minor:Int),Z fo nf fV,I J hd.length,Z bo nb fU,V ⟨#[]⟩,V ⟨#[]⟩,V ⟨#[]⟩,Z n p r,I J 0]] w fun e w'=>xI w0 κ g gs c z o k w ⟨s,hd,(c k).body,[]⟩ e w':=by
 have l:=(eY _ w).alloc (aM _) (K #[I J 1,V ⟨hd.method.toArray⟩,V ⟨hd.target.toArray⟩,I J (hd.minor:Int),Z fo nf fV,I J hd.length,Z bo nb fU,V ⟨#[]⟩,V ⟨#[]⟩,V ⟨#[]⟩,Z n p r,I J 0] 98);have B:=h.stay u v l;have a:=B.XL;have d:xW c x k=[Q (M ⟨(x k).gp,0,U⟩),V ⟨(c k).hd.method.toArray⟩,V ⟨(c k).hd.target.toArray⟩,I J ((c k).hd.minor:Int),Z (x k).fo (c k).hd.fields.length (x k).fV,I J (c k).hd.length,Z (x k).bo (c k).body.length (x k).fU]:=rfl;have L:=a.at_ b (j:=1) (by decide) (by rw[d];rfl);have N:=a.at_ b (j:=2) (by decide) (by rw[d];rfl);have T:=a.at_ b (j:=3) (by decide) (by rw[d];rfl);have W:=a.at_ b (j:=4) (by decide) (by rw[d];rfl);have c5:=a.at_ b (j:=5) (by decide) (by rw[d];rfl);have f1:=a.fz (1+k*7+1);have f2:=a.fz (1+k*7+2);have f3:=a.fz (1+k*7+3);have f4:=a.fz (1+k*7+4);have f5:=a.fz (1+k*7+5)
 obtain⟨q,C⟩:∃q,1+k*7=q:=⟨_,rfl⟩;have D:=a.ahf b d C (V ⟨hd.method.toArray⟩) (V ⟨hd.target.toArray⟩) (I J (hd.minor:Int)) (Z fo nf fV) (I J hd.length);rw[C] at L N T W c5 f1 f2 f3 f4 f5 ⊢;have t:=H.turns (Turns.of_below (S:=fun _=>False) l) (fun _ _ e=>e);have f:∀m,jU m g gs (upd (xW c x) k [Q (M ⟨(x k).gp,0,U⟩),V ⟨hd.method.toArray⟩,V ⟨hd.target.toArray⟩,I J (hd.minor:Int),Z fo nf fV,I J hd.length,Z (x k).bo (c k).body.length (x k).fU])->Turns (fun i=>i=g) (w.alloc (K #[I J 1,V ⟨hd.method.toArray⟩,V ⟨hd.target.toArray⟩,I J (hd.minor:Int),Z fo nf fV,I J hd.length,Z bo nb fU,V ⟨#[]⟩,V ⟨#[]⟩,V ⟨#[]⟩,Z n p r,I J 0] 98)) m->xI w0 κ g gs c z o k w ⟨s,hd,(c k).body,[]⟩ (Y (Z U 0 0)) m:=fun m hr G=>by
  have h2:=B.head k hd fo fV (by rw[y];exact t);have h3:=h2.row u v hr G;refine⟨⟨U,0,0,rfl,rfl,gN.nil _⟩,⟨_,upd x k { x k with fo:=fo,fV:=fV },?_,(Ext.refl κ _).iC l.size .row⟩,(Turns.of_below l).trans G (fun i e _=>A (by rw[e];exact(h.held .row).2))⟩;rw[zk];have:Uy ⟨(c k).rq,hd,(c k).body⟩ { x k with fo:=fo,fV:=fV }=[Q (M ⟨(x k).gp,0,U⟩),V ⟨hd.method.toArray⟩,V ⟨hd.target.toArray⟩,I J (hd.minor:Int),Z fo nf fV,I J hd.length,Z (x k).bo (c k).body.length (x k).fU]:=by unfold Uy;rw[y]
  rw[this];exact h3
 go_enter func46,ntmps46;go_wp2;go_ret;exact f _ D.1 D.2
theorem Uf (G:∀k,kD (z k))(H:kD o)(h:jJ w0 κ g gs s (xW c x) c x z o w)(p:k<4)(b:av){fo bo r:ak}{fV nf nb fU t u:Nat}(hn:b.length=nb)(hB:gN w bo fU b)(hl:(c k).body.length+nb<=100000):
 Calls prog 46 #[Q (M ⟨g,0,U⟩),Q (M ⟨g,1+k*7,U⟩),.agg #[I J 2,V ⟨#[]⟩,V ⟨#[]⟩,I J 0,Z fo nf fV,I J 0,Z bo nb fU,V ⟨#[]⟩,V ⟨#[]⟩,V ⟨#[]⟩,Z r t u,I J 0]] w fun e w'=>xI w0 κ g gs c z o k w ⟨s,(c k).hd,(c k).body++b,[]⟩ e w':=by
 have L:=(eY _ w).alloc (aM _) (K #[I J 2,V ⟨#[]⟩,V ⟨#[]⟩,I J 0,Z fo nf fV,I J 0,Z bo nb fU,V ⟨#[]⟩,V ⟨#[]⟩,V ⟨#[]⟩,Z r t u,I J 0] 98);have N:=(h.stay G H L).stay G H (gy _ _);have hg:=N.XL;have hv:xW c x k=[Q (M ⟨(x k).gp,0,U⟩),V ⟨(c k).hd.method.toArray⟩,V ⟨(c k).hd.target.toArray⟩,I J ((c k).hd.minor:Int),Z (x k).fo (c k).hd.fields.length (x k).fV,I J (c k).hd.length,Z (x k).bo (c k).body.length (x k).fU]:=rfl;have c6:=hg.at_ p (j:=6) (by decide) (by rw[hv];rfl);have S:=N.held (.bd k) p;have HB:=(hB.stay L).stay (gy _ _);obtain⟨j0,T,W,hy1,hy2⟩:=info_parts jI;have Hj:=T;have NR:=H9 W;have NS:=H9 hy1;have NT:=H9 hy2
 obtain⟨q,hq⟩:∃q,1+k*7=q:=⟨_,rfl⟩;have pK:∀f l d,gK d (fun i=>jy (c k).body (x k).bo=M i∨(w.alloc (K #[I J 2,V ⟨#[]⟩,V ⟨#[]⟩,I J 0,Z fo nf fV,I J 0,Z bo nb fU,V ⟨#[]⟩,V ⟨#[]⟩,V ⟨#[]⟩,Z r t u,I J 0] 98)).drew.heap.size<=i) 5 f l ((c k).body++b)->Turns (fun i=>jy (c k).body (x k).bo=M i) (w.alloc (K #[I J 2,V ⟨#[]⟩,V ⟨#[]⟩,I J 0,Z fo nf fV,I J 0,Z bo nb fU,V ⟨#[]⟩,V ⟨#[]⟩,V ⟨#[]⟩,Z r t u,I J 0] 98)).drew d->(d.cell? ⟨g,q+6,U⟩=M (Z (x k).bo (c k).body.length (x k).fU)∧d.frozen? ⟨g,q+6,U⟩=F)∧xI w0 κ g gs c z o k w ⟨s,(c k).hd,(c k).body++b,[]⟩ (Y (Z U 0 0)) (d.setCell ⟨g,q+6,U⟩ (Z f ((c k).body.length+nb) l)):=fun f l d MC v=>by
  have h5:=N.grow G H k p MC v;have m:=h5.XL;have hr:=m.set p (j:=6) (by decide) (Z f ((c k).body.length+nb) l);have n:Turns (fun i=>i=g) d (d.setCell ⟨g,1+k*7+6,U⟩ (Z f ((c k).body.length+nb) l)):=Turns.setCell _ _ _ _ rfl;have h6:=h5.row G H hr n;rw[hq] at h6 n;have y:=m.at_ p (j:=6) (by decide) (by rw[hv];rfl);have B:=m.fz (1+k*7+6);rw[hq] at y B;have hz5:=v.size;have hza:(w.alloc (K #[I J 2,V ⟨#[]⟩,V ⟨#[]⟩,I J 0,Z fo nf fV,I J 0,Z bo nb fU,V ⟨#[]⟩,V ⟨#[]⟩,V ⟨#[]⟩,Z r t u,I J 0] 98)).drew.heap.size=w.heap.size+1:=by show(w.alloc _).heap.size=_;rw[fG]
  refine⟨⟨y,B⟩,⟨⟨U,0,0,rfl,rfl,gN.nil _⟩,⟨iC (iC κ (w.alloc (K #[I J 2,V ⟨#[]⟩,V ⟨#[]⟩,I J 0,Z fo nf fV,I J 0,Z bo nb fU,V ⟨#[]⟩,V ⟨#[]⟩,V ⟨#[]⟩,Z r t u,I J 0] 98)).drew.heap.size (.bd k)) d.heap.size .row,upd x k { x k with bo:=f,fU:=l },?_,((Ext.refl κ _).iC (by omega) _).iC (by omega) _⟩,((Turns.of_below (then_ L (gy _ _))).trans v (fun i e _=>?_)).trans n (fun i e _=>A (by rw[e];exact(h.held .row).2))⟩⟩
  . rw[zk];have:Uy ⟨(c k).rq,(c k).hd,(c k).body++b⟩ { x k with bo:=f,fU:=l }=(xW c x k).set 6 (Z f ((c k).body.length+nb) l):=by unfold Uy xW;rw[aV,hn];rfl
    rw[this];exact h6
  . have C:(c k).body≠[]:=fun e2=>by unfold jy at e;rw[if_pos e2] at e;cases e
    rcases h.held (.bd k) p with ⟨_,_,h3⟩ | ⟨h3,_⟩
    . unfold jy at e;rw[if_neg C] at e;cases sK:(x k).bo with
      | none=>rw[sK] at e;cases e
      | some a=>rw[sK] at e;injection e with e;rw[<-e];exact R (R (h3 a sK))
    . exact absurd h3 C
 rw[hq] at c6 ⊢;generalize hbl:(c k).body.length=nl at *;go_enter func46,ntmps46;go_upto_region 5 with fail
 go_region_law ((refine nT (by rfl) (.tmp 24) (.tmp 26) 31 (by rfl) 5 j0 underlying31 Hj NR.o NS.o NT.o (by rfl) (by rfl) S hbl HB hn (by omega) ?_;intro bo5 D d xC v;obtain⟨⟨d6,e6⟩,hm⟩:=pK bo5 D d xC v;have HM:=H9 hm;clear xC v hm))
 all_goals
  go_wp2;go_ret;exact HM.o
theorem XM (L:∀k,kD (z k))(N:kD o)(h:jJ w0 κ g gs s (xW c x) c x z o w)(T:k<4)(ok:Sr.Ok s)(hc:Gt.BP (c k)){fo bo p:ak}{fV nf nb fU q r:Nat}(hl:(c k).body.length<=20000):
 Calls prog 46 #[Q (M ⟨g,0,U⟩),Q (M ⟨g,1+k*7,U⟩),.agg #[I J 3,V ⟨#[]⟩,V ⟨#[]⟩,I J 0,Z fo nf fV,I J 0,Z bo nb fU,V ⟨#[]⟩,V ⟨#[]⟩,V ⟨#[]⟩,Z p q r,I J 0]] w fun e w'=>xI w0 κ g gs c z o k w (Gt.ev Tu.iQ ⟨s,(c k).hd,(c k).body,[]⟩ .fin) e w':=by
 have hb:=(eY _ w).alloc (aM _) (K #[I J 3,V ⟨#[]⟩,V ⟨#[]⟩,I J 0,Z fo nf fV,I J 0,Z bo nb fU,V ⟨#[]⟩,V ⟨#[]⟩,V ⟨#[]⟩,Z p q r,I J 0] 98);have f:(w.alloc (K #[I J 3,V ⟨#[]⟩,V ⟨#[]⟩,I J 0,Z fo nf fV,I J 0,Z bo nb fU,V ⟨#[]⟩,V ⟨#[]⟩,V ⟨#[]⟩,Z p q r,I J 0] 98)).heap.size=w.heap.size+1:=fG ..;have h0:=h.trim L N;have h1:=h0.stay L N hb;have H0:=h;have H1:=H9 h1;have j:=H9 L;have W:=H9 N;have u:=H9 hc;have uR:=H9 ok
 have HZa:=H9 f;obtain⟨a,hR⟩:∃a,a=Gt.over Tu.iQ s (c k).hd (c k).body:=⟨_,rfl⟩;have HG:Gt.ev Tu.iQ ⟨s,(c k).hd,(c k).body,[]⟩ .fin=⟨a.1,Rq.hd0,[],Gt.textOf a.2⟩:=by rw[hR];rfl
 have l:=H9 hR;rw[HG];clear h h0 f  hR HG L N hc ok;go_enter func46,ntmps46;go_wp2_with fail
 refine(Ak h1.XL T (rfl:xW c x k=[Q (M ⟨(x k).gp,0,U⟩),V ⟨(c k).hd.method.toArray⟩,V ⟨(c k).hd.target.toArray⟩,I J ((c k).hd.minor:Int),Z (x k).fo (c k).hd.fields.length (x k).fV,I J (c k).hd.length,Z (x k).bo (c k).body.length (x k).fU])).mono ?_;rintro e w2 ⟨rfl,hr2,jM⟩;have b:=H1.o.row j.o W.o hr2 jM;have hz2:=jM.size;have v:∀i,i=g->iC κ w.heap.size .out i=.row:=fun i e=>by rw[e];exact(H1.o.held .row).2
 have hfl:=((b.held (.fl k)).1 T).is;have hby:=gK.tN (b.held (.bd k) T);have H2:=H9 b;have HT2:=H9 jM
 go_wp2_with fail
 refine(OU (m:=⟨(c k).hd.method.toArray⟩) (t:=⟨(c k).hd.target.toArray⟩) (mi:=((c k).hd.minor:Int)) (ln:=(c k).hd.length) ⟨b.pow,b.qL,fun i e=>b.far i (by rw[e];intro h;cases h)⟩ (b.held .iX) uR.o b.XL.store (aaT u.o.hd hfl) (c k).body rfl hby hl (by show(c k).hd.target.toArray.size<=_;rw[bK];have:=u.o.hd.target;omega)).mono ?_;rintro e w3 ⟨⟨fo3,aeM,nf3,bo3,aeN,nb3,rfl,y,B,C,D,_,_⟩,jP,nZ⟩;rw[show Gt.answer Tu.iQ s ⟨(c k).hd.method.toArray⟩ ⟨(c k).hd.target.toArray⟩ (Gt.nu (c k).hd.fields) (c k).body=a from l.o.symm] at y B C D jP;rw[show Gt.answer Tu.iQ s ⟨(c k).hd.method.toArray⟩ ⟨(c k).hd.target.toArray⟩ (Gt.nu (c k).hd.fields) (c k).body=a from l.o.symm];have h3:=H2.o.iX j.o W.o jP nZ;have hz3:=nZ.size;have hsm:Gt.Small a.2:=by rw[l.o];exact Gt.yS uR.o _ _ _ _
 have H3:=H9 h3;have HT3:=H9 nZ
 go_wp2_with fail
 refine(Gz w3 a.2 fo3 bo3 nf3 aeM nb3 aeN hsm y B C D (h3.pow.stay h3.qL)).mono ?_;rintro e w4 ⟨⟨rH,d,n4,rfl,OX,G⟩,n⟩;have h4:=H3.o.stay j.o W.o n;have h5:=(h4.head k Rq.hd0 U 0 (nM.nil _ _)).nobody k;rw[pX,pX,iI,iI] at h5;have H:Hid (xI w0 κ g gs c z o k w ⟨a.1,Rq.hd0,[],Gt.textOf a.2⟩ (Y (Z rH n4 d)) w4):=by
  have f:=HZa.o;refine⟨⟨rH,d,n4,rfl,OX,G⟩,⟨_,upd x k { gp:=(x k).gp,fo:=U,fV:=0,bo:=U,fU:=0 },?_,(((Ext.refl κ w.heap.size).iC (aM _) .out).iC (m:=(w.alloc (K #[I J 3,V ⟨#[]⟩,V ⟨#[]⟩,I J 0,Z fo nf fV,I J 0,Z bo nb fU,V ⟨#[]⟩,V ⟨#[]⟩,V ⟨#[]⟩,Z p q r,I J 0] 98)).heap.size) (by omega) .row).iC (m:=w2.heap.size) (by omega) .iX⟩,?_⟩
  . rw[zk];exact h5
  . refine(((Turns.of_below hb).trans HT2.o (fun i e hi=>A ?_)).trans HT3.o (fun i e hi=>R (A ?_))).trans (Turns.of_below (S:=fun _=>False) n) (fun _ e _=>e.elim)
    . have:=v i e;rw[ig hi] at this;exact this
    . have e:iC (iC κ w.heap.size .out) (w.alloc (K #[I J 3,V ⟨#[]⟩,V ⟨#[]⟩,I J 0,Z fo nf fV,I J 0,Z bo nb fU,V ⟨#[]⟩,V ⟨#[]⟩,V ⟨#[]⟩,Z p q r,I J 0] 98)).heap.size .row i=.iX:=e;rw[ig (by omega),ig hi] at e;exact e
 clear h4 h5 n G v OX;go_wp2;go_ret;exact H.o
theorem Ug (y:∀k,kD (z k))(B:kD o)(h:jJ w0 κ g gs s (xW c x) c x z o w)(hk:k<4)(a:Nat){fo bo j:ak}{fV nf nb fU l n:Nat}:
 Calls prog 46 #[Q (M ⟨g,0,U⟩),Q (M ⟨g,1+k*7,U⟩),.agg #[I J 4,V ⟨#[]⟩,V ⟨#[]⟩,I J 0,Z fo nf fV,I J 0,Z bo nb fU,V ⟨#[]⟩,V ⟨#[]⟩,V ⟨#[]⟩,Z j l n,I J (a:Int)]] w fun e w'=>xI w0 κ g gs c z o k w ⟨s,Rq.hd0,[],Gt.textOf (Gt.qW a)⟩ e w':=by
 have hb:=(eY _ w).alloc (aM _) (K #[I J 4,V ⟨#[]⟩,V ⟨#[]⟩,I J 0,Z fo nf fV,I J 0,Z bo nb fU,V ⟨#[]⟩,V ⟨#[]⟩,V ⟨#[]⟩,Z j l n,I J (a:Int)] 98);have p:(w.alloc (K #[I J 4,V ⟨#[]⟩,V ⟨#[]⟩,I J 0,Z fo nf fV,I J 0,Z bo nb fU,V ⟨#[]⟩,V ⟨#[]⟩,V ⟨#[]⟩,Z j l n,I J (a:Int)] 98)).heap.size=w.heap.size+1:=fG ..;have h0:=h.trim y B;have h1:=h0.stay y B hb;have C:w.heap.size≠g:=by have:=h.XL.lt;omega
 have H1:=h1;have d:=H9 y;have D:=H9 B
 have G:=H9 p;have xV:=eX w (K #[I J 4,V ⟨#[]⟩,V ⟨#[]⟩,I J 0,Z fo nf fV,I J 0,Z bo nb fU,V ⟨#[]⟩,V ⟨#[]⟩,V ⟨#[]⟩,Z j l n,I J (a:Int)] 98);go_enter func46,ntmps46;go_wp2_with fail
 refine(Ak h1.XL hk (rfl:xW c x k=[Q (M ⟨(x k).gp,0,U⟩),V ⟨(c k).hd.method.toArray⟩,V ⟨(c k).hd.target.toArray⟩,I J ((c k).hd.minor:Int),Z (x k).fo (c k).hd.fields.length (x k).fV,I J (c k).hd.length,Z (x k).bo (c k).body.length (x k).fU])).mono ?_;rintro e w2 ⟨rfl,H,v⟩;have h2:=H1.row d.o D.o H v;have hz2:=v.size;have a11:=eZ w2 _ 11 _ _ _ (v.row xV C);have q:∀i,i=g->iC κ w.heap.size .out i=.row:=fun i e=>by rw[e];exact(H1.held .row).2
 have H2:=h2;have L:=H9 v
 go_wp2_with fail
 refine((fun W=>NW a W) _).mono ?_;rintro e w3 ⟨rfl,r⟩;have N:=H2.stay d.o D.o r;have H3:=N;have T:=H9 r
 go_wp2_with fail
 refine(Gz w3 (Gt.qW a) U U 0 0 0 0 (Gt.xw a) rfl (jl.nil _) rfl (gN.nil _) (N.pow.stay N.qL)).mono ?_;rintro e w4 ⟨⟨rH,b,n4,rfl,OX,t⟩,f⟩;have h4:=H3.stay d.o D.o f;have h5:=(h4.head k Rq.hd0 U 0 (nM.nil _ _)).nobody k;rw[pX,pX,iI,iI] at h5;have u:xI w0 κ g gs c z o k w ⟨s,Rq.hd0,[],Gt.textOf (Gt.qW a)⟩ (Y (Z rH n4 b)) w4:=by
  have p:=G.o;refine⟨⟨rH,b,n4,rfl,OX,t⟩,⟨_,upd x k { gp:=(x k).gp,fo:=U,fV:=0,bo:=U,fU:=0 },?_,((Ext.refl κ w.heap.size).iC (aM _) .out).iC (m:=(w.alloc (K #[I J 4,V ⟨#[]⟩,V ⟨#[]⟩,I J 0,Z fo nf fV,I J 0,Z bo nb fU,V ⟨#[]⟩,V ⟨#[]⟩,V ⟨#[]⟩,Z j l n,I J (a:Int)] 98)).heap.size) (by omega) .row⟩,?_⟩
  . rw[zk];exact h5
  . refine((Turns.of_below hb).trans L.o (fun i e hi=>A ?_)).trans (Turns.of_below (S:=fun _=>False) (then_ T.o f)) (fun _ e _=>e.elim);have:=q i e;rw[ig hi] at this;exact this
 clear h4 h5 f t q OX;go_wp2;go_ret;exact u
end
def YC (ao:ak)(cap:Nat)(es:List iH):Ob:=fun w S=>mR w S 98 ao cap es
theorem YC.law (ao:ak)(cap:Nat)(es:List iH):kD (YC ao cap es):=⟨fun h b a=>mR.turns h b a,fun h a=>mR.mono h a⟩
def GrO (ao:ak)(cap:Nat)(l:av):Ob:=fun w S=>gK w S 5 ao cap l
theorem GrO.law (ao:ak)(cap:Nat)(l:av):kD (GrO ao cap l):=⟨fun h b a=>gK.turns h b a,fun h a=>gK.mono h a⟩
def XO (k:Nat)(b:Ob):Nat->Ob:=fun j w S=>j=k->b w S
theorem XO.law {k:Nat}{b:Ob}(c:kD b):∀j,kD (XO k b j):=fun _=>⟨fun h d a e=>c.turns (h e) d a,fun h a e=>c.mono (h e) a⟩
theorem mR.lit {w:X}{S:Nat->Prop}{g:Nat}{ao:ak}{cap:Nat}{es:List iH}(h:mR w S g ao cap es)(k:0<es.length):∃b o,ao=M ⟨b,o,U⟩∧∀j (d:j<es.length),∃s,(∀i u,(es[j].cells s)[i]? = M u->w.cell? ⟨b,o+j*12+i,U⟩=M u)∧BQ w S es[j] s:=by
 obtain⟨f,rfl,l,_,m⟩:=h;have n:=l.qP;obtain⟨b,o,rfl,p⟩:=n.lit (by rw[nP];rw[aF] at k;omega);refine⟨b,o,rfl,fun j d=>?_⟩;have a:j<f.length:=by simpa using d
 refine⟨f[j].2,fun i u c=>?_,?_⟩
 . rw[aG] at c;have q:i<12:=(aQ.1 c).1;rw[<-sJ _ j a i q] at c;have:=p _ _ c;rw[bJ];exact this
 . rw[aG];exact(m _ (aC a)).mono (fun _ _ e=>e.1)
section
variable {w0 w w':X} {κ:Nat->Af} {g gs:Nat} {s:Sr.Sh} {v:Nat->List Value} {c:Nat->Gt.Cn} {x:Nat->Ql} {z:Nat->Ob} {o o':Ob} {k:Nat}
theorem jJ.answered (i:∀k,kD (z k))(j:kD o)(a:kD o')(h:jJ w0 κ g gs s v c x z o w){T N:Nat->Prop}(b:Turns T w w')(f:∀k,T k->κ k=.ret)(l:o' w' N)(m:∀k,N k->κ k=.ret∨w.heap.size<=k):jJ w0 (iC κ w.heap.size .ret) g gs s v c x z o' w' :=
 ⟨h.held.act (lJ i j) b f (X':=Ct g gs s v 4 c x z o') a l m (fun d n=>by cases d <;> first | rfl | exact absurd rfl n),h.pow,h.qL.trans (b.below (fun k e=>h.far k (by rw[f k e];intro h;cases h)) h.qL.size),Jp h.far h.qL.size⟩
theorem aco (c:Nat->Gt.Cn)(x:Nat->Ql)(k:Nat)(r:Rq.St):xW (upd c k { c k with rq:=r }) x=xW c x:=by
 funext i;unfold xW upd;split
 . next h=>subst h;rfl
 . rfl
theorem jJ.fed (h:jJ w0 κ g gs s v c x KE zR w)(B:k<4){l:av}{e:Ending}(D:Pf w (fun i=>κ i=.rq k) (x k).gp (c k).rq l e w'):∃ao cap n a,e=Y (Z ao n cap)∧n=(Rq.join (Rq.outs (c k).rq l)).length∧jJ w0 a g gs s v (upd c k { c k with rq:=Rq.fold (c k).rq l }) x (XO k (YC ao cap ((Rq.join (Rq.outs (c k).rq l)).map Rq.Ev.d))) zR w'∧Turns (fun i=>κ i=.rq k) w w'∧∀i,i<w.heap.size->a i=κ i∨κ i≠.out:=by
 obtain⟨ao,cap,n,G,f,H,L,N,T,hd,hS,m,q⟩:=D;obtain⟨a,r,b,h3⟩:=h.held.split (lJ (fun _=>kD.ku) kD.ku) (p:=.rq k) (e:=.fl k) (by intro h;cases h) (X':=Ct g gs s v 4 (upd c k { c k with rq:=Rq.fold (c k).rq l }) x (XO k (YC ao cap ((Rq.join (Rq.outs (c k).rq l)).map Rq.Ev.d))) zR) q (fun _ e=>e) (P:=G) (E:=f) (fun _=>by rw[iI];exact N) (lJ (XO.law (YC.law _ _ _)) kD.ku _) hd hS m
  (fun S hX t u=>⟨fun B=>by rw[iI];exact(hX.1 B).mono (fun i _ e=>t i e),fun _=>T.all.mono (fun i _ e=>u i e)⟩)
  (fun d r b => by
   cases d with
   | row=>rfl
   | iX=>rfl
   | rq j =>
     have e:j≠k:=fun e=>r (by rw[e]);simp only[Ct];rw[upd_ne _ _ e]
   | fl j =>
     have e:j≠k:=fun e=>b (by rw[e]);simp only[Ct];rw[upd_ne _ _ e];funext W S;unfold XO;simp[e]
   | bd j =>
     by_cases e:j=k
     . subst e;simp only[Ct,iI]
     . simp only[Ct];rw[upd_ne _ _ e]
   | ret=>rfl
   | out=>rfl)
 refine⟨ao,cap,n,a,H,L,⟨r,h.pow,h.qL.trans (q.below (fun i e=>h.far i (by rw[e];intro h;cases h)) h.qL.size),fun i y=>?_⟩,q,fun i y=>?_⟩
 . rcases aT i w.heap.size with C | C
   . rcases b i C with e | e
     . exact h.far i (by rw[<-e];exact y)
     . exact h.far i (by rw[e.1];intro h;cases h)
   . have:=h.qL.size;omega
 . rcases b i y with e | e
   . exact A e
   . exact R (by rw[e.1];intro h;cases h)
end
structure XP (S:Nat->Prop)(w:X)(g gs:Nat)(c:Nat->Gt.Cn)(k:Nat)(r:Sr.Sh×Gt.Cn×av)(code:Int)(e:Ending)(w':X):Prop where
 ret:∃(ao:ak) (cap n:Nat),e=Y (.tuple #[Z ao n cap,I J code])∧n=r.2.2.length∧gN w' ao cap r.2.2
 at_:jf w' (gB S w) g gs r.1 (upd c k r.2.1)
 turns:Turns S w w'
section
variable {w0 w:X} {S:Nat->Prop} {g gs:Nat} {s:Sr.Sh} {c:Nat->Gt.Cn}
theorem XQ {κ:Nat->Af}{x:Nat->Ql}{z:Nat->Ob}{o:Ob}{k:Nat}(a:∀k,kD (z k))(f:kD o)(h:jJ w0 κ g gs s (xW c x) c x z o w)(j:k<4)(ok:Sr.Ok s)(m:Gt.BP (c k))(ev:Rq.Ev)(es:EvS)(l:BQ w (fun i=>κ i=.fl k) ev.d es)(p:(c k).body.length+ev.d.bytes.length<=20000):
 Calls prog 46 #[Q (M ⟨g,0,U⟩),Q (M ⟨g,1+k*7,U⟩),.agg #[I J ev.d.kind,V ev.d.method,V ev.d.target,I J ev.d.minor,Z es.fo ev.d.fields.length es.fV,I J ev.d.length,Z es.bo ev.d.bytes.length es.fU,V ev.d.kJ,V ev.d.kr,V ev.d.ptype,Z es.po ev.d.gQ.length es.jh,I J ev.d.code]] w fun e w'=>xI w0 κ g gs c z o k w (Gt.ev Tu.iQ ⟨s,(c k).hd,(c k).body,[]⟩ ev) e w':=by
 cases ev with
 | head hd=>exact Ue a f h j hd (Rq.qF _).symm l.fields
 | body b=>exact Uf a f h j b rfl l.bytes.is (by have:(Rq.Ev.body b).d.bytes.length=b.length:=rfl;omega)
 | fin=>exact XM a f h j ok m (by omega)
 | fail n=>exact Ug a f h j n
theorem Gt.XR (s:Sr.Sh)(hd:Rq.Hd)(body out:av)(e:Rq.Ev):Gt.ev Tu.iQ ⟨s,hd,body,out⟩ e={ Gt.ev Tu.iQ ⟨s,hd,body,[]⟩ e with out:=out++(Gt.ev Tu.iQ ⟨s,hd,body,[]⟩ e).out }:=by
 have:=Gt.abk Tu.iQ ⟨s,hd,body,[]⟩ out e;rw[show({ (⟨s,hd,body,[]⟩:Gt.Gs) with out:=out++[] }:Gt.Gs)=⟨s,hd,body,out⟩ from by rw[bU]] at this;exact this
structure LX (w0:X)(S:Nat->Prop)(w:X)(g gs:Nat)(c:Nat->Gt.Cn)(k:Nat)(ro:Rq.St)(eo:ak)(ec:Nat)(es:List Rq.Ev)(G:Gt.Gs)(ao:ak)(cap:Nat)(wr:X):Prop where
 at_:∃κ x,jJ w0 κ g gs G.s (xW (upd c k ⟨ro,G.hd,G.body⟩) x) (upd c k ⟨ro,G.hd,G.body⟩) x (XO k (YC eo ec (es.map Rq.Ev.d))) (GrO ao cap G.out) wr∧∀i,κ i≠.out->gB S w i
 turns:Turns S w wr
 ok:Sr.Ok G.s
 hd:Rq.oU G.hd
theorem aeO:∀{s:Sr.Sh},Sr.Ok s->∀m t l body,Sr.Ok (Tu.iQ s m t l body).1:=fun h m t l b=>Tu.Ii h m t l b
theorem ZX {κ:Nat->Af}{k:Nat}{ro:Rq.St}{eo:ak}{ec:Nat}{es:List Rq.Ev}{G G':Gt.Gs}{ao:ak}{cap:Nat}{v w5:X}{e:Ending}(L:∀i,κ i≠.out->gB S w i)(N:Turns S w v)(q:xI w0 κ g gs (upd c k ⟨ro,G.hd,G.body⟩) (XO k (YC eo ec (es.map Rq.Ev.d))) (GrO ao cap G.out) k v G' e w5)(ok:Sr.Ok G'.s)(x:Rq.oU G'.hd):
 ∃(r:ak) (b t:Nat) (B:Nat->Prop),e=Y (Z r t b)∧t=G'.out.length∧gN w5 r b G'.out∧gK w5 B 5 ao cap G.out∧∀l f u,gK u (fun i=>jy G.out ao=M i∨w5.heap.size<=i) 5 l f (G.out++G'.out)->Turns (fun i=>jy G.out ao=M i) w5 u->LX w0 S w g gs c k ro eo ec es { G' with out:=G.out++G'.out } l f u:=by
 obtain⟨r,b,t,he,y,hB⟩:=q.ret;obtain⟨j,x5,z,hE⟩:=q.at_;have hz5:=q.turns.size;have hzb:=N.size;rw[pX,iI] at z;have T:gK w5 (fun i=>j i=.ret) 5 ao cap G.out:=z.held .ret;have m:∀i,jy G.out ao=M i->j i=.ret:=fun i e=>by
  unfold jy at e;split at e
  . cases e
  . rename_i C;rcases T with ⟨_,_,h3⟩ | ⟨h1,_⟩
    . cases D:ao with
      | none=>rw[D] at e;cases e
      | some a=>rw[D] at e;injection e with e;rw[<-e];exact h3 a D
    . exact absurd h1 C
 have o:∀i,j i≠.out->gB S w i:=fun i n=>by
  rcases aT i v.heap.size with p | p
  . exact L i (by rw[<-hE i p];exact n)
  . exact R (by omega)
 refine⟨r,b,t,_,he,y,hB,T,fun l f u H W=>⟨⟨iC j w5.heap.size .ret,x5,z.answered (XO.law (YC.law _ _ _)) (GrO.law _ _ _) (GrO.law _ _ _) W m H (fun i e=>?_),fun i n=>?_⟩,(N.trans q.turns (fun i e n=>?_)).trans W (fun i e n=>?_),ok,x⟩⟩
 . rcases e with e | e
   . exact A (m i e)
   . exact R e
 . rcases aT i w5.heap.size with p | p
   . rw[ig p] at n;exact o i n
   . exact R (by omega)
 . have y:κ i≠.out:=by rcases e with e | e | e <;> (rw[e];intro h;cases h)
   rcases L i y with h | h
   . exact h
   . omega
 . rcases o i (by rw[m i e];intro h;cases h) with h | h
   . exact h
   . omega
theorem LX.done {k:Nat}{ro:Rq.St}{eo:ak}{ec:Nat}{es:List Rq.Ev}{G:Gt.Gs}{ao:ak}{cap:Nat}{wr:X}(h:LX w0 S w g gs c k ro eo ec es G ao cap wr):gN wr ao cap G.out∧jf wr (gB S w) g gs G.s (upd c k ⟨ro,G.hd,G.body⟩)∧Turns S w wr:=by
 obtain⟨a,x,b,e⟩:=h.at_;have f:gK wr (fun i=>a i=.ret) 5 ao cap G.out:=b.held .ret;refine⟨f.tN,⟨a,x,fun d=>?_,e⟩,h.turns⟩;have hd:=b.held d;cases d with
 | fl j=>exact⟨hd.1,trivial⟩
 | ret=>trivial
 | row=>exact hd
 | iX=>exact hd
 | rq j=>exact hd
 | bd j=>exact hd
 | out=>trivial
end
section
variable {w0 w:X} {S:Nat->Prop} {g gs:Nat} {s:Sr.Sh} {c:Nat->Gt.Cn}
theorem LZ (k:Int)(b:k<0∨4<=k)(bo:ak)(fU n:Nat)(w:X):
 Calls prog 15 #[Q (M ⟨g,0,U⟩),I J k,Z bo n fU] w fun e w'=>e=Y (.tuple #[Z U 0 0,I J 1])∧w'=w:=by
 have a:=fun W=>uz k W;rw[show(decide (0<=k)&&decide (k<4))=F from by rcases b with h | h <;> simp <;> omega] at a;go_enter func15,ntmps15;go_wp2_with fail
 refine(a _).mono ?_;rintro e f ⟨rfl,d⟩;subst d;go_wp2;go_ret2;exact⟨rfl,rfl⟩
theorem Uh (hP:kC w0)(hW:Below w0.heap.size w0 w)(hF:∀i,S i->w0.heap.size<=i)(h:jf w S g gs s c)(ok:Sr.Ok s)(k:Nat)(hk:k<4)(hc:Gt.BP (c k))(l:av){bo:ak}{fU n:Nat}(hB:gN w bo fU l)(sK:l≠[]->∀a,bo=M a->¬S a.block)(hn:l.length=n)(hl:(c k).body.length+n<=20000):
 Calls prog 15 #[Q (M ⟨g,0,U⟩),I J (k:Int),Z bo n fU] w fun e w'=>XP S w g gs c k (Gt.feed Tu.iQ s (c k) l) (if (c k).rq.ph=4 then 18 else 0) e w':=by
 have HI:=fun W=>uz (k:Int) W;rw[show(decide ((0:Int)<=(k:Int))&&decide ((k:Int)<4))=true from by simp;omega] at HI;obtain⟨κ,x,hH,hS⟩:=h;have hG0:jJ w0 κ g gs s (xW c x) c x KE zR w:=⟨hH,hP,hW,fun i e=>hF i (hS i e)⟩;have cg:w.cell? ⟨g,1+k*7,U⟩=M (Q (M ⟨(x k).gp,0,U⟩)):=hG0.XL.at_ hk (j:=0) (u:=Q (M ⟨(x k).gp,0,U⟩)) (by decide) rfl;have HD:=Ky w (fun i=>κ i=.rq k) (x k).gp (c k).rq (hH (.rq k) hk);have k0:(0:Int)<=(k:Int):=by omega
 have k4:(k:Int)<4:=by omega
 by_cases T:(c k).rq.ph=4
 . rw[if_pos T];rw[aI T] at HD;have Zw:Gt.feed Tu.iQ s (c k) l=(s,c k,[]):=by
    have:=Rq.sD l (c k).rq T;unfold Gt.feed Gt.Rw;rw[this.1,this.2];rfl
   rw[Zw];have r:XP S w g gs c k (s,c k,[]) 18 (Y (.tuple #[Z U 0 0,I J 18])) w:=⟨⟨U,0,0,rfl,rfl,gN.nil _⟩,by rw[upd_same];exact jf.mono ⟨κ,x,hH,hS⟩ (fun i _ e=>A e),Turns.refl _ _⟩;go_enter func15,ntmps15;go_wp2_with fail
   refine(HI _).mono ?_;rintro e w1 ⟨rfl,hw⟩;rw[hw];go_wp2_with fail
   refine HD.mono ?_;rintro e w1 ⟨rfl,hw⟩;rw[hw];go_wp2;go_ret2;exact r
 . rw[if_neg T];rw[aJ T] at HD;have UO:=LW w (fun i=>κ i=.rq k) (x k).gp (c k).rq l bo fU n (hH (.rq k) hk) hc.rq hB (fun t a e e2=>sK t a e (hS _ (by rw[e2];intro h;cases h))) hn (by omega);have HG0:=hG0;have HS:=H9 hS
   go_enter func15,ntmps15;go_wp2_with fail
   refine(HI _).mono ?_;rintro e w1 ⟨rfl,hw⟩;rw[hw];go_wp2_with fail
   refine HD.mono ?_;rintro e w1 ⟨rfl,hw⟩;rw[hw];go_wp2_with fail
   refine UO.mono ?_;rintro e w1 hFr;obtain⟨eo,ec,ne,κ1,rfl,t,p,hT1,hE1⟩:=HG0.fed hk hFr;have hS1:∀i,κ1 i≠.out->gB S w i:=fun i hi=>by
    rcases aT i w.heap.size with hl | hl
    . rcases hE1 i hl with e | e
      . exact A (HS.o i (by rw[<-e];exact hi))
      . exact A (HS.o i e)
    . exact R hl
   rw[<-aco c x k (Rq.fold (c k).rq l)] at p;have kY:=Rq.Qa (c k).rq l;obtain⟨es,v⟩:∃es,es=Rq.join (Rq.outs (c k).rq l):=⟨_,rfl⟩;have aaV:∀e∈es,e.tV:=by rw[v];exact Rq.oz _ (Rq.qm l hc.rq)
   have JA:Gt.feed Tu.iQ s (c k) l=((Gt.evs Tu.iQ ⟨s,(c k).hd,(c k).body,[]⟩ es).s,⟨Rq.fold (c k).rq l,(Gt.evs Tu.iQ ⟨s,(c k).hd,(c k).body,[]⟩ es).hd,(Gt.evs Tu.iQ ⟨s,(c k).hd,(c k).body,[]⟩ es).body⟩,(Gt.evs Tu.iQ ⟨s,(c k).hd,(c k).body,[]⟩ es).out):=by rw[v,Gt.vG];rfl
   rw[<-v] at t p kY;have hR0:LX w0 S w g gs c k (Rq.fold (c k).rq l) eo ec es ⟨s,(c k).hd,(c k).body,[]⟩ U 0 w1:=⟨⟨κ1,x,⟨fun d=>by
    have hd:=p.held d;cases d with
    | ret =>
      show gK w1 (fun i=>κ1 i=.ret) 5 U 0 [];exact gK.nil _ _ _
    | fl j=>exact hd
    | row=>exact hd
    | iX=>exact hd
    | rq j=>exact hd
    | bd j=>exact hd
    | out=>trivial,p.pow,p.qL,p.far⟩,hS1⟩,hT1.mono (fun i e=>HS.o i (by rw[e];intro h;cases h)),ok,hc.hd⟩
   have hbd:∀i (hi:i<es.length),(Gt.evs Tu.iQ ⟨s,(c k).hd,(c k).body,[]⟩ (es.take i)).body.length+es[i].d.bytes.length<=20000:=fun i hi=>by
    have h1:=Gt.Dn Tu.iQ (es.take i) ⟨s,(c k).hd,(c k).body,[]⟩;have h2:Rq.iO (es.take i)+es[i].d.bytes.length<=Rq.iO es:=by
     conv=>rhs;rw[<-bV i es,Rq.lV,aD hi]
     generalize es[i]=e;cases e with
     | body b=>show _+b.length<=_+(b.length+_);omega
     | head _=>exact Nat.add_le_add_left (aA _) _
     | fin=>exact Nat.add_le_add_left (aA _) _
     | fail _=>exact Nat.add_le_add_left (aA _) _
    have h3:=kY.2.1;have T:(⟨s,(c k).hd,(c k).body,[]⟩:Gt.Gs).body.length=(c k).body.length:=rfl;omega
   have hol:∀i,i<=es.length->(Gt.evs Tu.iQ ⟨s,(c k).hd,(c k).body,[]⟩ (es.take i)).out.length<=6000*40000:=fun i hi=>by
    have h1:=Gt.Bc (es.take i) (g:=⟨s,(c k).hd,(c k).body,[]⟩) ok;rw[bW] at h1;have h3:=kY.1;have T:(⟨s,(c k).hd,(c k).body,[]⟩:Gt.Gs).out.length=0:=rfl;omega
   have hlen:es.length<=40000:=by have:=kY.1;omega
   have aeP:Rq.Good (Rq.fold (c k).rq l):=hc.rq.fold l;have Kt:=hR0;have zQ:=H9 hbd;have HOl:=H9 hol;have HFi:=H9 aaV;have HRo:=H9 aeP
   obtain⟨j0,hj0,hy0,hy1,hy2⟩:=info_parts jI;have Hj:=hj0;have NR:=H9 hy0;have NS:=H9 hy1;have NT:=H9 hy2
   subst t;clear p hT1 hE1 hS1 kY aaV v hR0 hbd hol aeP HG0 UO HI HD hFr cg hj0 hy0 hy1 hy2;generalize Rq.fold (c k).rq l=ro at *;generalize ahj:(⟨s,(c k).hd,(c k).body,[]⟩:Gt.Gs)=G0 at *;go_wp2;go_loopw [9,37] (fun vo vi wr=>∃(i m:Nat) (ao:ak) (cap:Nat),i<=es.length∧vi=I J i∧vo=Z ao m cap∧m=(Gt.evs Tu.iQ G0 (es.take i)).out.length∧LX w0 S w g gs c k ro eo ec es (Gt.evs Tu.iQ G0 (es.take i)) ao cap wr) (fun _ vi _=>es.length-(intOf vi).toNat)
   case atStart=>exact⟨0,0,U,0,aA _,rfl,rfl,by rw[<-ahj];rfl,Kt⟩
   case round =>
    obtain⟨i,m,ao,cap,hi,rfl,rfl,hm,y⟩:=hrel;by_cases z:i<es.length
    . have hlt':(i:Int)<es.length:=by omega
      have hTk:Gt.evs Tu.iQ G0 (es.take (i+1))=Gt.ev Tu.iQ (Gt.evs Tu.iQ G0 (es.take i)) es[i]:=by rw[bM z,Gt.M6];rfl
      have hbi:=zQ.o i z;have C:=HOl.o (i+1) (by omega);have ahk:=HOl.o i (by omega);have hfi:=HFi.o es[i] (aC z);obtain⟨κ,x2,hG,hS2⟩:=y.at_;have hEv:mR wr (fun j=>κ j=.fl k) 98 eo ec (es.map Rq.Ev.d):=(hG.held (.fl k)).2 rfl;have hcap:es.length<=ec:=by have:=hEv.afS.1;rw[aF] at this;exact this
      obtain⟨b,o,rfl,aeQ⟩:=hEv.lit (by rw[aF];omega);obtain⟨q,f,hIn⟩:=aeQ i (by rw[aF];exact z);rw[aG] at f hIn;generalize Gt.evs Tu.iQ G0 (es.take i)=G at *;rw[hTk] at C;generalize hev:es[i]=ev at *;have jc:=(eY _ wr).alloc (aM _) (K #[I J ev.d.kind,V ev.d.method,V ev.d.target,I J ev.d.minor,Z q.fo ev.d.fields.length q.fV,I J ev.d.length,Z q.bo ev.d.bytes.length q.fU,V ev.d.kJ,V ev.d.kr,V ev.d.ptype,Z q.po ev.d.gQ.length q.jh,I J ev.d.code] 98);have hGA:=hG.stay (XO.law (YC.law _ _ _)) (GrO.law _ _ _) jc;have aeR:=hIn.turns (Turns.of_below (S:=fun _=>False) jc) (fun _ _ e=>e);have HMt:=XQ (XO.law (YC.law _ _ _)) (GrO.law _ _ _) hGA hk y.ok (by rw[iI];exact⟨HRo.o,y.hd⟩) ev q aeR (by rw[iI];exact hbi);rw[iI] at HMt;have hNx:=fun(w5:X) (e5:Ending)=>ZX (e:=e5) (w5:=w5) (G:=G) (G':=Gt.ev Tu.iQ ⟨G.s,G.hd,G.body,[]⟩ ev) (κ:=κ) (es:=es) (eo:=M ⟨b,o,U⟩) (ec:=ec) (ao:=ao) (cap:=cap) (ro:=ro) (k:=k) (c:=c) (g:=g) (gs:=gs) (w0:=w0) hS2 (y.turns.trans (Turns.of_below (S:=fun _=>False) jc) (fun _ e _=>e.elim));have hfr:Gt.ev Tu.iQ G ev={ Gt.ev Tu.iQ ⟨G.s,G.hd,G.body,[]⟩ ev with out:=G.out++(Gt.ev Tu.iQ ⟨G.s,G.hd,G.body,[]⟩ ev).out }:=Gt.XR G.s G.hd G.body G.out ev;have D:Sr.Ok (Gt.ev Tu.iQ ⟨G.s,G.hd,G.body,[]⟩ ev).s:=Gt.VI Tu.iQ aeO (g:=⟨G.s,G.hd,G.body,[]⟩) y.ok ev;have aeS:Rq.oU (Gt.ev Tu.iQ ⟨G.s,G.hd,G.body,[]⟩ ev).hd:=Gt.aah Tu.iQ (g:=⟨G.s,G.hd,G.body,[]⟩) y.hd hfi;have H:G.out.length+(Gt.ev Tu.iQ ⟨G.s,G.hd,G.body,[]⟩ ev).out.length<=6000*40000:=by rw[<-aV];rw[hfr] at C;exact C
      have c0:wr.cell? ⟨b,o+i*12,U⟩=M (I J ev.d.kind):=f 0 _ rfl;have c1:wr.cell? ⟨b,o+i*12+1,U⟩=M (V ev.d.method):=f 1 _ rfl;have c2:wr.cell? ⟨b,o+i*12+2,U⟩=M (V ev.d.target):=f 2 _ rfl;have c3:wr.cell? ⟨b,o+i*12+3,U⟩=M (I J ev.d.minor):=f 3 _ rfl;have c4:wr.cell? ⟨b,o+i*12+4,U⟩=M (Z q.fo ev.d.fields.length q.fV):=f 4 _ rfl;have c5:wr.cell? ⟨b,o+i*12+5,U⟩=M (I J ev.d.length):=f 5 _ rfl;have c6:wr.cell? ⟨b,o+i*12+6,U⟩=M (Z q.bo ev.d.bytes.length q.fU):=f 6 _ rfl;have c7:wr.cell? ⟨b,o+i*12+7,U⟩=M (V ev.d.kJ):=f 7 _ rfl;have c8:wr.cell? ⟨b,o+i*12+8,U⟩=M (V ev.d.kr):=f 8 _ rfl;have c9:wr.cell? ⟨b,o+i*12+9,U⟩=M (V ev.d.ptype):=f 9 _ rfl;have c10:wr.cell? ⟨b,o+i*12+10,U⟩=M (Z q.po ev.d.gQ.length q.jh):=f 10 _ rfl;have c11:wr.cell? ⟨b,o+i*12+11,U⟩=M (I J ev.d.code):=f 11 _ rfl;have UG:=hNx;have rY:=H9 hTk;have HFr:=H9 hfr;have ahm:=H9 D;have ahn:=H9 aeS;have HM:=H9 hm
      clear y hG hS2 hEv aeQ f hIn jc hGA aeR hNx hTk hfr D aeS hbi C ahk hfi hm;generalize ev.d=ed at *;generalize Gt.ev Tu.iQ ⟨G.s,G.hd,G.body,[]⟩ ev=G' at *;go_wp2_with fail
      refine HMt.mono ?_;rintro e w5 hMt;obtain⟨yB,cap5,n5,B,rfl,hn5,Bt,aeT,L⟩:=UG w5 e hMt ahm.o ahn.o;have nW:=Bt;have HGr:=H9 aeT;have Jw:=H9 L;have HN5:=H9 hn5.symm;have HM2:=H9 HM.o.symm
      have hml:m+n5<=240000000:=by rw[hn5,HM.o];exact H
      clear hMt Bt aeT L hn5 HMt UG H;go_wp2_with (at_builtin;refine kM rfl (.tmp 41) (.tmp 45) 31 rfl 5 j0 underlying31 Hj NR.o NS.o NT.o rfl rfl HGr.o HM2.o nW HN5.o (by omega) ?_;intro ao6 N w6 D8 zG;have HF6:=H9 (Jw.o ao6 N w6 D8 zG);clear D8 zG)
      go_roundw
      case rel=>exact⟨i+1,m+n5,ao6,N,by omega,by go_num,rfl,by rw[rY.o,HFr.o];show _=(G.out++G'.out).length;rw[aV,HM.o,HN5.o],by rw[rY.o,HFr.o];exact HF6.o⟩
      case measure=>simp[intOf];omega
    . obtain rfl:i=es.length:=by omega
      rw[bN] at hm y;obtain⟨pV,hG9,qz⟩:=y.done;have r:XP S w g gs c k (Gt.feed Tu.iQ s (c k) l) 0 (Y (.tuple #[Z ao m cap,I J 0])) wr:=by
       rw[JA];exact⟨⟨ao,cap,m,rfl,hm,pV⟩,hG9,qz⟩
      go_wp2;go_ret2;exact r
end
section
variable {w0 w:X} {S:Nat->Prop} {g gs:Nat} {s:Sr.Sh} {c:Nat->Gt.Cn}
def L6 (gp:Nat):Ql:=⟨gp,U,0,U,0⟩
structure zN (S:Nat->Prop)(w:X)(g gs:Nat)(s:Sr.Sh)(n:Nat)(wr:X):Prop where
 at_:∃κ v x,Held (Ct g gs s v n (fun _=>Gt.wL) x KE zR) κ wr∧(∀k,k<n->v k=Uy Gt.wL (x k))∧∀i,κ i≠.out->gB S w i
 turns:Turns S w wr
theorem jU.ZY {v:Nat->List Value}(h:jU w g gs v){k:Nat}(a:k<4)(b d e f l m n:Value):
 jU (((((((w.setCell ⟨g,1+k*7,U⟩ b).setCell ⟨g,1+k*7+1,U⟩ d).setCell ⟨g,1+k*7+2,U⟩ e).setCell ⟨g,1+k*7+3,U⟩ f).setCell ⟨g,1+k*7+4,U⟩ l).setCell ⟨g,1+k*7+5,U⟩ m).setCell ⟨g,1+k*7+6,U⟩ n) g gs (upd v k [b,d,e,f,l,m,n])∧Turns (fun i=>i=g) w (((((((w.setCell ⟨g,1+k*7,U⟩ b).setCell ⟨g,1+k*7+1,U⟩ d).setCell ⟨g,1+k*7+2,U⟩ e).setCell ⟨g,1+k*7+3,U⟩ f).setCell ⟨g,1+k*7+4,U⟩ l).setCell ⟨g,1+k*7+5,U⟩ m).setCell ⟨g,1+k*7+6,U⟩ n):=by
 refine⟨?_,gX g [b,d,e,f,l,m,n] (1+k*7) w⟩;have:=((((((h.set a (j:=0) (by decide) b).set a (j:=1) (by decide) d).set a (j:=2) (by decide) e).set a (j:=3) (by decide) f).set a (j:=4) (by decide) l).set a (j:=5) (by decide) m).set a (j:=6) (by decide) n;obtain⟨p,q,r,t,u,x,y,o⟩:=Go.Proofs.YthhklgjjnaeaoaaGreatDoor.seven (h.seven k a);simp only[pX,iI,o] at this;exact this
theorem zN.step {n gp:Nat}{wr o:X}(h:zN S w g gs s n wr)(D:jq o (fun k=>wr.heap.size<=k) gp Rq.start)(p:Below wr.heap.size wr o):∃v,jU o g gs v∧∀f,jU f g gs (upd v n (Uy Gt.wL (L6 gp)))->Turns (fun i=>i=g) o f->zN S w g gs s (n+1) f:=by
 obtain⟨⟨q,v,x,b,G,y⟩,z⟩:=h;have l:=(b .row).1.lt;have W:=z.size;refine⟨v,⟨(p.block g l).trans (b .row).1.row,(b .row).1.seven⟩,fun f r t=>?_⟩;have a:∀d,d≠.row->Ct g gs s v n (fun _=>Gt.wL) x KE zR d f (fun i=>iC q wr.heap.size (.rq n) i=d):=fun d H=>by
  have L:kD (Ct g gs s v n (fun _=>Gt.wL) x KE zR d):=lJ (fun _=>kD.ku) kD.ku d;have N:=L.mono (b d) (S':=fun i=>q i=d∧i<wr.heap.size) (fun i m e=>⟨e,m⟩);have T:=L.turns (L.turns N (Turns.of_below (S:=fun _=>False) p) (fun _ _ e=>e)) t (fun i e B=>H (by rw[<-e.1,B];exact(b .row).2));exact L.mono T (fun i _ e=>(ig e.2).trans e.1)
 refine⟨⟨iC q wr.heap.size (.rq n),upd v n (Uy Gt.wL (L6 gp)),upd x n (L6 gp),fun d=>?_,fun j u=>?_,fun i m=>?_⟩,(z.trans (Turns.of_below (S:=fun _=>False) p) (fun _ e _=>e.elim)).trans t (fun i e m=>?_)⟩
 . cases d with
   | row=>exact⟨r,(ig l).trans (b .row).2⟩
   | iX=>exact a .iX (by intro h;cases h)
   | rq j =>
     intro u;by_cases e:j=n
     . subst e;rw[iI];exact(D.turns t (fun i e B=>by omega)).mono (fun i _ e=>nI e)
     . rw[upd_ne _ _ e];exact a (.rq j) (by intro h;cases h) (by omega)
   | fl j =>
     refine⟨fun u=>?_,trivial⟩;by_cases e:j=n
     . subst e;rw[iI];exact nM.nil _ _
     . rw[upd_ne _ _ e];exact(a (.fl j) (by intro h;cases h)).1 (by omega)
   | bd j =>
     intro u;by_cases e:j=n
     . subst e;rw[iI];exact gK.nil _ _ _
     . rw[upd_ne _ _ e];exact a (.bd j) (by intro h;cases h) (by omega)
   | ret=>trivial
   | out=>trivial
 . by_cases e:j=n
   . subst e;rw[iI,iI]
   . rw[upd_ne _ _ e,upd_ne _ _ e];exact G j (by omega)
 . rcases aT i wr.heap.size with C | C
   . rw[ig C] at m;exact y i m
   . exact R (by omega)
 . rcases y i (by rw[e,(b .row).2];intro h;cases h) with h | h
   . exact h
   . omega
theorem zN.done {wr:X}(h:zN S w g gs s 4 wr):jf wr (gB S w) g gs s (fun _=>Gt.wL)∧Turns S w wr:=by
 obtain⟨⟨e,v,x,f,b,i⟩,l⟩:=h;refine⟨⟨e,x,fun d=>?_,i⟩,l⟩;have a:=f d;cases d with
 | row =>
   refine⟨⟨?_,fun k m=>rfl⟩,a.2⟩;have:=a.1.row;unfold Qm at this ⊢;rw[b 0 (by omega),b 1 (by omega),b 2 (by omega),b 3 (by omega)] at this;exact this
 | iX=>exact a
 | rq j=>exact a
 | fl j=>exact a
 | bd j=>exact a
 | ret=>trivial
 | out=>trivial
theorem EG (h:zN S w g gs s 0 w):
 Calls prog 35 #[Q (M ⟨g,0,U⟩)] w fun e w'=>e=Y (.tuple #[])∧jf w' (gB S w) g gs s (fun _=>Gt.wL)∧Turns S w w':=by
 go_enter func35,ntmps35;go_wp2;go_loopw [3] (fun l wr=>∃i:Nat,i<=4∧l=I J i∧zN S w g gs s i wr) (fun l _=>4-(intOf l).toNat)
 case atStart=>exact⟨0,aA _,rfl,h⟩
 case round =>
  obtain⟨i,hi,rfl,n⟩:=hrel;by_cases b:i<4
  . have p:(i:Int)<4:=by omega
    have t:(0:Int)<=(i:Int):=by omega
    have y:zN S w g gs s i wr.drew:=by
     obtain⟨⟨z,v,x,B,d,C⟩,D⟩:=n;exact⟨⟨z,v,x,B.stay (lJ (fun _=>kD.ku) kD.ku) (gy _ _),d,C⟩,D.trans (Turns.drewN (fun _=>False) wr 1) (fun _ e _=>e.elim)⟩
    go_upto_region 3 with fail
    go_region_law ((go_simp;go_at_call 39;refine((fun W=>Bw W) _).mono ?_;rintro e G ⟨q,rfl,r,f⟩;obtain⟨v,a,k⟩:=y.step r f;obtain⟨H,L,N,T,a4,a5,a6,d⟩:=Go.Proofs.YthhklgjjnaeaoaaGreatDoor.seven (a.seven i b);have c0:G.cell? ⟨g,1+i*7,U⟩=M H:=a.at_ b (j:=0) (by decide) (by rw[d];rfl);have c1:=a.at_ b (j:=1) (by decide) (u:=L) (by rw[d];rfl);have c2:=a.at_ b (j:=2) (by decide) (u:=N) (by rw[d];rfl);have c3:=a.at_ b (j:=3) (by decide) (u:=T) (by rw[d];rfl);have c4:=a.at_ b (j:=4) (by decide) (u:=a4) (by rw[d];rfl);have c5:=a.at_ b (j:=5) (by decide) (u:=a5) (by rw[d];rfl);have c6:=a.at_ b (j:=6) (by decide) (u:=a6) (by rw[d];rfl);have fz:=fun j=>a.fz j;have pK:=H9 (k _ (a.ZY b (Q (M ⟨q,0,U⟩)) (V ⟨#[]⟩) (V ⟨#[]⟩) (I J 0) (Z U 0 0) (I J 0) (Z U 0 0)).1 (a.ZY b (Q (M ⟨q,0,U⟩)) (V ⟨#[]⟩) (V ⟨#[]⟩) (I J 0) (Z U 0 0) (I J 0) (Z U 0 0)).2);clear r f k d))
    all_goals
     go_wp2;go_roundw
     case rel=>exact⟨i+1,by omega,by go_num,pK.o⟩
     case measure=>simp[intOf];omega
  . obtain rfl:i=4:=by omega
    have m:=n.done;go_wp2;go_end0
    exact⟨rfl,m⟩
end
section
variable {w w':X} {S S':Nat->Prop} {g gs:Nat} {s s':Sr.Sh} {c:Nat->Gt.Cn}
theorem jf.ask (h:jf w S g gs s c):∃a:Nat->Prop,gV w a gs s∧(∀k,a k->S k)∧w.cell? ⟨g,0,U⟩=M (Q (M ⟨gs,0,U⟩))∧∀s' w',gV w' (gB a w) gs s'->Turns a w w'->jf w' (gB S w) g gs s' c:=by
 obtain⟨i,x,b,j⟩:=h;refine⟨fun k=>i k=.iX,b .iX,fun k e=>j k (by rw[e];intro q;cases q),(b .row).1.store,fun s' w' m n=>⟨iC i w.heap.size .iX,x,?_,fun k l=>?_⟩⟩
 . exact b.act (lJ (fun _=>kD.ku) kD.ku) n (fun _ e=>e) (X':=Ct g gs s' (xW c x) 4 c x KE zR) (lJ (fun _=>kD.ku) kD.ku .iX) m (fun _ e=>e) (fun d o=>by cases d <;> first | rfl | exact absurd rfl o)
 . rcases aT k w.heap.size with f | f
   . rw[ig f] at l;exact A (j k l)
   . exact R f
theorem zN.Z0 (h:jf w S g gs s c):zN S w g gs s 0 w:=by
 obtain⟨f,x,i,l⟩:=h;refine⟨⟨f,xW c x,x,fun d=>?_,fun k b=>absurd b (bX k),fun k b=>A (l k b)⟩,Turns.refl _ _⟩;have e:=i d;cases d with
 | row=>exact e
 | iX=>exact e
 | rq j=>exact fun a=>absurd a (bX j)
 | fl j=>exact⟨fun a=>absurd a (bX j),trivial⟩
 | bd j=>exact fun a=>absurd a (bX j)
 | ret=>trivial
 | out=>trivial
end
inductive XT
 | row
 | gate
 | tr
 | out
def poC (g:Nat)(io:ak)(ni gM:Nat):Obj:=K #[Q (M ⟨g,0,U⟩),Z io ni gM] 78 (0,0)
def poX (p g gs:Nat)(o:Obj)(P:Pt.P)(io:ak)(gM:Nat):XT->Ob
 | .row=>vZ p o
 | .gate=>fun w S=>jf w S g gs P.s P.c
 | .tr=>Ou io gM P.tr
 | .out=>fun _ _=>True
theorem rM {p g gs:Nat}{o:Obj}{P:Pt.P}{b:ak}{c:Nat}:∀d,kD (poX p g gs o P b c d)
 | .row=>vZ.law _ _
 | .gate=>⟨fun h e a=>jf.turns h e a,fun h a=>jf.mono h a⟩
 | .tr=>Ou.law _ _ _
 | .out=>kD.ku
def gI (w:X)(S:Nat->Prop)(p g gs:Nat)(P:Pt.P):Prop:=∃κ io gM,Held (poX p g gs (poC g io P.tr.length gM) P io gM) κ w∧∀k,κ k≠.out->S k
section
variable {w w':X} {S S':Nat->Prop} {p g gs:Nat} {P:Pt.P}
theorem gI.turns (h:gI w S p g gs P)(c:Turns S' w w')(f:∀k,S k->¬S' k):gI w' S p g gs P:=by
 obtain⟨i,j,l,m,a⟩:=h;refine⟨i,j,l,fun d=>?_,a⟩;by_cases b:d=.out
 . subst b;exact trivial
 . exact(rM d).turns (m d) c (fun k e=>f k (a k (by rw[e];exact b)))
theorem gI.stay (h:gI w S p g gs P)(a:Below w.heap.size w w'):gI w' S p g gs P:=h.turns (Turns.of_below (S:=fun _=>False) a) (fun _ _ e=>e)
theorem gI.mono (h:gI w S p g gs P)(c:∀k,k<w.heap.size->S k->S' k):gI w S' p g gs P:=by
 obtain⟨f,i,j,l,m⟩:=h;refine⟨iC f w.heap.size .out,i,j,fun d=>?_,fun k a=>?_⟩
 . by_cases n:d=.out
   . subst n;exact trivial
   . exact(rM d).mono (l d) (fun k a e=>(ig a).trans e)
 . rcases aT k w.heap.size with b | b
   . rw[ig b] at a;exact c k b (m k a)
   . exact absurd (nI b) a
theorem po_new {κ:Nat->XT}{d:XT}(c:∀k,κ k≠.out->S k):∀k,iC κ w.heap.size d k≠.out->gB S w k:=fun k b=>by
 rcases aT k w.heap.size with a | a
 . rw[ig a] at b;exact A (c k b)
 . exact R a
theorem gI.ask (h:gI w S p g gs P):∃a:Nat->Prop,jf w a g gs P.s P.c∧(∀k,a k->S k)∧w.cell? ⟨p,0,U⟩=M (Q (M ⟨g,0,U⟩))∧∀b f w',jf w' (gB a w) g gs b f->Turns a w w'->gI w' (gB S w) p g gs ⟨b,f,P.tr⟩:=by
 obtain⟨m,i,j,l,n⟩:=h;refine⟨fun k=>m k=.gate,l .gate,fun k e=>n k (by rw[e];intro q;cases q),eZ w p 0 _ _ _ (l .row).1,fun b f w' o r=>⟨iC m w.heap.size .gate,i,j,?_,po_new n⟩⟩;exact l.act rM r (fun _ e=>e) (X':=poX p g gs (poC g i P.tr.length j) ⟨b,f,P.tr⟩ i j) (rM .gate) o (fun _ e=>e) (fun d t=>by cases d <;> first | rfl | exact absurd rfl t)
theorem gI.trail (h:gI w S p g gs P):∃f u,gH w 0 3 1 f u P.tr.length (qR P.tr)∧w.cell? ⟨p,1,U⟩=M (Z f P.tr.length u)∧w.frozen? ⟨p,1,U⟩=F∧S p∧(∀k,fZ f=M k->S k) ∧
 ∀l m i w', gH w' 0 3 1 l m (P.tr.length + 1) (qR P.tr ++ [I J i]) -> w.grownBy w' (fZ f) -> (∀j, fZ l = M j -> fZ f = M j ∨ w.heap.size <= j) ->
   (w'.cell? ⟨p,1,U⟩=M (Z f P.tr.length u)∧w'.frozen? ⟨p,1,U⟩=F)∧gI (w'.setCell ⟨p,1,U⟩ (Z l (P.tr.length+1) m)) (gB S w) p g gs ⟨P.s,P.c,P.tr++[i]⟩∧Turns S w (w'.setCell ⟨p,1,U⟩ (Z l (P.tr.length+1) m)):=by
 obtain⟨v,f,u,B,y⟩:=h;have x:=B .row;have r:∀k,fZ f=M k->v k=.tr:=fun k e=>by
  cases f with
  | none=>cases e
  | some a=>injection e with e;rw[<-e];exact(B .tr).2 a rfl
 have C:∀{a b:XT} {k:Nat},v k=a->v k=b->a=b:=fun e e2=>e.symm.trans e2;refine⟨f,u,(B .tr).1,eZ w p 1 _ _ _ x.1,fq w p 1 _ _ x.1,y p (by rw[x.2];intro q;cases q),fun k e=>y k (by rw[r k e];intro q;cases q),fun l m i w' hO hG D=>?_⟩;have n:Turns (fun k=>v k=.tr) w w':=Turns.iM (S:=fun k=>v k=.tr) hG r;have t:=n.row x.1 (fun e=>by have:=C x.2 e;cases this);have hz:=n.size;have T:Turns (fun k=>k=p) w' (w'.setCell ⟨p,1,U⟩ (Z l (P.tr.length+1) m)):=Turns.setCell (fun k=>k=p) w' _ _ rfl;have G:=fu w' p 1 _ _ (Z l (P.tr.length+1) m) t;have o:(P.tr++[i]).length=P.tr.length+1:=by simp
 have z:qR (P.tr++[i])=qR P.tr++[I J i]:=by simp[qR]
 refine⟨⟨eZ w' p 1 _ _ _ t,fq w' p 1 _ _ t⟩,?_,(n.mono (fun k e=>y k (by rw[e];intro q;cases q))).trans T (fun k e _=>by rw[e];exact y p (by rw[x.2];intro q;cases q))⟩;have H:Held (poX p g gs (poC g f P.tr.length u) ⟨P.s,P.c,P.tr++[i]⟩ l m) (iC v w.heap.size .tr) w' :=
  B.act rM n (fun _ e=>e) (rM .tr) (N:=fun k=>fZ f=M k∨w.heap.size<=k) (by
   refine⟨?_,fun a e=>D a.block (by rw[e];rfl)⟩;show gH w' 0 3 1 l m (P.tr++[i]).length (qR (P.tr++[i]));rw[o,z];exact hO) (fun k e=>by
   rcases e with e | e
   . exact A (r k e)
   . exact R e) (fun d L=>by cases d <;> first | rfl | exact absurd rfl L)
 have h2:=H.act rM T (c:=.row) (fun k e=>by rw[e];exact(H .row).2) (X':=poX p g gs (poC g l (P.tr++[i]).length m) ⟨P.s,P.c,P.tr++[i]⟩ l m) (rM .row) (N:=fun k=>k=p) (by
  refine⟨?_,rfl⟩;rw[o];exact G) (fun k e=>A (by rw[e];exact(H .row).2)) (fun d L=>by cases d <;> first | rfl | exact absurd rfl L)
 refine⟨_,l,m,h2,fun k W=>?_⟩;rcases aT k w'.heap.size with hl | hl
 . rw[ig hl] at W;exact po_new (w:=w) y k W
 . exact R (by omega)
theorem gI.lt (h:gI w S p g gs P):p<w.heap.size:=by
 obtain⟨b,c,d,a,e⟩:=h;exact(aL.1 (a .row).1).1
end
section
variable {w w':X} {S:Nat->Prop} {p g gs:Nat} {P:Pt.P}
theorem gI.iX (h:gI w S p g gs P):∃B:Nat->Prop,gV w B gs P.s∧(∀k,B k->S k)∧(w.cell? ⟨p,0,U⟩=M (Q (M ⟨g,0,U⟩))∧w.cell? ⟨g,0,U⟩=M (Q (M ⟨gs,0,U⟩)))∧∀a w',gV w' (gB B w) gs a->Turns B w w'->gI w' (gB S w) p g gs ⟨a,P.c,P.tr⟩:=by
 obtain⟨r,j,l,m,n⟩:=h.ask;obtain⟨B,o,f,b,d⟩:=j.ask;exact⟨B,o,fun k e=>l k (f k e),⟨m,b⟩,fun a w' q i=>n a P.c w' (d a w' q i) (i.mono f)⟩
structure xJ (S:Nat->Prop)(w:X)(p g gs:Nat)(P:Pt.P)(w':X):Prop where
 at_:gI w' (gB S w) p g gs P
 turns:Turns S w w'
theorem gI.begins (h:gI w S p g gs P)(ok:Sr.Ok P.s)(a:Int):Calls prog 100 #[Q (M ⟨gs,0,U⟩),I J a] w fun e w'=>e=Y (I J ((Sr.begins P.s a).2:Int))∧xJ S w p g gs ⟨(Sr.begins P.s a).1,P.c,P.tr⟩ w':=by
 obtain⟨B,b,f,_,i⟩:=h.iX;exact(Le b ok a).mono fun e w' d=>⟨d.ret,i _ _ d.at_ d.turns,d.turns.mono f⟩
theorem gI.ends (h:gI w S p g gs P)(ok:Sr.Ok P.s)(a:Int):Calls prog 103 #[Q (M ⟨gs,0,U⟩),I J a] w fun e w'=>e=Y (I J ((Sr.ends P.s a).2:Int))∧xJ S w p g gs ⟨(Sr.ends P.s a).1,P.c,P.tr⟩ w':=by
 obtain⟨B,b,f,_,i⟩:=h.iX;exact(Tg b ok a).mono fun e w' d=>⟨d.ret,i _ _ d.at_ d.turns,d.turns.mono f⟩
theorem gI.sync (h:gI w S p g gs P):Calls prog 101 #[Q (M ⟨gs,0,U⟩)] w fun e w'=>e=Y (.tuple #[])∧xJ S w p g gs ⟨Sr.sync P.s,P.c,P.tr⟩ w':=by
 obtain⟨B,b,d,_,f⟩:=h.iX;exact(nC b).mono fun e w' ⟨i,j,a⟩=>⟨i,f _ _ (j.mono fun k _ e=>A e) a,a.mono d⟩
theorem gI.cells (h:gI w S p g gs P):w.cell? ⟨p,0,U⟩=M (Q (M ⟨g,0,U⟩))∧w.cell? ⟨g,0,U⟩=M (Q (M ⟨gs,0,U⟩)):=by
 obtain⟨B,_,_,a,_⟩:=h.iX;exact a
def G7 (p g gs:Nat)(c:Nat->Gt.Cn)(tr:List Int):Wm:=fun w S _ s=>gI w S p g gs ⟨s,c,tr⟩
theorem sZ {c:Nat->Gt.Cn}{tr:List Int}:zl (G7 p g gs c tr):=⟨fun h b a=>gI.turns h b a,fun h a=>gI.mono h a⟩
theorem iL.into {O O':Wm}{S' b:Nat->Prop}{W W':X}{bs:List Obj}{s d:Sr.Sh}(h:iL O S w g bs s S' W)(f:O' W' b g d)(j:∀k,b k->gB S' W k)(c:Turns S' W W'):iL O' S w g bs d b W':=by
 have l:=h.sz;refine⟨fun i m=>?_,f,fun k e=>?_,h.tu.trans c (fun k e n=>?_),dB l c.size⟩
 . refine(c.block _ (by omega) (fun e=>?_)).trans (h.bx i m);rcases h.ap _ e with a | a
   . omega
   . omega
 . rcases j k e with e | e
   . exact h.ap k e
   . exact R (by omega)
 . rcases h.ap k e with a | a
   . exact a
   . omega
theorem iL.trim {O:Wm}{S':Nat->Prop}{W:X}{bs:List Obj}{s:Sr.Sh}(L:zl O)(h:iL O S w g bs s S' W):iL O S w g bs s (fun k=>S' k∧k<W.heap.size) W:=⟨h.bx,L.mono h.sh (fun _ a e=>⟨e,a⟩),fun k e=>h.ap k e.1,h.tu,h.sz⟩
structure EH (S:Nat->Prop)(w:X)(p g gs:Nat)(r:Pt.P×Pt.O)(e:Ending)(w':X):Prop where
 ret:∃(ao uo:ak) (jR an gP un:Nat),e=Y (.agg #[I J (r.2.code:Int),Z ao an jR,Z uo un gP])∧an=r.2.out.length∧un=r.2.up.length∧gN w' ao jR r.2.out∧gN w' uo gP r.2.up∧∃Pd,gI w' Pd p g gs r.1∧(∀k,Pd k->gB S w k)∧(r.2.up≠[]->∀a,uo=M a->w.heap.size<=a.block∧¬Pd a.block)
 at_:gI w' (gB S w) p g gs r.1
 turns:Turns S w w'
def FD (x0 x1 x2:Value):Obj:=K #[x0,x1,x2] 70 (0,0)
theorem gN.QN {W d:X}{b:Nat}{ao:ak}{cap:Nat}{l:av}(o:W.heap[b]? = M (FD (I J 0) (Z U 0 0) (Z U 0 0)))(h:gN W ao cap l)(q:Turns (fun k=>k=b) W d):gN d ao cap l:=by
 by_cases i:l=[]
 . subst i;exact gN.empty d h
 . have j:=eu.2 i;obtain⟨m,r,rfl,_⟩:=h.lit j;refine h.turns q (fun a e=>?_);injection e with e;subst e;intro f;have f:m=b:=f;subst f;have c:=h.cell 0 j;rw[fQ,eZ W m _ _ _ _ o] at c;match r,c with
   | 0,c=>cases c
   | 1,c=>cases c
   | 2,c=>cases c
   | n+3,c=>simp at c
theorem iL.tells {c:Nat->Gt.Cn}{tr:List Int}{S':Nat->Prop}{W W':X}{bs:List Obj}{s:Sr.Sh}(h:iL (G7 p g gs c tr) S w 0 bs s S' W)(q:Below W.heap.size W W'){i:Nat}(j:bs[i]? = M (FD (I J 0) (Z U 0 0) (Z U 0 0))){b:Nat}(r:w.heap.size+i=b)(o:Pt.O){ci:Int}(t:(o.code:Int)=ci){ao uo:ak}{jR an gP un:Nat}(u:an=o.out.length)(v:un=o.up.length)(x:gN W' ao jR o.out)(y:gN W' uo gP o.up)(B:o.up≠[]->∀a,uo=M a->w.heap.size<=a.block∧¬S' a.block):
 (W'.cell? ⟨b,0,U⟩=M (I J 0)∧W'.cell? ⟨b,1,U⟩=M (Z U 0 0)∧W'.cell? ⟨b,2,U⟩=M (Z U 0 0)∧W'.frozen? ⟨b,0,U⟩=F∧W'.frozen? ⟨b,1,U⟩=F∧W'.frozen? ⟨b,2,U⟩=F) ∧
 Hid ((((W'.setCell ⟨b,0,U⟩ (I J ci)).setCell ⟨b,1,U⟩ (Z ao an jR)).setCell ⟨b,2,U⟩ (Z uo un gP)).cell? ⟨b,0,U⟩=M (I J ci)∧(((W'.setCell ⟨b,0,U⟩ (I J ci)).setCell ⟨b,1,U⟩ (Z ao an jR)).setCell ⟨b,2,U⟩ (Z uo un gP)).cell? ⟨b,1,U⟩=M (Z ao an jR)∧(((W'.setCell ⟨b,0,U⟩ (I J ci)).setCell ⟨b,1,U⟩ (Z ao an jR)).setCell ⟨b,2,U⟩ (Z uo un gP)).cell? ⟨b,2,U⟩=M (Z uo un gP)∧EH S w p g gs (⟨s,c,tr⟩,o) (Y (.agg #[I J ci,Z ao an jR,Z uo un gP])) (((W'.setCell ⟨b,0,U⟩ (I J ci)).setCell ⟨b,1,U⟩ (Z ao an jR)).setCell ⟨b,2,U⟩ (Z uo un gP))):=by
 subst r;have d:=h.stay sZ q;obtain⟨z,C⟩:=Aj (d.row i j) (I J ci) (Z ao an jR) (Z uo un gP);have D:=(aQ.1 j).1;refine⟨z,?_⟩;obtain⟨G,H,L,l⟩:=C.o;generalize (((W'.setCell ⟨w.heap.size+i,0,U⟩ _).setCell ⟨w.heap.size+i,1,U⟩ _).setCell ⟨w.heap.size+i,2,U⟩ _)=N at *;have T:gI W' S' p g gs ⟨s,c,tr⟩:=d.sh;have f:gI N S' p g gs ⟨s,c,tr⟩:=T.turns l (fun k e e2=>by
  rcases d.ap k e with m | m
  . omega
  . omega)
 have n:∀k,S' k->gB S w k:=fun k e=>by
  rcases d.ap k e with m | m
  . exact A m.1
  . exact R (by omega)
 exact⟨G,H,L,⟨ao,uo,jR,an,gP,un,by rw[<-t],u,v,x.QN (d.row i j) l,y.QN (d.row i j) l,S',f,n,B⟩,f.mono (fun k _ e=>n k e),(d.tu.mono (fun k e=>e.1)).trans l (fun k e hk=>by omega)⟩
end
theorem Uk (w:X)(m t:ay)(mi ln:Int)(l:au)(fo bo:ak)(fV nf fU nb:Nat)(body:av)(b:jl w fo fV nf (gG l))(c:l.length=nf)(d:nf<=1000000)(f:∀p∈l,p.1.size<=2000∧p.2.size<=2000)(g:m.size+t.size<=10000)(i:body.length=nb)(a:gN w bo fU body)(k:nb<=100000)(n:kC w):
 Calls prog 152 #[.agg #[V m,V t,I J mi,Z fo nf fV,I J ln],Z bo nb fU] w fun e w'=>XU w (Rq.Z4 m t l) body e w':=by
 by_cases j:Rq.uH (Ch.isToken m.data.toList) (Rq.isTarget t.data.toList) (m.data.toList.length+t.data.toList.length+10) nb nf (Fd.vals lX l).length (Fd.vals lY l).length (Fd.vals lW l).length=0
 . exact Pg w m t ⟨(Ch.iV 8 nb).toArray⟩ mi ln l fo bo fV nf fU nb body b c d f g i a (fun W o=>pz nb (by omega) W (n.stay o)) rfl j
 . exact L8 w m t mi ln l fo bo fV nf fU nb body b c d f g i j
section
variable {w0 w w':X}
theorem Pj (u:Sp.Up)(n:Nat)(hid:u.id=(n:Int))(hn:n<1000000000){bo:ak}{fU nb:Nat}(t:gN w bo fU u.bytes)(hb:u.bytes.length=nb)(hnb:nb<=100000)(hz:u.note.size<=2000)(hP:kC w)(sz st:Int):
 Calls prog 102 #[.agg #[I J (n:Int),I J sz,V u.note,Z bo nb fU,I J st]] w fun e w'=>∃(ao:ak) (cap m:Nat),e=Y (Z ao m cap)∧m=(Pt.onward u).length∧gN w' ao cap (Pt.onward u)∧Below w.heap.size w w'∧∀a,ao=M a->w.heap.size<=a.block:=by
 have v:=(eY _ w).alloc (aM _) (K #[I J (n:Int),I J sz,V u.note,Z bo nb fU,I J st] 92);have x:=pz n hn _ (hP.stay v);obtain⟨d,hd⟩:∃d:ay,d=⟨(Ch.iV 8 n).toArray⟩:=⟨_,rfl⟩;have hdz:d.size<=9:=by
  rw[hd];show(Ch.iV 8 n).toArray.size<=9;rw[bK];exact(Ch.jm 8 n).1
 rw[<-hd] at x;have W:Pt.target u.id=Pt.VW++d:=by
  unfold Pt.target Tu.dec;rw[hid,Int.toNat_natCast,hd]
 have QI:Pt.head u=Rq.Z4 Tu.AP (Pt.VW++d) (Pt.xg u.note):=by unfold Pt.head;rw[W];rfl
 have UJ:Hid (Pt.onward u=(Rq.text (Rq.Z4 ⟨#[80,79,83,84]⟩ ((⟨#[47,116,97,107,101,47]⟩:ay)++d) (Pt.xg u.note)) u.bytes).1):=by unfold Hid Pt.onward;rw[QI];rfl
 have hzt:((⟨#[47,116,97,107,101,47]⟩:ay)++d).size<=15:=by rw[bL];show 6+d.size<=_;omega
 have hz1:¬(9223372036854775807<6+d.size):=by omega
 clear QI W hd;go_enter func102,ntmps102;go_wp2_with fail
 refine x.mono ?_;rintro e b ⟨rfl,y⟩;have HR:=(y.block w.heap.size (by simp)).trans (eX w _);have x2:=eZ b _ 2 _ _ _ HR;have x3:=eZ b _ 3 _ _ _ HR;simp at x2 x3;have HB1:=H9 (then_ v y);obtain⟨tb,htb⟩:∃tb,(u.note.toList==[])=tb:=⟨_,rfl⟩;have HTb:Hid ((tb=true->u.note.size=0)∧(tb=F->¬u.note.size=0)):=by
  rw[<-htb,Lib.toList_data];have e:u.note.data.toList.length=u.note.size:=by rw[aO];rfl
  exact⟨fun h=>by rw[<-e,aS.1 h];rfl,fun h h2=>aR.1 h (dh (e.trans h2))⟩
 have s:=(aL.1 HR).1;have hA1:=(eY _ b).alloc (aM _) (K #[V ⟨#[72,111,115,116]⟩,V ⟨#[105,110,108,97,110,100]⟩] 131);have z:=then_ hA1 ((eY _ (b.alloc (K #[V ⟨#[72,111,115,116]⟩,V ⟨#[105,110,108,97,110,100]⟩] 131))).alloc (aM _) (K #[V ⟨#[80,79,83,84]⟩,V ((⟨#[47,116,97,107,101,47]⟩:ay)++d),I J 0,Z (M ⟨b.heap.size,0,U⟩) 1 1,I J 0] 82));have C:=H9 ((z.block w.heap.size s).trans HR);have p:=H9 (eX (b.alloc (K #[V ⟨#[72,111,115,116]⟩,V ⟨#[105,110,108,97,110,100]⟩] 131)) (K #[V ⟨#[80,79,83,84]⟩,V ((⟨#[47,116,97,107,101,47]⟩:ay)++d),I J 0,Z (M ⟨b.heap.size,0,U⟩) 1 1,I J 0] 82));have D:(b.alloc (K #[V ⟨#[72,111,115,116]⟩,V ⟨#[105,110,108,97,110,100]⟩] 131)).heap.size=b.heap.size+1:=fG ..;rw[D] at p;have HOf:Hid (gH ((b.alloc (K #[V ⟨#[72,111,115,116]⟩,V ⟨#[105,110,108,97,110,100]⟩] 131)).alloc (K #[V ⟨#[80,79,83,84]⟩,V ((⟨#[47,116,97,107,101,47]⟩:ay)++d),I J 0,Z (M ⟨b.heap.size,0,U⟩) 1 1,I J 0] 82)) b.heap.size 131 2 (M ⟨b.heap.size,0,U⟩) 1 1 (gG [(Pt.Dp,Pt.vIn)])):=by
  have h0:gH (b.alloc (K #[V ⟨#[72,111,115,116]⟩,V ⟨#[105,110,108,97,110,100]⟩] 131)) b.heap.size 131 2 (M ⟨b.heap.size,0,U⟩) 1 1 (gG [(Pt.Dp,Pt.vIn)]):=⟨rfl,.inr ⟨b.heap.size,1,_,rfl,aM _,eX b _,aM _,by decide,rfl,rfl⟩⟩;exact h0.alloc _
 have G:=H9 (then_ HB1.o z);have hs2:((b.alloc (K #[V ⟨#[72,111,115,116]⟩,V ⟨#[105,110,108,97,110,100]⟩] 131)).alloc (K #[V ⟨#[80,79,83,84]⟩,V ((⟨#[47,116,97,107,101,47]⟩:ay)++d),I J 0,Z (M ⟨b.heap.size,0,U⟩) 1 1,I J 0] 82)).heap.size=b.heap.size+2:=by rw[fG,D]
 have HS2:=H9 hs2;clear hs2;have hsz:w.heap.size<b.heap.size:=s;obtain⟨i0,hi0,hq0,hq1,hq2⟩:=info_parts pq;have Hi:=H9 hi0;have lH:=H9 hq0;have lq:=H9 hq1;have lI:=H9 hq2
 have H:Hid (nb=u.bytes.length∧nb<=100000∧gN w bo fU u.bytes):=⟨hb.symm,hnb,t⟩;have Jy:=H9 hP;clear hA1 z hi0 hq0 hq1 hq2 x2 x3 x y D HR t hb hP v HB1;go_upto_region 2 with fail
 generalize ((⟨#[47,116,97,107,101,47]⟩:ay)++d)=tg at *;generalize ((b.alloc (K #[V ⟨#[72,111,115,116]⟩,V ⟨#[105,110,108,97,110,100]⟩] 131)).alloc (K #[V ⟨#[80,79,83,84]⟩,V tg,I J 0,Z (M ⟨b.heap.size,0,U⟩) 1 1,I J 0] 82))=L at *;have x2:=eZ L _ 2 _ _ _ C.o;simp at x2;have h3:=eZ L _ 3 _ _ _ p.o;simp at h3;have hf3:=fq L _ 3 _ _ p.o;generalize b.heap.size=f at *;go_upto_if 15 with fail
 go_cut [] (fun wd=>∃(fo:ak) (fc nf:Nat),wd.heap[f+1]? = M (K #[V ⟨#[80,79,83,84]⟩,V tg,I J 0,Z fo nf fc,I J 0] 82 (0,0))∧nf=(Pt.xg u.note).length∧jl wd fo fc nf (gG (Pt.xg u.note))∧Below w.heap.size w wd∧wd.heap[w.heap.size]? = M (K #[I J (n:Int),I J sz,V u.note,Z bo nb fU,I J st] 92 (0,0)))
 case first =>
  cases tb
  case true =>
   have r:=HTb.o.1 rfl;have I9:Hid (Pt.xg u.note=[(Pt.Dp,Pt.vIn)]):=by unfold Hid Pt.xg;rw[if_pos r]
   clear r;go_wp2;go_meet;exact⟨M ⟨f,0,U⟩,1,1,p.o,by rw[I9.o];rfl,by rw[I9.o];exact HOf.o.qP,G.o,C.o⟩
  case false =>
   have r:=HTb.o.2 rfl;have I9:Hid (Pt.xg u.note=[(Pt.Dp,Pt.vIn)]++[(Tu.FY,u.note)]):=by unfold Hid Pt.xg;rw[if_neg r];rfl
   have EX:Hid (Below L.heap.size L (L.alloc (K #[V ⟨#[85,112,108,111,97,100,45,77,101,116,97,100,97,116,97]⟩,V u.note] 131))):=(eY _ _).alloc (aM _) _;have xV:=H9 (HOf.o.stay EX.o);have pK:Hid (∀g j l,(L.alloc (K #[V ⟨#[85,112,108,111,97,100,45,77,101,116,97,100,97,116,97]⟩,V u.note] 131)).grownBy g (M f)->gH g f 131 2 j l 2 (gG [(Pt.Dp,Pt.vIn)]++[V Tu.FY,V u.note])->(g.cell? ⟨f+1,3,U⟩=M (Z (M ⟨f,0,U⟩) 1 1)∧g.frozen? ⟨f+1,3,U⟩=F)∧((g.setCell ⟨f+1,3,U⟩ (Z j 2 l)).heap[f+1]? = M (K #[V ⟨#[80,79,83,84]⟩,V tg,I J 0,Z j 2 l,I J 0] 82 (0,0))∧jl (g.setCell ⟨f+1,3,U⟩ (Z j 2 l)) j l 2 (gG ([(Pt.Dp,Pt.vIn)]++[(Tu.FY,u.note)]))∧Below w.heap.size w (g.setCell ⟨f+1,3,U⟩ (Z j 2 l))∧(g.setCell ⟨f+1,3,U⟩ (Z j 2 l)).heap[w.heap.size]? = M (K #[I J (n:Int),I J sz,V u.note,Z bo nb fU,I J st] 92 (0,0)))):=fun g j l hG hO=>by
    have T:=(Turns.of_below (S:=fun k=>k=f) EX.o).trans (Turns.iM hG (fun k e=>by injection e with e;exact e.symm)) (fun _ e _=>e);have r4:=T.row p.o (by omega);have u4:=T.row C.o (by omega);have uO:Turns (fun k=>k=f+1) g (g.setCell ⟨f+1,3,U⟩ (Z j 2 l)):=Turns.setCell (fun k=>k=f+1) g _ _ rfl;have hne:=kN r4 hO (by decide);rw[gD] at hne;have xC:=hO.turns uO (fun a e e2=>hne (by rw[e];show M a.block=_;rw[e2]));have hB4:=(G.o.trans (T.below (B:=w.heap.size) (fun k e=>by omega) G.o.size));refine⟨⟨eZ g _ 3 _ _ _ r4,fq g _ 3 _ _ r4⟩,fu g _ 3 _ _ _ r4,xC.qP,hB4.trans (uO.below (B:=w.heap.size) (fun k e=>by omega) hB4.size),uO.row u4 (by omega)⟩
   clear r;go_wp2_with (at_builtin;go_loud (refine iq rfl (.tmp 17) (.tmp 21) 80 rfl f 131 i0 (.agg #[V ⟨#[]⟩,V ⟨#[]⟩]) 2 32 underlying80 Hi.o lH.o lq.o lI.o rfl (by decide) rfl xV.o rfl (jl.made _ _ 1 _ _) rfl (IG _ _) (by decide) (by decide) (by rw[fG];have:=HS2.o;omega) ?_;intro j l g hO4 hG4 TH;obtain⟨⟨e3,ef3⟩,hst⟩:=pK.o g j l hG4 hO4;have Jw:=H9 hst;clear hO4 hG4 TH hst))
   go_meet;exact⟨j,l,2,Jw.o.1,by rw[I9.o];rfl,by rw[I9.o];exact Jw.o.2.1,Jw.o.2.2.1,Jw.o.2.2.2⟩
 case rest =>
  obtain⟨fo,fc,nf,i,hnf,hV,t,hru⟩:=hcut;have b0:=eZ wc _ 0 _ _ _ i;have b1:=eZ wc _ 1 _ _ _ i;have b2:=eZ wc _ 2 _ _ _ i;have b3:=eZ wc _ 3 _ _ _ i;have b4:=eZ wc _ 4 _ _ _ i;have x3:=eZ wc _ 3 _ _ _ hru;simp at b0 b1 b2 b3 b4 x3;have kY:(Pt.xg u.note).length<=2:=by unfold Pt.xg;split <;> simp
  have HWr:=Uk wc ⟨#[80,79,83,84]⟩ tg 0 0 (Pt.xg u.note) fo bo fc nf fU nb u.bytes hV hnf.symm (by omega) (fun q hq=>by
   unfold Pt.xg at hq;rcases dZ.1 hq with e | e
   . subst e;exact⟨by decide,by decide⟩
   . split at e
     . cases e
     . rw[bA.1 e];exact⟨show Tu.FY.size<=2000 by decide,hz⟩) (by show 4+tg.size<=_;omega) H.o.1.symm (H.o.2.2.stay t) H.o.2.1 (Jy.o.stay t)
  have Gn:=H9 t;clear hV t hru i hnf kY;go_wp2_with fail
  refine HWr.mono ?_;intro e w5 hw;have HFin:∃(ao:ak) (cap k cd:Nat),e=Y (.tuple #[Z ao k cap,I J (cd:Int)])∧k=(Pt.onward u).length∧gN w5 ao cap (Pt.onward u)∧Below w.heap.size w w5∧∀a,ao=M a->w.heap.size<=a.block:=by
   cases hw with
   | bad c hc he ht N=>exact⟨U,0,0,c,he,by rw[UJ.o,ht];rfl,by rw[UJ.o,ht];exact gN.nil _,then_ Gn.o N,fun a e=>by cases e⟩
   | ok gb cap k he hk ht hO N=>exact⟨M ⟨gb,0,U⟩,cap,k,0,he,by rw[UJ.o];exact hk,by rw[UJ.o];exact hO.tN,then_ Gn.o N,fun a e=>by injection e with e;subst e;exact dB Gn.o.size hO.rA⟩
  obtain⟨ao,cap,k,cd,rfl,T⟩:=HFin;have HT:=H9 T;clear hw T;go_wp2;go_ret;exact⟨ao,cap,k,rfl,HT.o⟩
end
section
variable {w0 w w':X} {S:Nat->Prop} {p g gs:Nat} {P:Pt.P}
def z3:Obj:=FD (I J 0) (Z U 0 0) (Z U 0 0)
theorem aaY (h:gI w S p g gs P):iL (G7 p g gs P.c P.tr) S w 0 [z3] P.s (fun k=>S k∧k<w.heap.size) (w.alloc (K #[I J 0,Z U 0 0,Z U 0 0] 70)) :=
 (iL.start sZ (s:=P.s) h).box sZ rfl (fun _ e=>e.2) _
theorem Ul (h:gI w S p g gs P)(ok:Sr.Ok P.s)(a:Int):
 Calls prog 60 #[Q (M ⟨p,0,U⟩),I J a] w fun e w'=>EH S w p g gs (Pt.stepT P a) e w':=by
 obtain⟨f,j⟩:∃f,f=Pt.stepT P a:=⟨_,rfl⟩;rw[<-j];unfold Pt.stepT at j;have u:=aaY h;obtain⟨N,x1⟩:=gI.cells u.sh;have k:=gI.ends u.sh ok a;have d:(Sr.ends P.s a).2≠0->(Sr.ends P.s a).1=P.s:=Tu.lQ;generalize Sr.ends P.s a=r at *;obtain⟨s2,l⟩:=r;simp only at j k d;have n:=H9 j;have T:=H9 d
 clear j d;go_enter func60,ntmps60;go_wp2_with fail
 refine k.mono ?_;rintro e W ⟨rfl,G⟩;have t:=u.did (O:=G7 p g gs P.c P.tr) G.at_ G.turns;obtain⟨H,L⟩:=gI.cells t.sh;clear N x1;by_cases x:l=0
 . subst x;rw[if_neg (by simp)] at n;have IE:=gI.sync t.sh;go_wp2_with fail
   refine IE.mono ?_;rintro e w3 ⟨rfl,m⟩;have T3:=t.did (O:=G7 p g gs P.c P.tr) m.at_ m.turns;obtain⟨⟨z0,z1,z2,f0,f1,f2⟩,y⟩:=T3.tells (eY _ _) (i:=0) rfl (b:=w.heap.size) rfl ⟨0,[],[]⟩ (ci:=0) rfl (ao:=U) (uo:=U) (jR:=0) (gP:=0) rfl rfl (gN.nil _) (gN.nil _) (fun q=>absurd rfl q);clear H L;go_wp2;generalize (((w3.setCell ⟨w.heap.size,0,U⟩ _).setCell ⟨w.heap.size,1,U⟩ _).setCell ⟨w.heap.size,2,U⟩ _)=wf at *;obtain⟨z,B,C,D⟩:=y.o;refine fI (v:=.agg #[I J 0,Z U 0 0,Z U 0 0]) (by simp[results,results60,go_sem,z,B,C]) rfl ?_;rw[n.o];exact D
 . rw[if_pos (by simpa using x)] at n;have e:=T.o x;subst e;have tc:((l:Int)==0)=F:=aR.2 (by omega);obtain⟨⟨z0,z1,z2,f0,f1,f2⟩,y⟩:=t.tells (eY _ _) (i:=0) rfl (b:=w.heap.size) rfl ⟨l,[],[]⟩ (ci:=(l:Int)) rfl (ao:=U) (uo:=U) (jR:=0) (gP:=0) rfl rfl (gN.nil _) (gN.nil _) (fun q=>absurd rfl q);clear H L;go_wp2;generalize (((W.setCell ⟨w.heap.size,0,U⟩ _).setCell ⟨w.heap.size,1,U⟩ _).setCell ⟨w.heap.size,2,U⟩ _)=wf at *;obtain⟨z,B,C,D⟩:=y.o;refine fI (v:=.agg #[I J (l:Int),Z U 0 0,Z U 0 0]) (by simp[results,results60,go_sem,z,B,C]) rfl ?_;rw[n.o];exact D
theorem XW (hP:kC w0)(hW:Below w0.heap.size w0 w)(hF:∀i,S i->w0.heap.size<=i)(h:gI w S p g gs P)(ok:Sr.Ok P.s)(htr:P.tr.length<=1000000)(d:Int):
 Calls prog 59 #[Q (M ⟨p,0,U⟩),I J d] w fun e w'=>EH S w p g gs (Pt.Gh P d) e w':=by
 obtain⟨W,hR⟩:∃W,W=Pt.Gh P d:=⟨_,rfl⟩;rw[<-hR];unfold Pt.Gh at hR;have T1:=aaY h;obtain⟨x0,x1⟩:=gI.cells T1.sh;have z:=gI.begins T1.sh ok d;have C:(Sr.begins P.s d).2≠0->(Sr.begins P.s d).1=P.s:=Tu.lQ;have D:(Sr.begins P.s d).2=0->∃i u,Sp.place (Sr.begins P.s d).1.h.l d=M i∧(Sr.begins P.s d).1.h.l[i]? = M { u with sent:=1 }∧Pt.Il (Sr.begins P.s d).1.h d=Pt.onward u∧u.id=d∧1<=d∧d<=100000∧u.note.size<=100∧u.bytes.length<=2000:=fun h0=>by
  obtain⟨i,u,hp,t,m,_,_,he⟩:=Pt.Pk h0;obtain⟨h1,h2,h3⟩:=Pt.Z5 hp t he;have hk:=ok.h.all u (dH t);have:=hk.low;have:=hk.high;have:=ok.FU
  exact⟨i,u,h1,h2,h3,m,by omega,by omega,hk.note,hk.long⟩
 have I4:=H9 (ok.begins d);generalize Sr.begins P.s d=r at *;obtain⟨s2,c2⟩:=r;simp only at hR z C D I4;have HR:=H9 hR;have EY:=H9 C;have HYs:=H9 D
 have HP:=H9 hP;have HW:=H9 hW;have HF:=H9 hF
 clear hR C D hP hW hF;go_enter func59,ntmps59;go_wp2_with fail
 refine z.mono ?_;rintro e w2 ⟨rfl,hd⟩;have T2:=T1.did (O:=G7 p g gs P.c P.tr) hd.at_ hd.turns;obtain⟨y0,y1⟩:=gI.cells T2.sh;clear x0 x1;by_cases h0:c2=0
 . subst h0;rw[if_neg (by simp)] at HR;obtain⟨i,u,hp,t,hsu,m,hlo,hhi,hnz,hbz⟩:=HYs.o rfl;rw[hsu] at HR;have IE:=gI.sync T2.sh;have HPl:=H9 hp;have HUi:=H9 t;have HId:=H9 m;have HNz:=H9 hnz;have HBz:=H9 hbz
   obtain⟨n,rfl⟩:∃n:Nat,d=n:=⟨d.toNat,by omega⟩;clear hsu hp t m hnz hbz HYs EY;go_wp2_with fail
   refine IE.mono ?_;rintro e w3 ⟨rfl,G⟩;have T3:=T2.did (O:=G7 p g gs P.c P.tr) G.at_ G.turns;have H:=(eY _ w3).alloc (aM _) (K #[I J (n:Int)] 3);have T4:=T3.stay sZ H;have hpl:=gI.lt T3.sh;obtain⟨io,gM,hO,hc1,hf1,_,_,hK⟩:=gI.trail T4.sh;have c3:w3.cell? ⟨p,1,U⟩=M (Z io P.tr.length gM):=((H.cell (p:=⟨p,1,U⟩) hpl).symm).trans hc1;have HO:Hid (gH (w3.alloc (K #[I J (n:Int)] 3)) 0 3 1 io gM P.tr.length (qR P.tr)):=hO;obtain⟨i0,hi0,hq0,hq1,hq2⟩:=info_parts yU;have Hi:=H9 hi0;have lH:=H9 hq0;have lq:=H9 hq1;have lI:=H9 hq2
   have pK:Hid (∀x L f,gH f 0 3 1 x L (P.tr.length+1) (qR P.tr++[I J (n:Int)])->(w3.alloc (K #[I J (n:Int)] 3)).grownBy f (fZ io)->(∀j,fZ x=M j->fZ io=M j∨(w3.alloc (K #[I J (n:Int)] 3)).heap.size<=j) ->
    (f.cell? ⟨p,1,U⟩=M (Z io P.tr.length gM)∧f.frozen? ⟨p,1,U⟩=F)∧∃Pd,iL (G7 p g gs P.c (P.tr++[(n:Int)])) S w 0 [z3] (Sr.sync s2) Pd (f.setCell ⟨p,1,U⟩ (Z x (P.tr.length+1) L))):=fun x L f h1 h2 h3=>by
    obtain⟨k1,k2,k3⟩:=hK x L (n:Int) f h1 h2 h3;exact⟨k1,_,T4.into (O':=G7 p g gs P.c (P.tr++[(n:Int)])) k2 (fun _ e=>e) k3⟩
   clear y0 y1 hi0 hq0 hq1 hq2 hO hK T2 T1 T3 T4 H hc1 hf1 z IE hd G;generalize P.tr.length=tn at *;go_upto_region 5 with fail
   go_upto_region 6 with (at_builtin;go_loud (refine iq rfl (.tmp 33) (.tmp 35) 55 rfl 0 3 i0 (I J 0) 1 8 underlying55 Hi.o lH.o lq.o lI.o rfl (by decide) rfl HO.o rfl (jl.made _ _ 1 _ _) rfl (fun u t=>by simp at t;rw[t];rfl) (by omega) (by omega) (aA _) ?_;intro x L f hO4 hG4 TH;obtain⟨⟨e1,ef1⟩,hA4⟩:=pK.o x L f hO4 hG4 (fun j e=>by rcases TH with q | q;exact A (q▸e);exact R (by rw[q] at e;injection e with e;omega));have Ww:=H9 hA4;clear hO4 hG4 TH hA4))
   clear e1 ef1 c3 HO pK hpl;obtain⟨A5,T5⟩:=Ww.o;clear Ww;generalize (f.setCell ⟨p,1,U⟩ (Z x (tn+1) L))=w5 at *;obtain⟨B,hSt,_,⟨y0,y1⟩,_⟩:=gI.iX T5.sh;obtain⟨gp,gl,lo,lca,Pp,hI⟩:=hSt;obtain⟨⟨y2,_⟩,_⟩:=kF hI.row;have N:=Sp.kX HPl.o;have y:s2.h.l[i]={ u with sent:=1 }:=by
    have:=HUi.o;rw[dz N] at this;injection this
   have Ti:=Ao s2.h Pp gp (n:Int) i w5 hI.sP I4.o.h HPl.o N;rw[y] at Ti;simp only[HId.o] at Ti;clear hI y N;have Tt:=H9 T5;clear T5;go_wp2_with fail
   refine Ti.mono ?_;rintro e w6 ⟨bo,fU,rfl,WG,hb6⟩;have T:=(eY _ w6).alloc (aM _) (K #[I J (n:Int),I J u.size,V u.note,Z bo u.bytes.length fU,I J 1] 92);have T7:=(Tt.o.stay sZ hb6).stay sZ T;have OJ:=H9 (WG.stay T);have hr7:=eX w6 (K #[I J (n:Int),I J u.size,V u.note,Z bo u.bytes.length fU,I J 1] 92);have hW7:Below w0.heap.size w0 (w6.alloc (K #[I J (n:Int),I J u.size,V u.note,Z bo u.bytes.length fU,I J 1] 92)):=HW.o.trans ((T7.tu.mono (S':=S) (fun k e=>e.1)).below (B:=w0.heap.size) (fun k e=>HF.o k e) HW.o.size);have HOn:=Pj (w:=w6.alloc (K #[I J (n:Int),I J u.size,V u.note,Z bo u.bytes.length fU,I J 1] 92)) u n HId.o (by omega) OJ.o rfl (by have:=HBz.o;omega) (by have:=HNz.o;omega) (HP.o.stay hW7) u.size 1;have Xo:=H9 (T7.trim sZ);have Qw:=H9 hr7
   clear T7 hr7 hW7 T WG hb6 Ti Tt y0 y1 y2;go_upto_region 7 with fail
   generalize (w6.alloc (K #[I J (n:Int),I J u.size,V u.note,Z bo u.bytes.length fU,I J 1] 92))=W7 at *;have b0:=eZ W7 _ 0 _ _ _ Qw.o;have b1:=eZ W7 _ 1 _ _ _ Qw.o;have b2:=eZ W7 _ 2 _ _ _ Qw.o;have b3:=eZ W7 _ 3 _ _ _ Qw.o;have b4:=eZ W7 _ 4 _ _ _ Qw.o;simp at b0 b1 b2 b3 b4;go_wp2_with fail
   refine HOn.mono ?_;rintro e w8 ⟨uo,gP,un,rfl,hun,hU8,hb8,hnw⟩;obtain⟨⟨z0,z1,z2,f0,f1,f2⟩,HE⟩:=Xo.o.tells hb8 (i:=0) rfl (b:=w.heap.size) rfl ⟨0,[],Pt.onward u⟩ (ci:=0) rfl (ao:=U) (jR:=0) (an:=0) rfl hun (gN.nil _) hU8 (fun _ a e=>by have h1:=hnw a e;have h2:=Xo.o.sz;exact⟨by omega,fun q=>by have:=q.2;omega⟩);clear b0 b1 b2 b3 b4 hun hU8 hb8 hnw;go_wp2;generalize (((w8.setCell ⟨w.heap.size,0,U⟩ _).setCell ⟨w.heap.size,1,U⟩ _).setCell ⟨w.heap.size,2,U⟩ _)=wf at *;obtain⟨q0,q1,q2,q3⟩:=HE.o;refine fI (v:=.agg #[I J 0,Z U 0 0,Z uo un gP]) (by simp[results,results59,go_sem,q0,q1,q2]) rfl ?_;rw[HR.o];exact q3
 . rw[if_pos (by simpa using h0)] at HR;have e:=EY.o h0;subst e;have tc:((c2:Int) != 0)=true:=cK.2 (by omega);obtain⟨⟨z0,z1,z2,f0,f1,f2⟩,HE⟩:=T2.tells (eY _ _) (i:=0) rfl (b:=w.heap.size) rfl ⟨c2,[],[]⟩ (ci:=(c2:Int)) rfl (ao:=U) (uo:=U) (jR:=0) (gP:=0) rfl rfl (gN.nil _) (gN.nil _) (fun q=>absurd rfl q);clear y0 y1;go_wp2;generalize (((w2.setCell ⟨w.heap.size,0,U⟩ _).setCell ⟨w.heap.size,1,U⟩ _).setCell ⟨w.heap.size,2,U⟩ _)=wf at *;obtain⟨q0,q1,q2,q3⟩:=HE.o;refine fI (v:=.agg #[I J (c2:Int),Z U 0 0,Z U 0 0]) (by simp[results,results59,go_sem,q0,q1,q2]) rfl ?_;rw[HR.o];exact q3
end
section
variable {w0 w w1 wf wr:X} {S:Nat->Prop} {g gs:Nat} {s:Sr.Sh} {c:Nat->Gt.Cn} {κ:Nat->Af} {x:Nat->Ql} {v:Nat->List Value} {k gp:Nat}
theorem jJ.renew (h:jJ w0 κ g gs s v c x KE zR wr)(t:jq w1 (fun i=>wr.heap.size<=i) gp Rq.start)(o:Below wr.heap.size wr w1)(l:jU wf g gs (upd v k (Uy Gt.wL (L6 gp))))(m:Turns (fun i=>i=g) w1 wf):
 jJ w0 (iC κ wr.heap.size (.rq k)) g gs s (upd v k (Uy Gt.wL (L6 gp))) (upd c k Gt.wL) (upd x k (L6 gp)) KE zR wf:=by
 have b:=h.held;have n:=(b .row).1.lt;have p:=h.qL.size;have a:∀d,d≠.row->Ct g gs s v 4 c x KE zR d wf (fun i=>iC κ wr.heap.size (.rq k) i=d):=fun d u=>by
  have L:kD (Ct g gs s v 4 c x KE zR d):=lJ (fun _=>kD.ku) kD.ku d;have y:=L.mono (b d) (S':=fun i=>κ i=d∧i<wr.heap.size) (fun i z e=>⟨e,z⟩);have C:=L.turns (L.turns y (Turns.of_below (S:=fun _=>False) o) (fun _ _ e=>e)) m (fun i e r=>u (by rw[<-e.1,r];exact(b .row).2));exact L.mono C (fun i _ e=>(ig e.2).trans e.1)
 refine⟨fun d=>?_,h.pow,h.qL.trans ((Turns.of_below o).trans m (fun i e _=>e) |>.below (B:=w0.heap.size) (fun i e=>by rw[e];exact h.far g (by rw[(b .row).2];intro q;cases q)) p),Jp h.far p⟩;cases d with
 | row=>exact⟨l,(ig n).trans (b .row).2⟩
 | iX=>exact a .iX (by intro q;cases q)
 | rq j =>
   intro f;by_cases e:j=k
   . subst e;rw[iI,iI];exact(t.turns m (fun i e r=>by omega)).mono (fun i _ e=>nI e)
   . rw[upd_ne _ _ e,upd_ne _ _ e];exact a (.rq j) (by intro q;cases q) f
 | fl j =>
   refine⟨fun f=>?_,trivial⟩;by_cases e:j=k
   . subst e;rw[iI,iI];exact nM.nil _ _
   . rw[upd_ne _ _ e,upd_ne _ _ e];exact(a (.fl j) (by intro q;cases q)).1 f
 | bd j =>
   intro f;by_cases e:j=k
   . subst e;rw[iI,iI];exact gK.nil _ _ _
   . rw[upd_ne _ _ e,upd_ne _ _ e];exact a (.bd j) (by intro q;cases q) f
 | ret=>trivial
 | out=>trivial
theorem Pn {d:Af}{n:Nat}(h:∀i,κ i≠.out->gB S w i)(e:w.heap.size<=n):∀i,iC κ n d i≠.out->gB S w i:=fun i a=>by
 rcases aT i n with b | b
 . rw[ig b] at a;exact h i a
 . exact R (by omega)
theorem jJ.done (h:jJ w0 κ g gs s (xW c x) c x KE zR wr)(a:∀i,κ i≠.out->gB S w i):jf wr (gB S w) g gs s c:=⟨κ,x,h.held,a⟩
theorem Md (j:Int)(b:j<0∨4<=j)(w:X):
 Calls prog 13 #[Q (M ⟨g,0,U⟩),I J j] w fun e w'=>e=Y (I J 1)∧w'=w:=by
 have a:=fun W=>uz j W;rw[show(decide (0<=j)&&decide (j<4))=F from by rcases b with h | h <;> simp <;> omega] at a;go_enter func13,ntmps13;go_wp2_with fail
 refine(a _).mono ?_;rintro e w1 ⟨rfl,d⟩;subst d;go_wp2;go_ret;exact⟨rfl,rfl⟩
structure QT (S:Nat->Prop)(w:X)(g gs:Nat)(c:Nat->Gt.Cn)(k:Nat)(s:Sr.Sh)(w':X):Prop where
 at_:jf w' (gB S w) g gs s (upd c k Gt.wL)
 turns:Turns S w w'
theorem Um (hP:kC w0)(hW:Below w0.heap.size w0 w)(hF:∀i,S i->w0.heap.size<=i)(h:jf w S g gs s c)(ok:Sr.Ok s)(k:Nat)(r:k<4)(hc:Gt.BP (c k))(hl:(c k).body.length<=20000):
 Calls prog 13 #[Q (M ⟨g,0,U⟩),I J (k:Int)] w fun e w'=>e=Y (I J 0)∧QT S w g gs c k (Gt.gone Tu.iQ s (c k)) w':=by
 have HI:=fun W=>uz (k:Int) W;rw[show(decide ((0:Int)<=(k:Int))&&decide ((k:Int)<4))=true from by simp;omega] at HI;obtain⟨κ,x,hH,hS⟩:=h;have hG0:jJ w0 κ g gs s (xW c x) c x KE zR w:=⟨hH,hP,hW,fun i e=>hF i (hS i e)⟩;have HS:=H9 hS;have N:∀k,kD (KE k):=fun _=>kD.ku;have T:kD zR:=kD.ku;have HIp:=fun W=>KT ⟨(c k).hd.method.toArray⟩ ⟨(c k).hd.target.toArray⟩ ((c k).hd.minor:Int) (c k).hd.length (x k).fo (x k).bo (c k).hd.fields.length (x k).fV (c k).body.length (x k).fU W (by show(c k).hd.target.toArray.size<=_;rw[bK];have:=hc.hd.target;omega);have HNc:=fun W=>Bw W;have k0:(0:Int)<=(k:Int):=by omega
 have k4:(k:Int)<4:=by omega
 have ME:=Ak hG0.XL r (rfl:xW c x k=[Q (M ⟨(x k).gp,0,U⟩),V ⟨(c k).hd.method.toArray⟩,V ⟨(c k).hd.target.toArray⟩,I J ((c k).hd.minor:Int),Z (x k).fo (c k).hd.fields.length (x k).fV,I J (c k).hd.length,Z (x k).bo (c k).body.length (x k).fU]);obtain⟨y,hR⟩:∃y,y=Gt.gone Tu.iQ s (c k):=⟨_,rfl⟩;rw[<-hR];unfold Gt.gone at hR;obtain⟨bp,hbp⟩:∃b,(decide ((⟨(c k).hd.method.toArray⟩:ay)=Gt.Dh)&&Gt.yQ ⟨(c k).hd.target.toArray⟩)=b:=⟨_,rfl⟩;simp only[hbp] at HIp;have hpc:(Gt.txt (c k).hd.method=Gt.Dh∧Gt.yQ (Gt.txt (c k).hd.target)=true)<->bp=true:=by
  rw[<-hbp,cO,decide_eq_true_iff];rfl
 clear hbp;go_enter func13,ntmps13;go_wp2_with fail
 refine(HI _).mono ?_;rintro e w1 ⟨rfl,hw⟩;rw[hw];go_wp2_with fail
 refine ME.mono ?_;rintro e n ⟨rfl,hr2,jM⟩;have h2:=hG0.row N T hr2 jM;have hS2:=Pn (d:=.row) (w:=w) (S:=S) (fun i e=>A (hS i e)) (aM _);have hbx:=(eY _ n).alloc (aM _) (K #[V ⟨(c k).hd.method.toArray⟩,V ⟨(c k).hd.target.toArray⟩,I J ((c k).hd.minor:Int),Z (x k).fo (c k).hd.fields.length (x k).fV,I J (c k).hd.length,Z (x k).bo (c k).body.length (x k).fU] 84);have C:=eX n (K #[V ⟨(c k).hd.method.toArray⟩,V ⟨(c k).hd.target.toArray⟩,I J ((c k).hd.minor:Int),Z (x k).fo (c k).hd.fields.length (x k).fV,I J (c k).hd.length,Z (x k).bo (c k).body.length (x k).fU] 84);have h3:=h2.stay N T hbx;have hlt2:n.heap.size<(n.alloc (K #[V ⟨(c k).hd.method.toArray⟩,V ⟨(c k).hd.target.toArray⟩,I J ((c k).hd.minor:Int),Z (x k).fo (c k).hd.fields.length (x k).fV,I J (c k).hd.length,Z (x k).bo (c k).body.length (x k).fU] 84)).heap.size:=by rw[fG];omega
 have hg2:g<n.heap.size:=hr2.lt;have nZ:Turns S w (n.alloc (K #[V ⟨(c k).hd.method.toArray⟩,V ⟨(c k).hd.target.toArray⟩,I J ((c k).hd.minor:Int),Z (x k).fo (c k).hd.fields.length (x k).fV,I J (c k).hd.length,Z (x k).bo (c k).body.length (x k).fU] 84)):=(jM.mono (fun i e=>by rw[e];exact hS g (by rw[(hH .row).2];intro h;cases h))).trans (Turns.of_below (S:=fun _=>False) hbx) (fun _ e _=>e.elim);go_upto_region 4 with fail
 generalize (n.alloc (K #[V ⟨(c k).hd.method.toArray⟩,V ⟨(c k).hd.target.toArray⟩,I J ((c k).hd.minor:Int),Z (x k).fo (c k).hd.fields.length (x k).fV,I J (c k).hd.length,Z (x k).bo (c k).body.length (x k).fU] 84))=W2 at *;have pK:Hid (∀gp D wf,jq D (fun i=>W2.drew.heap.size<=i) gp Rq.start->Below W2.drew.heap.size W2.drew D->jU wf g gs (upd (upd (xW c x) k [Q (M ⟨(x k).gp,0,U⟩),V ⟨#[]⟩,V ⟨#[]⟩,I J 0,Z U 0 0,I J 0,Z U 0 0]) k (Uy Gt.wL (L6 gp)))->Turns (fun i=>i=g) D wf ->
  (∃Cq x',jJ w0 Cq g gs s (xW (upd c k Gt.wL) x') (upd c k Gt.wL) x' KE zR wf∧∀i,Cq i≠.out->gB S w i)∧wf.heap[n.heap.size]? = M (K #[V ⟨(c k).hd.method.toArray⟩,V ⟨(c k).hd.target.toArray⟩,I J ((c k).hd.minor:Int),Z (x k).fo (c k).hd.fields.length (x k).fV,I J (c k).hd.length,Z (x k).bo (c k).body.length (x k).fU] 84 (0,0))∧Turns S w wf∧jl wf (x k).fo (x k).fV (c k).hd.fields.length (gG (Rq.nu (c k).hd.fields))∧gN wf (x k).bo (x k).fU (c k).body):=fun gp D wf G z hrf Ui=>by
  have h4:=(h3.stay N T (gy _ _));have h5:=h4.renew G z hrf Ui;rw[pX,<-zk] at h5;have B:=then_ (gy _ _) z;have H:=h3.stay N T B;have hgr:iC κ w.heap.size .row g=.row:=(h2.held .row).2;refine⟨⟨_,_,h5,Pn hS2 ?_⟩,Ui.row ((B.block _ hlt2).trans C) (fun e=>by have e:n.heap.size=g:=e;omega),(nZ.trans (Turns.of_below (S:=fun _=>False) B) (fun _ e _=>e.elim)).trans Ui (fun i e _=>by rw[e];exact hS g (by rw[(hH .row).2];intro h;cases h)),?_,?_⟩
  . exact nZ.size
  . exact(((H.held (.fl k)).1 r).turns Ui (fun i e e2=>by rw[e2] at e;have:=hgr.symm.trans e;cases this)).is
  . exact gK.tN ((H.held (.bd k) r).turns Ui (fun i e e2=>by rw[e2] at e;have:=hgr.symm.trans e;cases this))
 have HR3:∀W,Below W2.heap.size W2 W->jU W g gs _:=fun W hW=>(h3.stay N T hW).XL;clear h3 h2 nZ hbx C jM hr2 hG0 hH hS2 ME;go_cut [] (fun wd=>(∃Cq x',jJ w0 Cq g gs s (xW (upd c k Gt.wL) x') (upd c k Gt.wL) x' KE zR wd∧∀i,Cq i≠.out->gB S w i)∧wd.heap[n.heap.size]? = M (K #[V ⟨(c k).hd.method.toArray⟩,V ⟨(c k).hd.target.toArray⟩,I J ((c k).hd.minor:Int),Z (x k).fo (c k).hd.fields.length (x k).fV,I J (c k).hd.length,Z (x k).bo (c k).body.length (x k).fU] 84 (0,0))∧Turns S w wd∧jl wd (x k).fo (x k).fV (c k).hd.fields.length (gG (Rq.nu (c k).hd.fields))∧gN wd (x k).bo (x k).fU (c k).body)
 case first =>
  go_region_law ((go_simp;go_at_call 39;refine(HNc _).mono ?_;rintro e D ⟨gp,rfl,G,z⟩;have B:Below W2.heap.size W2 D:=then_ (gy _ _) z;have a:=HR3 D B;obtain⟨a0,a1,a2,a3,a4,a5,a6,hv⟩:=Go.Proofs.YthhklgjjnaeaoaaGreatDoor.seven (a.seven k r);have c0:D.cell? ⟨g,1+k*7,U⟩=M a0:=a.at_ r (j:=0) (by decide) (by rw[hv];rfl);have c1:=a.at_ r (j:=1) (by decide) (u:=a1) (by rw[hv];rfl);have c2:=a.at_ r (j:=2) (by decide) (u:=a2) (by rw[hv];rfl);have c3:=a.at_ r (j:=3) (by decide) (u:=a3) (by rw[hv];rfl);have c4:=a.at_ r (j:=4) (by decide) (u:=a4) (by rw[hv];rfl);have c5:=a.at_ r (j:=5) (by decide) (u:=a5) (by rw[hv];rfl);have c6:=a.at_ r (j:=6) (by decide) (u:=a6) (by rw[hv];rfl);have fz:=fun j=>a.fz j;have Jw:=H9 (pK.o gp D _ G z (a.ZY r (Q (M ⟨gp,0,U⟩)) (V ⟨#[]⟩) (V ⟨#[]⟩) (I J 0) (Z U 0 0) (I J 0) (Z U 0 0)).1 (a.ZY r (Q (M ⟨gp,0,U⟩)) (V ⟨#[]⟩) (V ⟨#[]⟩) (I J 0) (Z U 0 0) (I J 0) (Z U 0 0)).2);clear G z hv B a))
  all_goals
   go_wp2;go_meet;exact Jw.o
 case rest =>
  obtain⟨⟨κ3,x3,hG3,GJ⟩,l,hTw,hFV,hBV⟩:=hcut;have b0:=eZ wc _ 0 _ _ _ l;have b1:=eZ wc _ 1 _ _ _ l;have b2:=eZ wc _ 2 _ _ _ l;have b3:=eZ wc _ 3 _ _ _ l;have b4:=eZ wc _ 4 _ _ _ l;have b5:=eZ wc _ 5 _ _ _ l;have Un:=(aL.1 l).1;have HRw:=H9 l;have HTw:=hTw;have xS:=hG3;have yV:=H9 GJ;have HFV:=hFV;have HBV:=hBV
  clear pK HR3 HNc;go_wp2_with fail
  refine(HIp _).mono ?_;rintro e w5 ⟨rfl,f⟩;have uO:Turns S w w5:=HTw.trans (Turns.of_below (S:=fun _=>False) f) (fun _ e _=>e.elim);have h5:=xS.stay N T f;have b6:=(f.cell (p:=⟨n.heap.size,5,U⟩) Un).trans b5;have xB:s=y->QT S w g gs c k y w5:=fun e=>⟨by rw[<-e];exact h5.done yV.o,uO⟩;cases bp with
  | false =>
    have HN:=H9 (xB (by rw[hR,if_neg (fun e=>by have:=hpc.1 ⟨e.1,e.2.1⟩;cases this)]));go_wp2;go_ret;exact⟨rfl,HN.o⟩
  | true =>
    by_cases L:(c k).body=[]
    . have HN:=H9 (xB (by rw[hR,if_neg (fun e=>e.2.2 L)]));have hl0:(c k).body.length=0:=by rw[L];rfl
      have t:decide (((c k).body.length:Int) > 0)=F:=aJ (by omega);go_wp2;go_ret;exact⟨rfl,HN.o⟩
    . have hp:=hpc.2 rfl;rw[if_pos ⟨hp.1,hp.2,L⟩] at hR;have hl0:=eu.2 L;have t:decide (((c k).body.length:Int) > 0)=true:=aI (by omega);have H:jJ w0 κ3 g gs s (xW (upd c k Gt.wL) x3) (upd c k Gt.wL) x3 KE zR w5.drew:=h5.stay N T (gy _ _);have ZO:=QJ (m:=⟨(c k).hd.method.toArray⟩) (t:=⟨(c k).hd.target.toArray⟩) (mi:=((c k).hd.minor:Int)) (ln:=(c k).hd.length) ⟨H.pow,H.qL,fun i e=>H.far i (by rw[e];intro h;cases h)⟩ (H.held .iX) ok (aaT hc.hd ((hFV.stay f).stay (gy _ _))) (c k).body rfl ((hBV.stay f).stay (gy _ _)) (by omega) (by show(c k).hd.target.toArray.size<=_;rw[bK];have:=hc.hd.target;omega);have hz5:=uO.size;have HDn:∀w9,gV w9 (gB (fun i=>κ3 i=.iX) w5.drew) gs (Tu.iQ s ⟨(c k).hd.method.toArray⟩ ⟨(c k).hd.target.toArray⟩ (Gt.nu (c k).hd.fields) (c k).body).1->Turns (fun i=>κ3 i=.iX) w5.drew w9->QT S w g gs c k y w9:=fun w9 kE qz=>by
       have h9:=H.iX N T kE qz;refine⟨?_,(uO.trans (Turns.drewN (fun _=>False) w5 1) (fun _ e _=>e.elim)).trans qz (fun i e hi=>?_)⟩
       . rw[hR];exact h9.done (Pn yV.o hz5)
       . rcases yV.o i (by rw[e];intro h;cases h) with q | q
         . exact q
         . omega
      have y0:=h5.XL.store;have y1:=(f.cell (p:=⟨n.heap.size,0,U⟩) Un).trans b0;have y2:=(f.cell (p:=⟨n.heap.size,1,U⟩) Un).trans b1;have y3:=(f.cell (p:=⟨n.heap.size,2,U⟩) Un).trans b2;have y4:=(f.cell (p:=⟨n.heap.size,3,U⟩) Un).trans b3;have y5:=(f.cell (p:=⟨n.heap.size,4,U⟩) Un).trans b4;clear hR xB h5 H;go_upto_region 6 with fail
      go_cut [] (fun wd=>QT S w g gs c k y wd)
      case first =>
       go_region_law (first | (go_simp;go_at_call 41;refine ZO.mono ?_;rintro e w9 ⟨⟨jw,gW,n9,rfl,lM,kG⟩,kE,qz⟩;have UK:=H9 (HDn w9 kE qz);clear lM kG kE qz))
       all_goals
        go_wp2;go_meet;exact UK.o
      case rest =>
       have HC:=H9 hcut;go_wp2;go_ret;exact⟨rfl,HC.o⟩
end
section
variable {w0 w:X} {S:Nat->Prop} {g gs:Nat} {s:Sr.Sh} {c:Nat->Gt.Cn}
def Me:List Value:=[Q U,V ⟨#[]⟩,V ⟨#[]⟩,I J 0,Z U 0 0,I J 0,Z U 0 0]
theorem zN.begin_ (h:gV w S gs s):zN (fun k=>(S k∧k<w.heap.size)∨k=w.heap.size) (w.alloc (K (Qm gs (fun _=>Me)).toArray 89)) w.heap.size gs s 0 (w.alloc (K (Qm gs (fun _=>Me)).toArray 89)):=by
 have l:=(eY _ w).alloc (aM _) (K (Qm gs (fun _=>Me)).toArray 89);classical
 refine⟨⟨fun k=>if k=w.heap.size then .row else if S k∧k<w.heap.size then .iX else .out,fun _=>Me,fun _=>L6 0,fun d=>?_,fun k a=>absurd a (bX k),fun k a=>?_⟩,Turns.refl _ _⟩
 . cases d with
   | row=>exact⟨⟨eX w _,fun _ _=>rfl⟩,if_pos rfl⟩
   | iX=>exact gV.mono ((gV.mono h (S':=fun k=>S k∧k<w.heap.size) (fun k a e=>⟨e,a⟩)).stay l) (fun k _ e=>by
    show(if k=w.heap.size then Af.row else if S k∧k<w.heap.size then .iX else .out)=.iX;rw[if_neg (by have:=e.2;omega),if_pos e])
   | rq j=>exact fun b=>absurd b (bX j)
   | fl j=>exact⟨fun b=>absurd b (bX j),trivial⟩
   | bd j=>exact fun b=>absurd b (bX j)
   | ret=>trivial
   | out=>trivial
 . simp only at a;by_cases f:k=w.heap.size
   . exact A (R f)
   . rw[if_neg f] at a;by_cases i:S k∧k<w.heap.size
     . exact A (A i)
     . rw[if_neg i] at a;exact absurd rfl a
theorem XY (h:gV w S gs s):
 Calls prog 11 #[Q (M ⟨gs,0,U⟩)] w fun e w'=>e=Y (Q (M ⟨w.heap.size,0,U⟩))∧jf w' (gB S w) w.heap.size gs s (fun _=>Gt.wL)∧Turns S w w':=by
 have b:=(eY _ w).alloc (aM _) (K (Qm gs (fun _=>Me)).toArray 89);go_enter func11,ntmps11;go_wp2_with fail
 refine(EG (zN.begin_ h)).mono ?_;rintro e d ⟨rfl,f,i⟩;have a:jf d (gB S w) w.heap.size gs s (fun _=>Gt.wL)∧Turns S w d:=by
  have j:=b.size;refine⟨f.mono (fun k _ e=>?_),(Turns.of_below b).trans i (fun k e l=>?_)⟩
  . rcases e with (e | e) | e
    . exact A e.1
    . exact R (by omega)
    . exact R (by omega)
  . rcases e with e | e
    . exact e.1
    . omega
 go_wp2;go_ret;exact⟨rfl,a⟩
end
section
variable {w0 w w':X} {S:Nat->Prop} {p g gs N:Nat} {P:Pt.P}
theorem gI.feed (t:kC w0)(u:Below w0.heap.size w0 w)(v:∀i,S i->w0.heap.size<=i)(h:gI w S p g gs P)(ok:Pt.Ok P N)(k:Int)(l:av){bo:ak}{fU n:Nat}(x:gN w bo fU l)(y:l≠[]->∀a,bo=M a->¬S a.block)(z:l.length=n)(L:N+n<=20000):
 Calls prog 15 #[Q (M ⟨g,0,U⟩),I J k,Z bo n fU] w fun e w'=>∃ao cap m,e=Y (.tuple #[Z ao m cap,I J ((Pt.sI P k l).2.code:Int)])∧m=(Pt.sI P k l).2.out.length∧gN w' ao cap (Pt.sI P k l).2.out∧xJ S w p g gs (Pt.sI P k l).1 w':=by
 unfold Pt.sI;by_cases b:Pt.Y9 k
 . rw[if_pos b];obtain⟨T,B,d,_,C⟩:=h.ask;have W:=b.1;have h4:=b.2
   obtain⟨j,rfl⟩:∃j:Nat,k=j:=⟨k.toNat,by omega⟩;rw[Int.toNat_natCast];refine(Uh t u (fun i e=>v i (d i e)) B ok.s j (by omega) (ok.c j) l x (fun f a e q=>y f a e (d _ q)) z (by have:=ok.few j;omega)).mono ?_;rintro e D ⟨⟨ao,cap,m,rfl,G,H⟩,o,r⟩;refine⟨ao,cap,m,?_,G,H,C _ _ _ o r,r.mono d⟩;split <;> rfl
 . rw[if_neg b];refine(LZ k (by unfold Pt.Y9 at b;omega) bo fU n w).mono ?_;rintro e D ⟨rfl,rfl⟩;exact⟨U,0,0,rfl,rfl,gN.nil _,h.mono (fun _ _ e=>A e),Turns.refl _ _⟩
theorem gI.gone (l:kC w0)(m:Below w0.heap.size w0 w)(n:∀i,S i->w0.heap.size<=i)(h:gI w S p g gs P)(ok:Pt.Ok P N)(t:N<=20000)(k:Int):
 Calls prog 13 #[Q (M ⟨g,0,U⟩),I J k] w fun e w'=>e=Y (I J ((Pt.stepG P k).2.code:Int))∧xJ S w p g gs (Pt.stepG P k).1 w':=by
 unfold Pt.stepG;by_cases a:Pt.Y9 k
 . rw[if_pos a];obtain⟨u,o,d,_,q⟩:=h.ask;have v:=a.1;have x:=a.2
   obtain⟨j,rfl⟩:∃j:Nat,k=j:=⟨k.toNat,by omega⟩;rw[Int.toNat_natCast];refine(Um l m (fun i e=>n i (d i e)) o ok.s j (by omega) (ok.c j) (by have:=ok.few j;omega)).mono ?_;rintro e r ⟨rfl,b,f⟩;exact⟨rfl,q _ _ _ b f,f.mono d⟩
 . rw[if_neg a];refine(Md k (by unfold Pt.Y9 at a;omega) w).mono ?_;rintro e r ⟨rfl,rfl⟩;exact⟨rfl,h.mono (fun _ _ e=>A e),Turns.refl _ _⟩
theorem gI.crash (h:gI w S p g gs P)(ok:Sr.Ok P.s)(n:Int):Calls prog 61 #[Q (M ⟨gs,0,U⟩),I J n] w fun e w'=>e=Y (.tuple #[])∧xJ S w p g gs ⟨Sr.crash P.s n,P.c,P.tr⟩ w':=by
 obtain⟨B,b,d,_,f⟩:=h.iX;exact(Mi b ok n).mono fun e w' ⟨i,a⟩=>⟨i,f _ _ a.at_ a.turns,a.turns.mono d⟩
theorem gI.reset (h:gI w S p g gs P):Calls prog 35 #[Q (M ⟨g,0,U⟩)] w fun e w'=>e=Y (.tuple #[])∧xJ S w p g gs ⟨P.s,fun _=>Gt.wL,P.tr⟩ w':=by
 obtain⟨j,b,c,_,d⟩:=h.ask;exact(EG (zN.Z0 b)).mono fun e w' ⟨f,i,a⟩=>⟨f,d _ _ _ i a,a.mono c⟩
theorem Pt.Yb (P:Pt.P)(k:Int)(l:av):(Pt.sI P k l).2.up=[]∧(Pt.sI P k l).1.tr=P.tr:=by
 unfold Pt.sI;split <;> exact⟨rfl,rfl⟩
theorem Pt.Yc (P:Pt.P)(k:Int):(Pt.stepG P k).2.up=[]∧(Pt.stepG P k).2.out=[]∧(Pt.stepG P k).1.tr=P.tr:=by
 unfold Pt.stepG;split <;> exact⟨rfl,rfl,rfl⟩
theorem ae3 (h:gI w S p g gs P)(o:Obj):iL (G7 p g gs P.c P.tr) S w 0 [o,z3] P.s (fun k=>S k∧k<w.heap.size) ((w.alloc o).alloc (K #[I J 0,Z U 0 0,Z U 0 0] 70)) :=
 ((iL.start sZ (s:=P.s) h).box sZ rfl (fun _ e=>e.2) o).box sZ (by rw[fG];rfl) (fun k e=>by rw[fG];have:=e.2;omega) _
theorem Yd (hP:kC w0)(hW:Below w0.heap.size w0 w)(hF:∀i,S i->w0.heap.size<=i)(h:gI w S p g gs P)(ok:Pt.Ok P N)(htr:P.tr.length<=1000000)(x:Pt.aao){bo:ak}{fU nb:Nat}(hB:gN w bo fU x.b)(sK:x.b≠[]->∀a,bo=M a->¬S a.block)(hn:x.b.length=nb)(hl:N+nb<=20000):
 Calls prog 27 #[Q (M ⟨p,0,U⟩),.agg #[I J x.kind,I J x.conn,I J x.n,Z bo nb fU]] w fun e w'=>EH S w p g gs (Pt.step P x) e w':=by
 obtain⟨d,hR⟩:∃d,d=Pt.step P x:=⟨_,rfl⟩;rw[<-hR];unfold Pt.step at hR;have T2:=ae3 h (K #[I J x.kind,I J x.conn,I J x.n,Z bo nb fU] 73 (0,0));have hb2:Below w.heap.size w ((w.alloc (K #[I J x.kind,I J x.conn,I J x.n,Z bo nb fU] 73)).alloc (K #[I J 0,Z U 0 0,Z U 0 0] 70)):=then_ ((eY _ w).alloc (aM _) _) ((eY _ _).alloc (aM _) _);have hB2:=hB.stay hb2;have hW2:=then_ hW hb2;have HP:=H9 hP;have HF:=H9 hF;have z:=H9 hR
 obtain⟨B,hkd⟩:∃B,x.kind=B:=⟨_,rfl⟩;rw[hkd] at z T2 hB2 hW2 ⊢;clear hb2 hR hP hF hB hW h;go_enter func27,ntmps27;go_upto_region 1 with fail
 generalize ((w.alloc (K #[I J B,I J x.conn,I J x.n,Z bo nb fU] 73)).alloc (K #[I J 0,Z U 0 0,Z U 0 0] 70))=t at *;have G:=T2.row 0 rfl;have k0:=eZ t _ 0 _ _ _ G;have k1:=eZ t _ 1 _ _ _ G;have k2:=eZ t _ 2 _ _ _ G;have k3:=eZ t _ 3 _ _ _ G;simp at k0 k1 k2 k3;obtain⟨c0,c1⟩:=gI.cells T2.sh;have r:=H9 T2;have HB2:=H9 hB2;have HW2:=H9 hW2
 clear T2 G hB2 hW2;by_cases h1:B=1
 . subst h1;rw[if_pos rfl] at z;have l:=Pt.Yb P x.conn x.b;have H:=r.o.stay sZ (gy t.heap.size _);have UO:=gI.feed (w:=t.drew) (N:=N) HP.o (then_ HW2.o (gy _ _)) (fun i e=>HF.o i e.1) H.sh ok x.conn x.b (HB2.o.stay (gy _ _)) (fun hne a e q=>sK hne a e q.1) hn hl;rw[<-z.o] at UO l;have L:Hid (∀j,xJ (fun k=>S k∧k<w.heap.size) t.drew p g gs d.1 j->∃C,iL (G7 p g gs d.1.c d.1.tr) S w 0 [K #[I J 1,I J x.conn,I J x.n,Z bo nb fU] 73 (0,0),z3] d.1.s C j):=fun j f=>⟨_,H.into (O':=G7 p g gs d.1.c d.1.tr) f.at_ (fun _ e=>e) f.turns⟩;have OQ:=H9 l;clear H l;go_upto_region 3 with fail
   go_cut [5,6] (fun v5 v6 wd=>∃(ao:ak) (u m:Nat) (C:Nat->Prop),v5=Z ao m u∧v6=I J (d.2.code:Int)∧m=d.2.out.length∧gN wd ao u d.2.out∧iL (G7 p g gs d.1.c d.1.tr) S w 0 [K #[I J 1,I J x.conn,I J x.n,Z bo nb fU] 73 (0,0),z3] d.1.s C wd)
   case first =>
    go_region_law (first | (go_simp;go_at_call 15;refine UO.mono ?_;rintro e j ⟨ao,u,m,rfl,hm,hI,f⟩;have HM:=H9 hm;have HI:=H9 hI;have HD:=H9 (L.o j f);clear hm hI f))
    all_goals
     go_wp2;go_meet;obtain⟨C,hA⟩:=HD.o;exact⟨ao,u,m,C,rfl,rfl,HM.o,HI.o,hA⟩
   case rest =>
    obtain⟨ao,u,m,C,rfl,rfl,hm,hI,T⟩:=hcut;obtain⟨⟨z0,z1,z2,f0,f1,f2⟩,W⟩:=T.tells (eY _ _) (i:=1) rfl (b:=w.heap.size+1) rfl d.2 (ci:=(d.2.code:Int)) rfl (ao:=ao) (jR:=u) (an:=m) (uo:=U) (gP:=0) (un:=0) hm (by rw[OQ.o.1];rfl) hI (by rw[OQ.o.1];exact gN.nil _) (fun q=>absurd OQ.o.1 q);clear hm hI T UO;generalize d.2.code=D at *;go_wp2;generalize (((wc.setCell ⟨w.heap.size+1,0,U⟩ _).setCell ⟨w.heap.size+1,1,U⟩ _).setCell ⟨w.heap.size+1,2,U⟩ _)=wf at *;obtain⟨q0,q1,q2,q3⟩:=W.o;refine fI (v:=.agg #[I J (D:Int),Z ao m u,Z U 0 0]) (by simp[results,results27,go_sem,q0,q1,q2]) rfl ?_;exact q3
 by_cases h2:B=2
 . subst h2;rw[if_neg (by decide),if_pos rfl] at z;have l:=Pt.Yc P x.conn;have H:=r.o.stay sZ (gy t.heap.size _);have HGo:=gI.gone (w:=t.drew) (N:=N) HP.o (then_ HW2.o (gy _ _)) (fun i e=>HF.o i e.1) H.sh ok (by omega) x.conn;rw[<-z.o] at HGo l;obtain⟨D,hcd⟩:∃D,d.2.code=D:=⟨_,rfl⟩;rw[hcd] at HGo;have L:Hid (∀j,xJ (fun k=>S k∧k<w.heap.size) t.drew p g gs d.1 j->_):=fun j f=>(H.into (O':=G7 p g gs d.1.c d.1.tr) f.at_ (fun _ e=>e) f.turns).tells (eY _ _) (i:=1) rfl (b:=w.heap.size+1) rfl d.2 (ci:=(D:Int)) (by rw[hcd]) (ao:=U) (jR:=0) (an:=0) (uo:=U) (gP:=0) (un:=0) (by rw[l.2.1];rfl) (by rw[l.1];rfl) (by rw[l.2.1];exact gN.nil _) (by rw[l.1];exact gN.nil _) (fun q=>absurd l.1 q);clear H l hcd;have t1:((2:Int)==1)=F:=rfl;go_upto_region 6 with fail
   go_cut [] (fun wd=>wd.cell? ⟨w.heap.size+1,0,U⟩=M (I J (D:Int))∧wd.cell? ⟨w.heap.size+1,1,U⟩=M (Z U 0 0)∧wd.cell? ⟨w.heap.size+1,2,U⟩=M (Z U 0 0)∧EH S w p g gs d (Y (.agg #[I J (D:Int),Z U 0 0,Z U 0 0])) wd)
   case first =>
    go_region_law (first | (go_simp;go_at_call 13;refine HGo.mono ?_;rintro e j ⟨rfl,f⟩;obtain⟨⟨z0,z1,z2,f0,f1,f2⟩,W⟩:=L.o j f;clear f))
    all_goals
     go_wp2;go_meet;exact W.o
   case rest =>
    obtain⟨q0,q1,q2,q3⟩:=hcut;go_wp2;refine fI (v:=.agg #[I J (D:Int),Z U 0 0,Z U 0 0]) (by simp[results,results27,go_sem,q0,q1,q2]) rfl ?_;exact q3
 by_cases h3:B=3
 . subst h3;rw[if_neg (by decide),if_neg (by decide),if_pos rfl] at z;have y:=XW (w:=t) HP.o HW2.o (fun i e=>HF.o i e.1) r.o.sh ok.s htr x.n;rw[<-z.o] at y;have L:Hid (∀e j,EH (fun k=>S k∧k<w.heap.size) t p g gs d e j->∃(ao uo:ak) (jR an gP un:Nat),e=Y (.agg #[I J (d.2.code:Int),Z ao an jR,Z uo un gP])∧_):=fun e j f=>by
    obtain⟨⟨ao,uo,jR,an,gP,un,he,han,hun,hI1,hI2,C,hA,hAs,hAu⟩,hat,T⟩:=f;exact⟨ao,uo,jR,an,gP,un,he,(r.o.into (O':=G7 p g gs d.1.c d.1.tr) hA hAs T).tells (eY _ _) (i:=1) rfl (b:=w.heap.size+1) rfl d.2 (ci:=(d.2.code:Int)) rfl (ao:=ao) (jR:=jR) (an:=an) (uo:=uo) (gP:=gP) (un:=un) han hun hI1 hI2 (fun q a e=>by obtain⟨h1,h2⟩:=hAu q a e;have:=r.o.sz;exact⟨by omega,h2⟩)⟩
   go_wp2_with fail
   refine y.mono ?_;intro e j f;obtain⟨ao,uo,jR,an,gP,un,rfl,⟨z0,z1,z2,f0,f1,f2⟩,W⟩:=L.o e j f;clear f L y;generalize d.2.code=D at *;go_wp2;generalize (((j.setCell ⟨w.heap.size+1,0,U⟩ _).setCell ⟨w.heap.size+1,1,U⟩ _).setCell ⟨w.heap.size+1,2,U⟩ _)=wf at *;obtain⟨q0,q1,q2,q3⟩:=W.o;refine fI (v:=.agg #[I J (D:Int),Z ao an jR,Z uo un gP]) (by simp[results,results27,go_sem,q0,q1,q2]) rfl ?_;exact q3
 by_cases h4:B=4
 . subst h4;rw[if_neg (by decide),if_neg (by decide),if_neg (by decide),if_pos rfl] at z;have y:=Ul (w:=t) r.o.sh ok.s x.n;rw[<-z.o] at y;have L:Hid (∀e j,EH (fun k=>S k∧k<w.heap.size) t p g gs d e j->∃(ao uo:ak) (jR an gP un:Nat),e=Y (.agg #[I J (d.2.code:Int),Z ao an jR,Z uo un gP])∧_):=fun e j f=>by
    obtain⟨⟨ao,uo,jR,an,gP,un,he,han,hun,hI1,hI2,C,hA,hAs,hAu⟩,hat,T⟩:=f;exact⟨ao,uo,jR,an,gP,un,he,(r.o.into (O':=G7 p g gs d.1.c d.1.tr) hA hAs T).tells (eY _ _) (i:=1) rfl (b:=w.heap.size+1) rfl d.2 (ci:=(d.2.code:Int)) rfl (ao:=ao) (jR:=jR) (an:=an) (uo:=uo) (gP:=gP) (un:=un) han hun hI1 hI2 (fun q a e=>by obtain⟨h1,h2⟩:=hAu q a e;have:=r.o.sz;exact⟨by omega,h2⟩)⟩
   go_wp2_with fail
   refine y.mono ?_;intro e j f;obtain⟨ao,uo,jR,an,gP,un,rfl,⟨z0,z1,z2,f0,f1,f2⟩,W⟩:=L.o e j f;clear f L y;generalize d.2.code=D at *;go_wp2;generalize (((j.setCell ⟨w.heap.size+1,0,U⟩ _).setCell ⟨w.heap.size+1,1,U⟩ _).setCell ⟨w.heap.size+1,2,U⟩ _)=wf at *;obtain⟨q0,q1,q2,q3⟩:=W.o;refine fI (v:=.agg #[I J (D:Int),Z ao an jR,Z uo un gP]) (by simp[results,results27,go_sem,q0,q1,q2]) rfl ?_;exact q3
 by_cases h5:B=5
 . subst h5;rw[if_neg (by decide),if_neg (by decide),if_neg (by decide),if_neg (by decide),if_pos rfl] at z;have H:=r.o.stay sZ (gy t.heap.size _);have La:=gI.crash (w:=t.drew) H.sh ok.s x.n;have L:Hid (∀j,xJ (fun k=>S k∧k<w.heap.size) t.drew p g gs ⟨Sr.crash P.s x.n,P.c,P.tr⟩ j->∃C,iL (G7 p g gs P.c P.tr) S w 0 [K #[I J 5,I J x.conn,I J x.n,Z bo nb fU] 73 (0,0),z3] (Sr.crash P.s x.n) C j):=fun j f=>⟨_,H.did (O:=G7 p g gs P.c P.tr) f.at_ f.turns⟩;clear H;go_upto_region 12 with fail
   go_cut [] (fun wd=>∃C,iL (G7 p g gs P.c P.tr) S w 0 [K #[I J 5,I J x.conn,I J x.n,Z bo nb fU] 73 (0,0),z3] (Sr.crash P.s x.n) C wd)
   case first =>
    go_region_law (first | (go_simp;go_at_call 61;refine La.mono ?_;rintro e j ⟨rfl,f⟩;have HD:=H9 (L.o j f);clear f))
    all_goals
     go_wp2;go_meet;exact HD.o
   case rest =>
    obtain⟨C,T⟩:=hcut;have HRe:=gI.reset (w:=wc) T.sh;obtain⟨y0,y1⟩:=gI.cells T.sh;have HT:=H9 T;clear T c0 c1 k0 k1 k2 k3;go_wp2_with fail
    refine HRe.mono ?_;rintro e w4 ⟨rfl,f⟩;obtain⟨⟨z0,z1,z2,f0,f1,f2⟩,W⟩:=(HT.o.into (O':=G7 p g gs (fun _=>Gt.wL) P.tr) f.at_ (fun _ e=>e) f.turns).tells (eY _ _) (i:=1) rfl (b:=w.heap.size+1) rfl ⟨0,[],[]⟩ (ci:=0) rfl (ao:=U) (jR:=0) (an:=0) (uo:=U) (gP:=0) (un:=0) rfl rfl (gN.nil _) (gN.nil _) (fun q=>absurd rfl q);clear f y0 y1;go_wp2;generalize (((w4.setCell ⟨w.heap.size+1,0,U⟩ _).setCell ⟨w.heap.size+1,1,U⟩ _).setCell ⟨w.heap.size+1,2,U⟩ _)=wf at *;obtain⟨q0,q1,q2,q3⟩:=W.o;refine fI (v:=.agg #[I J 0,Z U 0 0,Z U 0 0]) (by simp[results,results27,go_sem,q0,q1,q2]) rfl ?_;rw[z.o];exact q3
 . rw[if_neg h1,if_neg h2,if_neg h3,if_neg h4,if_neg h5] at z;have t1:(B==1)=F:=aR.2 h1;have t2:(B==2)=F:=aR.2 h2;have t3:(B==3)=F:=aR.2 h3;have t4:(B==4)=F:=aR.2 h4;have t5:(B==5)=F:=aR.2 h5;obtain⟨⟨z0,z1,z2,f0,f1,f2⟩,W⟩:=r.o.tells (eY _ _) (i:=1) rfl (b:=w.heap.size+1) rfl ⟨11,[],[]⟩ (ci:=11) rfl (ao:=U) (uo:=U) (jR:=0) (gP:=0) (an:=0) (un:=0) rfl rfl (gN.nil _) (gN.nil _) (fun q=>absurd rfl q);go_wp2;generalize (((t.setCell ⟨w.heap.size+1,0,U⟩ _).setCell ⟨w.heap.size+1,1,U⟩ _).setCell ⟨w.heap.size+1,2,U⟩ _)=wf at *;obtain⟨q0,q1,q2,q3⟩:=W.o;refine fI (v:=.agg #[I J 11,Z U 0 0,Z U 0 0]) (by simp[results,results27,go_sem,q0,q1,q2]) rfl ?_;rw[z.o];exact q3
end
theorem gI.laid {w:X}{b:Nat->Prop}{g gs:Nat}(h:jf w b g gs Sr.new (fun _=>Gt.wL)):gI (w.alloc (K #[Q (M ⟨g,0,U⟩),Z U 0 0] 78)) (fun k=>(b k∧k<w.heap.size)∨k=w.heap.size) w.heap.size g gs Pt.new:=by
 have j:=(eY _ w).alloc (aM _) (K #[Q (M ⟨g,0,U⟩),Z U 0 0] 78);classical
 refine⟨fun k=>if k=w.heap.size then .row else if b k∧k<w.heap.size then .gate else .out,U,0,fun d=>?_,fun k c=>?_⟩
 . cases d with
   | row=>exact⟨eX w _,if_pos rfl⟩
   | gate=>exact jf.mono ((h.mono (S':=fun k=>b k∧k<w.heap.size) (fun k c e=>⟨e,c⟩)).stay j) (fun k _ e=>by
    show(if k=w.heap.size then XT.row else if b k∧k<w.heap.size then .gate else .out)=.gate;rw[if_neg (by have:=e.2;omega),if_pos e])
   | tr=>exact⟨gH.nil _ _ _ _,fun a e=>by cases e⟩
   | out=>trivial
 . simp only at c;by_cases f:k=w.heap.size
   . exact R f
   . rw[if_neg f] at c;by_cases i:b k∧k<w.heap.size
     . exact A i
     . rw[if_neg i] at c;exact absurd rfl c
theorem Hg (w:X):
 Calls prog 26 #[] w fun e w'=>∃p g gs,e=Y (Q (M ⟨p,0,U⟩))∧gI w' (fun k=>w.heap.size<=k∧k<w'.heap.size) p g gs Pt.new∧Below w.heap.size w w':=by
 go_enter func26,ntmps26;go_wp2_with fail
 refine(Tf w).mono ?_;rintro e f ⟨gs,rfl,j,l⟩;have a:=H9 l;go_wp2_with fail
 refine(XY j).mono ?_;rintro e i ⟨rfl,b,m⟩;have s:=a.o.size;have u:=m.size;have c:=a.o.trans (m.below (B:=w.heap.size) (fun k e=>e) s);have q:=H9 (gI.laid b);have n:=H9 (then_ c ((eY _ i).alloc (aM _) (K #[Q (M ⟨f.heap.size,0,U⟩),Z U 0 0] 78)));have d:Hid (gI (i.alloc (K #[Q (M ⟨f.heap.size,0,U⟩),Z U 0 0] 78)) (fun k=>w.heap.size<=k∧k<(i.alloc (K #[Q (M ⟨f.heap.size,0,U⟩),Z U 0 0] 78)).heap.size) i.heap.size f.heap.size gs Pt.new):=q.o.mono (fun k t e=>⟨by
  rcases e with e | e
  . rcases e.1 with r | r
    . exact r
    . omega
  . omega,t⟩)
 clear b m c q;go_wp2;go_ret;exact⟨_,_,gs,rfl,d.o,n.o⟩
structure Yg (l:List Pt.aao):Prop where
 few:l.length<=100
 sum:Pt.iO l<=12000
def aaZ (w:X)(l:List Pt.aao)(e:Ending)(w':X):Prop:=∃b:Bool,e=Y (.bool b)∧(b=F->Yg l)∧w'=w
theorem FE (l:List Pt.aao)(ao:ak)(cap n:Nat)(w:X)(d:rO w ao cap l)(t:l.length=n)(j:∀q∈l,q.b.length<=140737488355328)(G:n<=140737488355328):
 Calls prog 24 #[Z ao n cap] w fun e w'=>aaZ w l e w':=by
 subst t;have H:=H9 d;have u:=H9 j
 have m:=d.cap_;clear d j;go_enter func24,ntmps24;go_wp2;go_loopw [3,4] (fun x f wr=>∃(k:Nat) (v:Int),k<=l.length∧f=I J k∧x=I J v∧(k<=100->v=(Pt.iO (l.take k):Int)∧Pt.iO (l.take k)<=k*140737488355328)∧wr=w) (fun _ f _=>l.length-(intOf f).toNat)
 case atStart=>exact⟨0,0,aA _,rfl,rfl,fun _=>by simp[Pt.iO],rfl⟩
 case round =>
  obtain⟨k,v,L,rfl,rfl,a,y⟩:=hrel;subst y;by_cases c:k<l.length
  . have r:(k:Int)<l.length:=by omega
    obtain⟨b,o,N,rfl,s⟩:=H.o.at_ k c;have z:=u.o l[k] (aC c);have S:=Pt.Im l k c;have T:=s.c3;generalize l[k]=p at *;clear s;generalize p.b.length=nb at *;have g:k+1<=100->wrap64 (v+(nb:Int))=(Pt.iO (l.take (k+1)):Int)∧Pt.iO (l.take (k+1))<=(k+1)*140737488355328:=fun h=>by
     obtain⟨B,W⟩:=a (by omega);rw[B,RD (by omega) (by omega)];omega
    go_wp2;go_roundw
    case rel=>exact⟨k+1,_,by omega,by go_num,rfl,g,by first | rfl | trivial⟩
    case measure=>simp[intOf];omega
  . obtain rfl:k=l.length:=by omega
    have i:l.take l.length=l:=bN;rw[i] at a;by_cases h1:100<l.length
    . have C:decide ((l.length:Int) > 100)=true:=aI (by omega);go_wp2;go_ret;exact⟨true,rfl,(fun h=>by cases h),rfl⟩
    . have C:decide ((l.length:Int) > 100)=F:=aJ (by omega);obtain⟨rfl,_⟩:=a (by omega);by_cases h2:12000<Pt.iO l
      . have D:decide ((Pt.iO l:Int) > 12000)=true:=aI (by omega);go_wp2;go_ret;exact⟨true,rfl,(fun h=>by cases h),rfl⟩
      . have D:decide ((Pt.iO l:Int) > 12000)=F:=aJ (by omega);go_wp2;go_ret;exact⟨F,rfl,fun _=>⟨by omega,by omega⟩,rfl⟩
end Go.Proofs.YthhklgjjnaeaoaaGreatDoor