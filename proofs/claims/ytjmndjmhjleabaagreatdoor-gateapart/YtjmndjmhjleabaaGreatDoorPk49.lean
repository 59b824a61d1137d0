/- Small texts, one behind the other: GaJ, GaK, GaL, GaM, GaN, GaO, GaP. -/
import Derived.Test.YtjmndjmhjleabaaGreatDoorPk47
import Derived.Test.YtjmndjmhjleabaaGreatDoorPk44
open Go.Value renaming int->I,string->V,slice->Z,pointer->Q
open Go.IntKind renaming i64->J
open Go.Obj renaming cells->K
open Go.Ending renaming returned->Y
open Option renaming none->U,some->M
open Or renaming inl->A,inr->R
open Go renaming World->X
set_option maxHeartbeats 3200000
set_option maxRecDepth 100000
open Go.Proofs.Tryz
namespace Go.Proofs.YtjmndjmhjleabaaGreatDoor
open Go.RowKit
structure lC (w0:X)(κ:Nat->Ei)(g gs:Nat)(s:Sr.Sh)(v:Nat->List Value)(c:Nat->Gt.Cn)(x:Nat->R7)(z:Nat->Ob)(o:Ob)(w:X):Prop where
 held:Held (FX g gs s v 4 c x z o) κ w
 pow:ny w0
 vM:Below w0.heap.size w0 w
 far:∀i,κ i≠.out->w0.heap.size<=i
section
variable {w0 w w':X} {κ:Nat->Ei} {g gs:Nat} {s s':Sr.Sh} {v v':Nat->List Value} {c c':Nat->Gt.Cn} {x x':Nat->R7} {z:Nat->Ob} {o:Ob}
theorem PE {n:Nat}{d:Ei}(e:∀i,κ i≠.out->w0.heap.size<=i)(f:w0.heap.size<=n):∀i,jc κ n d i≠.out->w0.heap.size<=i:=fun i a=>by
 rcases aT i n with b | b
 . rw[iZ b] at a;exact e i a
 . omega
theorem lC.act (a:∀k,lN (z k))(b:lN o)(h:lC w0 κ g gs s v c x z o w){T N:Nat->Prop}(d:Ei)(hd:d≠.out)(f:Turns T w w')(i:∀k,T k->κ k=d)(j:FX g gs s' v' 4 c' x' z o d w' N)(l:∀k,N k->κ k=d∨w.heap.size<=k)(m:∀e,e≠d->FX g gs s' v' 4 c' x' z o e=FX g gs s v 4 c x z o e):lC w0 (jc κ w.heap.size d) g gs s' v' c' x' z o w' :=
 ⟨h.held.act (oq a b) f i (X':=FX g gs s' v' 4 c' x' z o) (oq a b d) j l m,h.pow,h.vM.trans (f.below (fun k e=>h.far k (by rw[i k e];exact hd)) h.vM.size),PE h.far h.vM.size⟩
theorem lC.stay (b:∀k,lN (z k))(d:lN o)(h:lC w0 κ g gs s v c x z o w)(a:Below w.heap.size w w'):lC w0 κ g gs s v c x z o w':=⟨h.held.stay (oq b d) a,h.pow,then_ h.vM a,h.far⟩
theorem lC.trim (a:∀k,lN (z k))(b:lN o)(h:lC w0 κ g gs s v c x z o w):lC w0 (jc κ w.heap.size .out) g gs s v c x z o w:=by
 refine⟨fun d=>?_,h.pow,h.vM,PE h.far h.vM.size⟩;exact(oq a b d).mono (h.held d) (fun k f e=>(iZ f).trans e)
theorem lC.row (a:∀k,lN (z k))(b:lN o)(h:lC w0 κ g gs s v c x z o w)(f:kQ w' g gs v')(j:Turns (fun i=>i=g) w w'):lC w0 (jc κ w.heap.size .row) g gs s v' c x z o w' :=
 h.act a b .row (by intro h;cases h) j (fun k e=>by rw[e];exact(h.held .row).2) (N:=fun k=>k=g) ⟨f,rfl⟩ (fun k e=>A (by rw[e];exact(h.held .row).2)) (fun d l=>by cases d <;> first | rfl | exact absurd rfl l)
theorem lC.jR (a:∀k,lN (z k))(b:lN o)(h:lC w0 κ g gs s v c x z o w)(f:iH w' (gM (fun k=>κ k=.jR) w) gs s')(i:Turns (fun k=>κ k=.jR) w w'):lC w0 (jc κ w.heap.size .jR) g gs s' v c x z o w' :=
 h.act a b .jR (by intro h;cases h) i (fun _ e=>e) f (fun _ e=>e) (fun d j=>by cases d <;> first | rfl | exact absurd rfl j)
theorem lC.gar (h:lC w0 κ g gs s v c x z o w):kQ w g gs v:=(h.held .row).1
theorem lC.head (h:lC w0 κ g gs s v c x z o w)(k:Nat)(hd:Rq.Hd)(fo:aj)(gL:Nat)(f:nD w (fun i=>κ i=.fl k) fo gL hd.fields.length (gT (Rq.nu hd.fields))):lC w0 κ g gs s v (upd c k { c k with hd:=hd }) (upd x k { x k with fo:=fo,gL:=gL }) z o w:=by
 refine⟨fun d=>?_,h.pow,h.vM,h.far⟩;have a:=h.held d;cases d with
 | row=>exact a
 | jR=>exact a
 | rq j =>
   intro b;by_cases e:j=k
   . subst e;rw[iO,iO];exact a b
   . rw[upd_ne _ _ e,upd_ne _ _ e];exact a b
 | fl j =>
   refine⟨fun b=>?_,a.2⟩;by_cases e:j=k
   . subst e;rw[iO,iO];exact f
   . rw[upd_ne _ _ e,upd_ne _ _ e];exact a.1 b
 | bd j =>
   intro b;by_cases e:j=k
   . subst e;rw[iO,iO];exact a b
   . rw[upd_ne _ _ e,upd_ne _ _ e];exact a b
 | ret=>exact a
 | out=>trivial
theorem lC.nobody (h:lC w0 κ g gs s v c x z o w)(k:Nat):lC w0 κ g gs s v (upd c k { c k with body:=[] }) (upd x k { x k with bo:=U,gJ:=0 }) z o w:=by
 refine⟨fun d=>?_,h.pow,h.vM,h.far⟩;have a:=h.held d;cases d with
 | row=>exact a
 | jR=>exact a
 | rq j =>
   intro b;by_cases e:j=k
   . subst e;rw[iO,iO];exact a b
   . rw[upd_ne _ _ e,upd_ne _ _ e];exact a b
 | fl j =>
   refine⟨fun b=>?_,a.2⟩;by_cases e:j=k
   . subst e;rw[iO,iO];exact a.1 b
   . rw[upd_ne _ _ e,upd_ne _ _ e];exact a.1 b
 | bd j =>
   intro b;by_cases e:j=k
   . subst e;rw[iO,iO];exact gY.nil _ _ _
   . rw[upd_ne _ _ e,upd_ne _ _ e];exact a b
 | ret=>exact a
 | out=>trivial
theorem lC.grow (q:∀k,lN (z k))(r:lN o)(h:lC w0 κ g gs s v c x z o w)(k:Nat)(t:k<4){n:aj}{p:Nat}{b:au}(u:gY w' (fun i=>jM (c k).body (x k).bo=M i∨w.heap.size<=i) 5 n p ((c k).body++b))(y:Turns (fun i=>jM (c k).body (x k).bo=M i) w w'):lC w0 (jc κ w.heap.size (.bd k)) g gs s v (upd c k { c k with body:=(c k).body++b }) (upd x k { x k with bo:=n,gJ:=p }) z o w':=by
 have f:∀i,jM (c k).body (x k).bo=M i->κ i=.bd k:=fun i e=>by
  unfold jM at e;split at e
  . cases e
  . rename_i l;rcases h.held (.bd k) t with ⟨_,_,B⟩ | ⟨C,_⟩
    . cases m:(x k).bo with
      | none=>rw[m] at e;cases e
      | some a=>rw[m] at e;injection e with e;rw[<-e];exact B a m
    . exact absurd C l
 refine h.act q r (.bd k) (by intro h;cases h) y f (N:=fun i=>jM (c k).body (x k).bo=M i∨w.heap.size<=i) ?_ (fun i e=>?_) (fun d D=>?_)
 . intro _;rw[iO,iO];exact u
 . rcases e with e | e
   . exact A (f i e)
   . exact R e
 . cases d with
   | row=>rfl
   | jR=>rfl
   | rq j =>
     by_cases e:j=k
     . subst e;simp only[FX,iO]
     . simp only[FX];rw[upd_ne _ _ e,upd_ne _ _ e]
   | fl j =>
     by_cases e:j=k
     . subst e;simp only[FX,iO]
     . simp only[FX];rw[upd_ne _ _ e,upd_ne _ _ e]
   | bd j =>
     have e:j≠k:=fun e=>D (by rw[e]);simp only[FX];rw[upd_ne _ _ e,upd_ne _ _ e]
   | ret=>rfl
   | out=>rfl
end
theorem kQ.aiQ {w:X}{g gs:Nat}{v:Nat->List Value}(h:kQ w g gs v){k:Nat}(a:k<4){l n a2 p q r m:Value}(s:v k=[l,n,a2,p,q,r,m]){o:Nat}(t:1+k*7=o)(b c d e f:Value):
 kQ (((((w.setCell ⟨g,o+1,U⟩ b).setCell ⟨g,o+2,U⟩ c).setCell ⟨g,o+3,U⟩ d).setCell ⟨g,o+4,U⟩ e).setCell ⟨g,o+5,U⟩ f) g gs (upd v k [l,b,c,d,e,f,m])∧Turns (fun i=>i=g) w (((((w.setCell ⟨g,o+1,U⟩ b).setCell ⟨g,o+2,U⟩ c).setCell ⟨g,o+3,U⟩ d).setCell ⟨g,o+4,U⟩ e).setCell ⟨g,o+5,U⟩ f):=by
 subst t;refine⟨?_,gZ g [b,c,d,e,f] (1+k*7+1) w⟩;have:=((((h.set a (j:=1) (by decide) b).set a (j:=2) (by decide) c).set a (j:=3) (by decide) d).set a (j:=4) (by decide) e).set a (j:=5) (by decide) f;simp only[qG,iO,s] at this;exact this
def Ext {C:Type}(κ J5:Nat->C)(n:Nat):Prop:=∀i,i<n->J5 i=κ i
theorem Ext.jc {C:Type}{κ a:Nat->C}{n m:Nat}(h:Ext κ a n)(c:n<=m)(d:C):Ext κ (jc a m d) n:=fun i b=>by rw[iZ (by omega)];exact h i b
theorem Ext.refl {C:Type}(κ:Nat->C)(n:Nat):Ext κ κ n:=fun _ _=>rfl
structure yF (w0:X)(κ:Nat->Ei)(g gs:Nat)(c:Nat->Gt.Cn)(z:Nat->Ob)(o:Ob)(k:Nat)(w:X)(G:Gt.Gs)(e:Ending)(w':X):Prop where
 ret:∃(ao:aj) (cap n:Nat),e=Y (Z ao n cap)∧n=G.out.length∧iG w' ao cap G.out
 at_:∃J5 x',lC w0 J5 g gs G.s (Eh (upd c k ⟨(c k).rq,G.hd,G.body⟩) x') (upd c k ⟨(c k).rq,G.hd,G.body⟩) x' z o w'∧Ext κ J5 w.heap.size
 turns:Turns (fun i=>κ i=.row∨κ i=.jR∨κ i=.bd k) w w'
section
variable {w0 w:X} {κ:Nat->Ei} {g gs:Nat} {s:Sr.Sh} {c:Nat->Gt.Cn} {x:Nat->R7} {z:Nat->Ob} {o:Ob} {k:Nat}
theorem afk {hd:Rq.Hd}(h:Rq.nG hd){fo:aj}{gL:Nat}(a:jm w fo gL hd.fields.length (gT (Rq.nu hd.fields))):pW w (Gt.nu hd.fields) fo gL hd.fields.length :=
 ⟨a, by rw[show Gt.nu hd.fields = Rq.nu hd.fields from rfl]; exact Rq.kU _, by have := h.many; omega, fun p b => by
  obtain⟨f,d,rfl⟩:=aM.1 b;have:=h.fields f d;refine⟨?_,?_⟩
  . show f.1.toArray.size<=_;rw[bL];omega
  . show f.2.toArray.size<=_;rw[bL];omega⟩
theorem Uo (B:∀k,lN (z k))(C:lN o)(h:lC w0 κ g gs s (Eh c x) c x z o w)(d:k<4)(hd:Rq.Hd){fo bo p:aj}{gL nf nb gJ r t:Nat}(u:hd.fields.length=nf)(D:nD w (fun i=>κ i=.fl k) fo gL nf (gT (Rq.nu hd.fields))):
 Calls prog 35 #[Q (M ⟨g,0,U⟩),Q (M ⟨g,1+k*7,U⟩),.agg #[I J 1,V ⟨hd.method.toArray⟩,V ⟨hd.target.toArray⟩,I J (hd.minor:Int),Z fo nf gL,I J hd.length,Z bo nb gJ,V ⟨#[]⟩,V ⟨#[]⟩,V ⟨#[]⟩,Z p r t,I J 0]] w fun e w'=>yF w0 κ g gs c z o k w ⟨s,hd,(c k).body,[]⟩ e w':=by
 have f:=(fI _ w).alloc (aL _) (K #[I J 1,V ⟨hd.method.toArray⟩,V ⟨hd.target.toArray⟩,I J (hd.minor:Int),Z fo nf gL,I J hd.length,Z bo nb gJ,V ⟨#[]⟩,V ⟨#[]⟩,V ⟨#[]⟩,Z p r t,I J 0] 72);have v:=h.stay B C f;have a:=v.gar;have b:Eh c x k=[Q (M ⟨(x k).gp,0,U⟩),V ⟨(c k).hd.method.toArray⟩,V ⟨(c k).hd.target.toArray⟩,I J ((c k).hd.minor:Int),Z (x k).fo (c k).hd.fields.length (x k).gL,I J (c k).hd.length,Z (x k).bo (c k).body.length (x k).gJ]:=rfl;have N:=a.at_ d (j:=1) (by decide) (by rw[b];rfl);have O:=a.at_ d (j:=2) (by decide) (by rw[b];rfl);have P:=a.at_ d (j:=3) (by decide) (by rw[b];rfl);have T:=a.at_ d (j:=4) (by decide) (by rw[b];rfl);have W:=a.at_ d (j:=5) (by decide) (by rw[b];rfl);have f1:=a.fz (1+k*7+1);have f2:=a.fz (1+k*7+2);have f3:=a.fz (1+k*7+3);have f4:=a.fz (1+k*7+4);have f5:=a.fz (1+k*7+5)
 obtain⟨q,y⟩:∃q,1+k*7=q:=⟨_,rfl⟩;have G:=a.aiQ d b y (V ⟨hd.method.toArray⟩) (V ⟨hd.target.toArray⟩) (I J (hd.minor:Int)) (Z fo nf gL) (I J hd.length);rw[y] at N O P T W f1 f2 f3 f4 f5 ⊢;have l:=D.turns (Turns.of_below (S:=fun _=>False) f) (fun _ _ e=>e);have m:Hid (∀n,kQ n g gs (upd (Eh c x) k [Q (M ⟨(x k).gp,0,U⟩),V ⟨hd.method.toArray⟩,V ⟨hd.target.toArray⟩,I J (hd.minor:Int),Z fo nf gL,I J hd.length,Z (x k).bo (c k).body.length (x k).gJ])->Turns (fun i=>i=g) (w.alloc (K #[I J 1,V ⟨hd.method.toArray⟩,V ⟨hd.target.toArray⟩,I J (hd.minor:Int),Z fo nf gL,I J hd.length,Z bo nb gJ,V ⟨#[]⟩,V ⟨#[]⟩,V ⟨#[]⟩,Z p r t,I J 0] 72)) n->yF w0 κ g gs c z o k w ⟨s,hd,(c k).body,[]⟩ (Y (Z U 0 0)) n):=fun n hr H=>by
  have h2:=v.head k hd fo gL (by rw[u];exact l);have h3:=h2.row B C hr H;refine⟨⟨U,0,0,rfl,rfl,iG.nil _⟩,⟨_,upd x k { x k with fo:=fo,gL:=gL },?_,(Ext.refl κ _).jc f.size .row⟩,(Turns.of_below f).trans H (fun i e _=>A (by rw[e];exact(h.held .row).2))⟩;rw[C8];have:Zi ⟨(c k).rq,hd,(c k).body⟩ { x k with fo:=fo,gL:=gL }=[Q (M ⟨(x k).gp,0,U⟩),V ⟨hd.method.toArray⟩,V ⟨hd.target.toArray⟩,I J (hd.minor:Int),Z fo nf gL,I J hd.length,Z (x k).bo (c k).body.length (x k).gJ]:=by unfold Zi;rw[u]
  rw[this];exact h3
 have L:=H9 G;clear h v a b D l G f y u;go_enter func35,ntmps35;go_wp2;go_ret;exact m.o _ L.o.1 L.o.2
theorem Uq (P:∀k,lN (z k))(S:lN o)(h:lC w0 κ g gs s (Eh c x) c x z o w)(p:k<4)(b:au){fo bo r:aj}{gL nf nb gJ t u:Nat}(hn:b.length=nb)(hB:iG w bo gJ b)(hl:(c k).body.length+nb<=100000):
 Calls prog 35 #[Q (M ⟨g,0,U⟩),Q (M ⟨g,1+k*7,U⟩),.agg #[I J 2,V ⟨#[]⟩,V ⟨#[]⟩,I J 0,Z fo nf gL,I J 0,Z bo nb gJ,V ⟨#[]⟩,V ⟨#[]⟩,V ⟨#[]⟩,Z r t u,I J 0]] w fun e w'=>yF w0 κ g gs c z o k w ⟨s,(c k).hd,(c k).body++b,[]⟩ e w':=by
 have T:=(fI _ w).alloc (aL _) (K #[I J 2,V ⟨#[]⟩,V ⟨#[]⟩,I J 0,Z fo nf gL,I J 0,Z bo nb gJ,V ⟨#[]⟩,V ⟨#[]⟩,V ⟨#[]⟩,Z r t u,I J 0] 72);have W:=(h.stay P S T).stay P S (gP _ _);have hg:=W.gar;have hv:Eh c x k=[Q (M ⟨(x k).gp,0,U⟩),V ⟨(c k).hd.method.toArray⟩,V ⟨(c k).hd.target.toArray⟩,I J ((c k).hd.minor:Int),Z (x k).fo (c k).hd.fields.length (x k).gL,I J (c k).hd.length,Z (x k).bo (c k).body.length (x k).gJ]:=rfl;have c6:=hg.at_ p (j:=6) (by decide) (by rw[hv];rfl);have HGr:=H9 (W.held (.bd k) p);have HB:=H9 ((hB.stay T).stay (gP _ _));obtain⟨j0,y,B,C,D⟩:=info_parts jN;have Hj:=H9 y;have MZ:=H9 B;have M0:=H9 C;have M4:=H9 D
 obtain⟨q,hq⟩:∃q,1+k*7=q:=⟨_,rfl⟩;have Ao:Hid (∀f l d,gY d (fun i=>jM (c k).body (x k).bo=M i∨(w.alloc (K #[I J 2,V ⟨#[]⟩,V ⟨#[]⟩,I J 0,Z fo nf gL,I J 0,Z bo nb gJ,V ⟨#[]⟩,V ⟨#[]⟩,V ⟨#[]⟩,Z r t u,I J 0] 72)).drew.heap.size<=i) 5 f l ((c k).body++b)->Turns (fun i=>jM (c k).body (x k).bo=M i) (w.alloc (K #[I J 2,V ⟨#[]⟩,V ⟨#[]⟩,I J 0,Z fo nf gL,I J 0,Z bo nb gJ,V ⟨#[]⟩,V ⟨#[]⟩,V ⟨#[]⟩,Z r t u,I J 0] 72)).drew d->(d.cell? ⟨g,q+6,U⟩=M (Z (x k).bo (c k).body.length (x k).gJ)∧d.frozen? ⟨g,q+6,U⟩=false)∧yF w0 κ g gs c z o k w ⟨s,(c k).hd,(c k).body++b,[]⟩ (Y (Z U 0 0)) (d.setCell ⟨g,q+6,U⟩ (Z f ((c k).body.length+nb) l))):=fun f l d Lu v=>by
  have h5:=W.grow P S k p Lu v;have m:=h5.gar;have hr:=m.set p (j:=6) (by decide) (Z f ((c k).body.length+nb) l);have n:Turns (fun i=>i=g) d (d.setCell ⟨g,1+k*7+6,U⟩ (Z f ((c k).body.length+nb) l)):=Turns.setCell _ _ _ _ rfl;have h6:=h5.row P S hr n;rw[hq] at h6 n;have G:=m.at_ p (j:=6) (by decide) (by rw[hv];rfl);have H:=m.fz (1+k*7+6);rw[hq] at G H;have hz5:=v.size;have hza:(w.alloc (K #[I J 2,V ⟨#[]⟩,V ⟨#[]⟩,I J 0,Z fo nf gL,I J 0,Z bo nb gJ,V ⟨#[]⟩,V ⟨#[]⟩,V ⟨#[]⟩,Z r t u,I J 0] 72)).drew.heap.size=w.heap.size+1:=by show(w.alloc _).heap.size=_;rw[fV]
  refine⟨⟨G,H⟩,⟨⟨U,0,0,rfl,rfl,iG.nil _⟩,⟨jc (jc κ (w.alloc (K #[I J 2,V ⟨#[]⟩,V ⟨#[]⟩,I J 0,Z fo nf gL,I J 0,Z bo nb gJ,V ⟨#[]⟩,V ⟨#[]⟩,V ⟨#[]⟩,Z r t u,I J 0] 72)).drew.heap.size (.bd k)) d.heap.size .row,upd x k { x k with bo:=f,gJ:=l },?_,((Ext.refl κ _).jc (by omega) _).jc (by omega) _⟩,((Turns.of_below (then_ T (gP _ _))).trans v (fun i e _=>?_)).trans n (fun i e _=>A (by rw[e];exact(h.held .row).2))⟩⟩
  . rw[C8];have:Zi ⟨(c k).rq,(c k).hd,(c k).body++b⟩ { x k with bo:=f,gJ:=l }=(Eh c x k).set 6 (Z f ((c k).body.length+nb) l):=by unfold Zi Eh;rw[aV,hn];rfl
    rw[this];exact h6
  . have L:(c k).body≠[]:=fun e2=>by unfold jM at e;rw[if_pos e2] at e;cases e
    rcases h.held (.bd k) p with ⟨_,_,h3⟩ | ⟨h3,_⟩
    . unfold jM at e;rw[if_neg L] at e;cases rC:(x k).bo with
      | none=>rw[rC] at e;cases e
      | some a=>rw[rC] at e;injection e with e;rw[<-e];exact R (R (h3 a rC))
    . exact absurd h3 L
 rw[hq] at c6 ⊢;clear h W hg hv hB T hq y B C D;generalize N:(c k).body.length=nl at *;have HNl:=H9 N;clear N;have HHn:=H9 hn;clear hn;go_enter func35,ntmps35;go_upto_region 5 with fail
 go_region_law ((refine og (by rfl) (.tmp 24) (.tmp 26) 31 (by rfl) 5 j0 underlying31 Hj.o MZ.o M0.o M4.o (by rfl) (by rfl) HGr.o HNl.o HB.o HHn.o (by omega) ?_;intro bo5 O d Ez v;obtain⟨⟨d6,e6⟩,hm⟩:=Ao.o bo5 O d Ez v;have HM:=H9 hm;clear Ez v hm))
 all_goals
  go_wp2;go_ret;exact HM.o
theorem XY (P:∀k,lN (z k))(T:lN o)(h:lC w0 κ g gs s (Eh c x) c x z o w)(hk:k<4)(ok:Sr.Ok s)(hc:Gt.yg (c k)){fo bo u:aj}{gL nf nb gJ v y:Nat}(hl:(c k).body.length<=20000):
 Calls prog 35 #[Q (M ⟨g,0,U⟩),Q (M ⟨g,1+k*7,U⟩),.agg #[I J 3,V ⟨#[]⟩,V ⟨#[]⟩,I J 0,Z fo nf gL,I J 0,Z bo nb gJ,V ⟨#[]⟩,V ⟨#[]⟩,V ⟨#[]⟩,Z u v y,I J 0]] w fun e w'=>yF w0 κ g gs c z o k w (Gt.ev Tu.iF ⟨s,(c k).hd,(c k).body,[]⟩ .fin) e w':=by
 have hb:=(fI _ w).alloc (aL _) (K #[I J 3,V ⟨#[]⟩,V ⟨#[]⟩,I J 0,Z fo nf gL,I J 0,Z bo nb gJ,V ⟨#[]⟩,V ⟨#[]⟩,V ⟨#[]⟩,Z u v y,I J 0] 72);have f:(w.alloc (K #[I J 3,V ⟨#[]⟩,V ⟨#[]⟩,I J 0,Z fo nf gL,I J 0,Z bo nb gJ,V ⟨#[]⟩,V ⟨#[]⟩,V ⟨#[]⟩,Z u v y,I J 0] 72)).heap.size=w.heap.size+1:=fV ..;have h0:=h.trim P T;have h1:=h0.stay P T hb;have Db:=H9 (A9 h1.gar hk (rfl:Eh c x k=[Q (M ⟨(x k).gp,0,U⟩),V ⟨(c k).hd.method.toArray⟩,V ⟨(c k).hd.target.toArray⟩,I J ((c k).hd.minor:Int),Z (x k).fo (c k).hd.fields.length (x k).gL,I J (c k).hd.length,Z (x k).bo (c k).body.length (x k).gJ]));have H0:=H9 h;have H1:=H9 h1;have j:=H9 P;have sQ:=H9 T;have B:=H9 hc;have qx:=H9 ok
 have HZa:=H9 f;have HBa:=H9 hb;obtain⟨a,hR⟩:∃a,a=Gt.over Tu.iF s (c k).hd (c k).body:=⟨_,rfl⟩;have HG:Hid (Gt.ev Tu.iF ⟨s,(c k).hd,(c k).body,[]⟩ .fin=⟨a.1,Rq.hd0,[],Gt.textOf a.2⟩):=by rw[hR];rfl
 have l:=H9 hR;rw[HG.o];clear h h0 h1 f hb hR HG P T hc ok;go_enter func35,ntmps35;go_wp2_with fail
 refine Db.o.mono ?_;rintro e W ⟨rfl,C,jU⟩;have b:=H1.o.row j.o sQ.o C jU;have hz2:=jU.size;have D:∀i,i=g->jc κ w.heap.size .out i=.row:=fun i e=>by rw[e];exact(H1.o.held .row).2
 have G:jm W (x k).fo (x k).gL (c k).hd.fields.length (gT (Rq.nu (c k).hd.fields)):=((b.held (.fl k)).1 hk).is;have H:iG W (x k).bo (x k).gJ (c k).body:=gY.wZ (b.held (.bd k) hk);have Bf:=H9 (Pg (g:=g) (w:=W) (m:=⟨(c k).hd.method.toArray⟩) (t:=⟨(c k).hd.target.toArray⟩) (mi:=((c k).hd.minor:Int)) (ln:=(c k).hd.length) ⟨b.pow,b.vM,fun i e=>b.far i (by rw[e];intro h;cases h)⟩ (b.held .jR) qx.o b.gar.store (afk B.o.hd G) (c k).body rfl H hl (by show(c k).hd.target.toArray.size<=_;rw[bL];have:=B.o.hd.target;omega));have H2:=H9 b;have HT2:=H9 jU
 clear C jU b G H Db;go_wp2_with fail
 refine Bf.o.mono ?_;rintro e w3 ⟨⟨fo3,afl,nf3,bo3,afm,nb3,rfl,n,Yx,p,q,_,_⟩,ku,pE⟩;rw[show Gt.answer Tu.iF s ⟨(c k).hd.method.toArray⟩ ⟨(c k).hd.target.toArray⟩ (Gt.nu (c k).hd.fields) (c k).body=a from l.o.symm] at n Yx p q ku;rw[show Gt.answer Tu.iF s ⟨(c k).hd.method.toArray⟩ ⟨(c k).hd.target.toArray⟩ (Gt.nu (c k).hd.fields) (c k).body=a from l.o.symm];have h3:=H2.o.jR j.o sQ.o ku pE;have hz3:=pE.size;have L:Gt.Small a.2:=by rw[l.o];exact Gt.zP qx.o _ _ _ _
 have uw:=H9 (Ip w3 a.2 fo3 bo3 nf3 afl nb3 afm L n Yx p q (h3.pow.stay h3.vM));have H3:=H9 h3;have HT3:=H9 pE
 clear n Yx p q ku pE h3 L Bf;go_wp2_with fail
 refine uw.o.mono ?_;rintro e w4 ⟨⟨xR,d,n4,rfl,J9,N⟩,r⟩;have h4:=H3.o.stay j.o sQ.o r;have h5:=(h4.head k Rq.hd0 U 0 (nD.nil _ _)).nobody k;rw[qG,qG,iO,iO] at h5;have O:Hid (yF w0 κ g gs c z o k w ⟨a.1,Rq.hd0,[],Gt.textOf a.2⟩ (Y (Z xR n4 d)) w4):=by
  have f:=HZa.o;refine⟨⟨xR,d,n4,rfl,J9,N⟩,⟨_,upd x k { gp:=(x k).gp,fo:=U,gL:=0,bo:=U,gJ:=0 },?_,(((Ext.refl κ w.heap.size).jc (aL _) .out).jc (m:=(w.alloc (K #[I J 3,V ⟨#[]⟩,V ⟨#[]⟩,I J 0,Z fo nf gL,I J 0,Z bo nb gJ,V ⟨#[]⟩,V ⟨#[]⟩,V ⟨#[]⟩,Z u v y,I J 0] 72)).heap.size) (by omega) .row).jc (m:=W.heap.size) (by omega) .jR⟩,?_⟩
  . rw[C8];exact h5
  . refine(((Turns.of_below HBa.o).trans HT2.o (fun i e hi=>A ?_)).trans HT3.o (fun i e hi=>R (A ?_))).trans (Turns.of_below (S:=fun _=>False) r) (fun _ e _=>e.elim)
    . have:=D i e;rw[iZ hi] at this;exact this
    . have e:jc (jc κ w.heap.size .out) (w.alloc (K #[I J 3,V ⟨#[]⟩,V ⟨#[]⟩,I J 0,Z fo nf gL,I J 0,Z bo nb gJ,V ⟨#[]⟩,V ⟨#[]⟩,V ⟨#[]⟩,Z u v y,I J 0] 72)).heap.size .row i=.jR:=e;rw[iZ (by omega),iZ hi] at e;exact e
 clear h4 h5 r N D J9;go_wp2;go_ret;exact O.o
theorem Ur (B:∀k,lN (z k))(C:lN o)(h:lC w0 κ g gs s (Eh c x) c x z o w)(hk:k<4)(a:Nat){fo bo n:aj}{gL nf nb gJ p q:Nat}:
 Calls prog 35 #[Q (M ⟨g,0,U⟩),Q (M ⟨g,1+k*7,U⟩),.agg #[I J 4,V ⟨#[]⟩,V ⟨#[]⟩,I J 0,Z fo nf gL,I J 0,Z bo nb gJ,V ⟨#[]⟩,V ⟨#[]⟩,V ⟨#[]⟩,Z n p q,I J (a:Int)]] w fun e w'=>yF w0 κ g gs c z o k w ⟨s,Rq.hd0,[],Gt.textOf (Gt.sJ a)⟩ e w':=by
 have G:=(fI _ w).alloc (aL _) (K #[I J 4,V ⟨#[]⟩,V ⟨#[]⟩,I J 0,Z fo nf gL,I J 0,Z bo nb gJ,V ⟨#[]⟩,V ⟨#[]⟩,V ⟨#[]⟩,Z n p q,I J (a:Int)] 72);have d:(w.alloc (K #[I J 4,V ⟨#[]⟩,V ⟨#[]⟩,I J 0,Z fo nf gL,I J 0,Z bo nb gJ,V ⟨#[]⟩,V ⟨#[]⟩,V ⟨#[]⟩,Z n p q,I J (a:Int)] 72)).heap.size=w.heap.size+1:=fV ..;have h0:=h.trim B C;have H:=h0.stay B C G;have Db:=H9 (A9 H.gar hk (rfl:Eh c x k=[Q (M ⟨(x k).gp,0,U⟩),V ⟨(c k).hd.method.toArray⟩,V ⟨(c k).hd.target.toArray⟩,I J ((c k).hd.minor:Int),Z (x k).fo (c k).hd.fields.length (x k).gL,I J (c k).hd.length,Z (x k).bo (c k).body.length (x k).gJ]));have L:w.heap.size≠g:=by have:=h.gar.lt;omega
 have H1:=H9 H;have f:=H9 B;have N:=H9 C
 have O:=H9 d;have P:=H9 G;have T:=H9 (fun W=>Ou a W);have nW:=H9 (fH w (K #[I J 4,V ⟨#[]⟩,V ⟨#[]⟩,I J 0,Z fo nf gL,I J 0,Z bo nb gJ,V ⟨#[]⟩,V ⟨#[]⟩,V ⟨#[]⟩,Z n p q,I J (a:Int)] 72));clear h h0 H d G B C;go_enter func35,ntmps35;go_wp2_with fail
 refine Db.o.mono ?_;rintro e w2 ⟨rfl,r,t⟩;have h2:=H1.o.row f.o N.o r t;have hz2:=t.size;have a11:w2.cell? ⟨w.heap.size,11,U⟩=M (I J (a:Int)):=fJ w2 _ 11 _ _ _ (t.row nW.o L);have u:∀i,i=g->jc κ w.heap.size .out i=.row:=fun i e=>by rw[e];exact(H1.o.held .row).2
 have H2:=H9 h2;have HT2:=H9 t
 clear r t h2 Db;go_wp2_with fail
 refine(T.o _).mono ?_;rintro e w3 ⟨rfl,j⟩;have D:=H2.o.stay f.o N.o j;have uw:=H9 (Ip w3 (Gt.sJ a) U U 0 0 0 0 (Gt.yw a) rfl (jm.nil _) rfl (iG.nil _) (D.pow.stay D.vM));have H3:=H9 D;have HB3:=H9 j
 clear D j;go_wp2_with fail
 refine uw.o.mono ?_;rintro e w4 ⟨⟨xR,b,n4,rfl,J9,v⟩,l⟩;have h4:=H3.o.stay f.o N.o l;have h5:=(h4.head k Rq.hd0 U 0 (nD.nil _ _)).nobody k;rw[qG,qG,iO,iO] at h5;have y:Hid (yF w0 κ g gs c z o k w ⟨s,Rq.hd0,[],Gt.textOf (Gt.sJ a)⟩ (Y (Z xR n4 b)) w4):=by
  have d:=O.o;refine⟨⟨xR,b,n4,rfl,J9,v⟩,⟨_,upd x k { gp:=(x k).gp,fo:=U,gL:=0,bo:=U,gJ:=0 },?_,((Ext.refl κ w.heap.size).jc (aL _) .out).jc (m:=(w.alloc (K #[I J 4,V ⟨#[]⟩,V ⟨#[]⟩,I J 0,Z fo nf gL,I J 0,Z bo nb gJ,V ⟨#[]⟩,V ⟨#[]⟩,V ⟨#[]⟩,Z n p q,I J (a:Int)] 72)).heap.size) (by omega) .row⟩,?_⟩
  . rw[C8];exact h5
  . refine((Turns.of_below P.o).trans HT2.o (fun i e hi=>A ?_)).trans (Turns.of_below (S:=fun _=>False) (then_ HB3.o l)) (fun _ e _=>e.elim);have:=u i e;rw[iZ hi] at this;exact this
 clear h4 h5 l v u J9;go_wp2;go_ret;exact y.o
end
def YA (ao:aj)(cap:Nat)(es:List iM):Ob:=fun w S=>nQ w S 72 ao cap es
theorem YA.law (ao:aj)(cap:Nat)(es:List iM):lN (YA ao cap es):=⟨fun h b a=>nQ.turns h b a,fun h a=>nQ.mono h a⟩
def GrO (ao:aj)(cap:Nat)(l:au):Ob:=fun w S=>gY w S 5 ao cap l
theorem GrO.law (ao:aj)(cap:Nat)(l:au):lN (GrO ao cap l):=⟨fun h b a=>gY.turns h b a,fun h a=>gY.mono h a⟩
def XZ (k:Nat)(b:Ob):Nat->Ob:=fun j w S=>j=k->b w S
theorem XZ.law {k:Nat}{b:Ob}(c:lN b):∀j,lN (XZ k b j):=fun _=>⟨fun h d a e=>c.turns (h e) d a,fun h a e=>c.mono (h e) a⟩
theorem nQ.lit {w:X}{S:Nat->Prop}{g:Nat}{ao:aj}{cap:Nat}{es:List iM}(h:nQ w S g ao cap es)(k:0<es.length):∃b o,ao=M ⟨b,o,U⟩∧∀j (d:j<es.length),∃s,(∀i u,(es[j].cells s)[i]? = M u->w.cell? ⟨b,o+j*12+i,U⟩=M u)∧xY w S es[j] s:=by
 obtain⟨f,rfl,l,_,m⟩:=h;have n:=l.nP;obtain⟨b,o,rfl,p⟩:=n.lit (by rw[mW];rw[aD] at k;omega);refine⟨b,o,rfl,fun j d=>?_⟩;have a:j<f.length:=by simpa using d
 refine⟨f[j].2,fun i u c=>?_,?_⟩
 . rw[aF] at c;have q:i<12:=(aP.1 c).1;rw[<-rA _ j a i q] at c;have:=p _ _ c;rw[bK];exact this
 . rw[aF];exact(m _ (aB a)).mono (fun _ _ e=>e.1)
section
variable {w0 w w':X} {κ:Nat->Ei} {g gs:Nat} {s:Sr.Sh} {v:Nat->List Value} {c:Nat->Gt.Cn} {x:Nat->R7} {z:Nat->Ob} {o o':Ob} {k:Nat}
theorem lC.answered (i:∀k,lN (z k))(j:lN o)(a:lN o')(h:lC w0 κ g gs s v c x z o w){T N:Nat->Prop}(b:Turns T w w')(f:∀k,T k->κ k=.ret)(l:o' w' N)(m:∀k,N k->κ k=.ret∨w.heap.size<=k):lC w0 (jc κ w.heap.size .ret) g gs s v c x z o' w' :=
 ⟨h.held.act (oq i j) b f (X':=FX g gs s v 4 c x z o') a l m (fun d n=>by cases d <;> first | rfl | exact absurd rfl n),h.pow,h.vM.trans (b.below (fun k e=>h.far k (by rw[f k e];intro h;cases h)) h.vM.size),PE h.far h.vM.size⟩
theorem ac0 (c:Nat->Gt.Cn)(x:Nat->R7)(k:Nat)(r:Rq.St):Eh (upd c k { c k with rq:=r }) x=Eh c x:=by
 funext i;unfold Eh upd;split
 . next h=>subst h;rfl
 . rfl
theorem lC.fed (h:lC w0 κ g gs s v c x noZ Lb w)(B:k<4){l:au}{e:Ending}(D:PD w (fun i=>κ i=.rq k) (x k).gp (c k).rq l e w'):∃ao cap n a,e=Y (Z ao n cap)∧n=(Rq.join (Rq.outs (c k).rq l)).length∧lC w0 a g gs s v (upd c k { c k with rq:=Rq.fold (c k).rq l }) x (XZ k (YA ao cap ((Rq.join (Rq.outs (c k).rq l)).map Rq.Ev.d))) Lb w'∧Turns (fun i=>κ i=.rq k) w w'∧∀i,i<w.heap.size->a i=κ i∨κ i≠.out:=by
 obtain⟨ao,cap,n,G,f,H,L,N,O,T,hS,m,q⟩:=D;obtain⟨a,r,b,h3⟩:=h.held.split (oq (fun _=>lN.nE) lN.nE) (p:=.rq k) (e:=.fl k) (by intro h;cases h) (X':=FX g gs s v 4 (upd c k { c k with rq:=Rq.fold (c k).rq l }) x (XZ k (YA ao cap ((Rq.join (Rq.outs (c k).rq l)).map Rq.Ev.d))) Lb) q (fun _ e=>e) (P:=G) (E:=f) (fun _=>by rw[iO];exact N) (oq (XZ.law (YA.law _ _ _)) lN.nE _) T hS m
  (fun S hX t u=>⟨fun B=>by rw[iO];exact(hX.1 B).mono (fun i _ e=>t i e),fun _=>O.all.mono (fun i _ e=>u i e)⟩)
  (fun d r b => by
   cases d with
   | row=>rfl
   | jR=>rfl
   | rq j =>
     have e:j≠k:=fun e=>r (by rw[e]);simp only[FX];rw[upd_ne _ _ e]
   | fl j =>
     have e:j≠k:=fun e=>b (by rw[e]);simp only[FX];rw[upd_ne _ _ e];funext W S;unfold XZ;simp[e]
   | bd j =>
     by_cases e:j=k
     . subst e;simp only[FX,iO]
     . simp only[FX];rw[upd_ne _ _ e]
   | ret=>rfl
   | out=>rfl)
 refine⟨ao,cap,n,a,H,L,⟨r,h.pow,h.vM.trans (q.below (fun i e=>h.far i (by rw[e];intro h;cases h)) h.vM.size),fun i y=>?_⟩,q,fun i y=>?_⟩
 . rcases aT i w.heap.size with C | C
   . rcases b i C with e | e
     . exact h.far i (by rw[<-e];exact y)
     . exact h.far i (by rw[e.1];intro h;cases h)
   . have:=h.vM.size;omega
 . rcases b i y with e | e
   . exact A e
   . exact R (by rw[e.1];intro h;cases h)
end
structure Q5 (S:Nat->Prop)(w:X)(g gs:Nat)(c:Nat->Gt.Cn)(k:Nat)(r:Sr.Sh×Gt.Cn×au)(code:Int)(e:Ending)(w':X):Prop where
 ret:∃(ao:aj) (cap n:Nat),e=Y (.tuple #[Z ao n cap,I J code])∧n=r.2.2.length∧iG w' ao cap r.2.2
 at_:jB w' (gM S w) g gs r.1 (upd c k r.2.1)
 turns:Turns S w w'
section
variable {w0 w:X} {S:Nat->Prop} {g gs:Nat} {s:Sr.Sh} {c:Nat->Gt.Cn}
theorem X0 {κ:Nat->Ei}{x:Nat->R7}{z:Nat->Ob}{o:Ob}{k:Nat}(a:∀k,lN (z k))(f:lN o)(h:lC w0 κ g gs s (Eh c x) c x z o w)(j:k<4)(ok:Sr.Ok s)(m:Gt.yg (c k))(ev:Rq.Ev)(es:EvS)(l:xY w (fun i=>κ i=.fl k) ev.d es)(p:(c k).body.length+ev.d.bytes.length<=20000):
 Calls prog 35 #[Q (M ⟨g,0,U⟩),Q (M ⟨g,1+k*7,U⟩),.agg #[I J ev.d.kind,V ev.d.method,V ev.d.target,I J ev.d.minor,Z es.fo ev.d.fields.length es.gL,I J ev.d.length,Z es.bo ev.d.bytes.length es.gJ,V ev.d.kV,V ev.d.kI,V ev.d.ptype,Z es.po ev.d.iq.length es.jy,I J ev.d.code]] w fun e w'=>yF w0 κ g gs c z o k w (Gt.ev Tu.iF ⟨s,(c k).hd,(c k).body,[]⟩ ev) e w':=by
 cases ev with
 | head hd=>exact Uo a f h j hd (Rq.kU _).symm l.fields
 | body b=>exact Uq a f h j b rfl l.bytes.is (by have:(Rq.Ev.body b).d.bytes.length=b.length:=rfl;omega)
 | fin=>exact XY a f h j ok m (by omega)
 | fail n=>exact Ur a f h j n
theorem Gt.X3 (s:Sr.Sh)(hd:Rq.Hd)(body out:au)(e:Rq.Ev):Gt.ev Tu.iF ⟨s,hd,body,out⟩ e={ Gt.ev Tu.iF ⟨s,hd,body,[]⟩ e with out:=out++(Gt.ev Tu.iF ⟨s,hd,body,[]⟩ e).out }:=by
 have:=Gt.VQ Tu.iF ⟨s,hd,body,[]⟩ out e;rw[show({ (⟨s,hd,body,[]⟩:Gt.Gs) with out:=out++[] }:Gt.Gs)=⟨s,hd,body,out⟩ from by rw[bV]] at this;exact this
structure MH (w0:X)(S:Nat->Prop)(w:X)(g gs:Nat)(c:Nat->Gt.Cn)(k:Nat)(ro:Rq.St)(eo:aj)(ec:Nat)(es:List Rq.Ev)(G:Gt.Gs)(ao:aj)(cap:Nat)(wr:X):Prop where
 at_:∃κ x,lC w0 κ g gs G.s (Eh (upd c k ⟨ro,G.hd,G.body⟩) x) (upd c k ⟨ro,G.hd,G.body⟩) x (XZ k (YA eo ec (es.map Rq.Ev.d))) (GrO ao cap G.out) wr∧∀i,κ i≠.out->gM S w i
 turns:Turns S w wr
 ok:Sr.Ok G.s
 hd:Rq.nG G.hd
theorem abl:∀{s:Sr.Sh},Sr.Ok s->∀m t l body,Sr.Ok (Tu.iF s m t l body).1:=fun h m t l b=>Tu.Qu h m t l b
theorem aae {κ:Nat->Ei}{k:Nat}{ro:Rq.St}{eo:aj}{ec:Nat}{es:List Rq.Ev}{G G':Gt.Gs}{ao:aj}{cap:Nat}{u w5:X}{e:Ending}(H:∀i,κ i≠.out->gM S w i)(L:Turns S w u)(p:yF w0 κ g gs (upd c k ⟨ro,G.hd,G.body⟩) (XZ k (YA eo ec (es.map Rq.Ev.d))) (GrO ao cap G.out) k u G' e w5)(ok:Sr.Ok G'.s)(v:Rq.nG G'.hd):
 ∃(q:aj) (b r:Nat) (B:Nat->Prop),e=Y (Z q r b)∧r=G'.out.length∧iG w5 q b G'.out∧gY w5 B 5 ao cap G.out∧∀x f t,gY t (fun i=>jM G.out ao=M i∨w5.heap.size<=i) 5 x f (G.out++G'.out)->Turns (fun i=>jM G.out ao=M i) w5 t->MH w0 S w g gs c k ro eo ec es { G' with out:=G.out++G'.out } x f t:=by
 obtain⟨q,b,r,P,y,T⟩:=p.ret;obtain⟨j,W,z,hE⟩:=p.at_;have hz5:=p.turns.size;have hzb:=L.size;rw[qG,iO] at z;have N:gY w5 (fun i=>j i=.ret) 5 ao cap G.out:=z.held .ret;have l:∀i,jM G.out ao=M i->j i=.ret:=fun i e=>by
  unfold jM at e;split at e
  . cases e
  . rename_i C;rcases N with ⟨_,_,h3⟩ | ⟨h1,_⟩
    . cases D:ao with
      | none=>rw[D] at e;cases e
      | some a=>rw[D] at e;injection e with e;rw[<-e];exact h3 a D
    . exact absurd h1 C
 have n:∀i,j i≠.out->gM S w i:=fun i m=>by
  rcases aT i u.heap.size with o | o
  . exact H i (by rw[<-hE i o];exact m)
  . exact R (by omega)
 refine⟨q,b,r,_,P,y,T,N,fun x f t Oq O=>⟨⟨jc j w5.heap.size .ret,W,z.answered (XZ.law (YA.law _ _ _)) (GrO.law _ _ _) (GrO.law _ _ _) O l Oq (fun i e=>?_),fun i m=>?_⟩,(L.trans p.turns (fun i e m=>?_)).trans O (fun i e m=>?_),ok,v⟩⟩
 . rcases e with e | e
   . exact A (l i e)
   . exact R e
 . rcases aT i w5.heap.size with o | o
   . rw[iZ o] at m;exact n i m
   . exact R (by omega)
 . have y:κ i≠.out:=by rcases e with e | e | e <;> (rw[e];intro h;cases h)
   rcases H i y with h | h
   . exact h
   . omega
 . rcases n i (by rw[l i e];intro h;cases h) with h | h
   . exact h
   . omega
theorem MH.done {k:Nat}{ro:Rq.St}{eo:aj}{ec:Nat}{es:List Rq.Ev}{G:Gt.Gs}{ao:aj}{cap:Nat}{wr:X}(h:MH w0 S w g gs c k ro eo ec es G ao cap wr):iG wr ao cap G.out∧jB wr (gM S w) g gs G.s (upd c k ⟨ro,G.hd,G.body⟩)∧Turns S w wr:=by
 obtain⟨a,x,b,e⟩:=h.at_;have f:gY wr (fun i=>a i=.ret) 5 ao cap G.out:=b.held .ret;refine⟨f.wZ,⟨a,x,fun d=>?_,e⟩,h.turns⟩;have hd:=b.held d;cases d with
 | fl j=>exact⟨hd.1,trivial⟩
 | ret=>trivial
 | row=>exact hd
 | jR=>exact hd
 | rq j=>exact hd
 | bd j=>exact hd
 | out=>trivial
end
section
variable {w0 w:X} {S:Nat->Prop} {g gs:Nat} {s:Sr.Sh} {c:Nat->Gt.Cn}
theorem MJ (k:Int)(b:k<0∨4<=k)(bo:aj)(gJ n:Nat)(w:X):
 Calls prog 13 #[Q (M ⟨g,0,U⟩),I J k,Z bo n gJ] w fun e w'=>e=Y (.tuple #[Z U 0 0,I J 1])∧w'=w:=by
 have a:=H9 (fun W=>uV k W);rw[show(decide (0<=k)&&decide (k<4))=false from by rcases b with h | h <;> simp <;> omega] at a;go_enter func13,ntmps13;go_wp2_with fail
 refine(a.o _).mono ?_;rintro e f ⟨rfl,d⟩;subst d;go_wp2;go_ret2;exact⟨rfl,rfl⟩
theorem Bp (hP:ny w0)(hW:Below w0.heap.size w0 w)(hF:∀i,S i->w0.heap.size<=i)(h:jB w S g gs s c)(ok:Sr.Ok s)(k:Nat)(hk:k<4)(hc:Gt.yg (c k))(l:au){bo:aj}{gJ n:Nat}(hB:iG w bo gJ l)(rC:l≠[]->∀a,bo=M a->¬S a.block)(hn:l.length=n)(hl:(c k).body.length+n<=20000):
 Calls prog 13 #[Q (M ⟨g,0,U⟩),I J (k:Int),Z bo n gJ] w fun e w'=>Q5 S w g gs c k (Gt.feed Tu.iF s (c k) l) (if (c k).rq.ph=4 then 18 else 0) e w':=by
 have HI:=H9 (fun W=>uV (k:Int) W);rw[show(decide ((0:Int)<=(k:Int))&&decide ((k:Int)<4))=true from by simp;omega] at HI;obtain⟨κ,x,hH,hS⟩:=h;have y:lC w0 κ g gs s (Eh c x) c x noZ Lb w:=⟨hH,hP,hW,fun i e=>hF i (hS i e)⟩;have cg:w.cell? ⟨g,1+k*7,U⟩=M (Q (M ⟨(x k).gp,0,U⟩)):=y.gar.at_ hk (j:=0) (u:=Q (M ⟨(x k).gp,0,U⟩)) (by decide) rfl;have HD:=H9 (Eb w (fun i=>κ i=.rq k) (x k).gp (c k).rq (hH (.rq k) hk));have k0:(0:Int)<=(k:Int):=by omega
 have k4:(k:Int)<4:=by omega
 by_cases z:(c k).rq.ph=4
 . rw[if_pos z];rw[aH z] at HD;have hfd:Gt.feed Tu.iF s (c k) l=(s,c k,[]):=by
    have:=Rq.lS l (c k).rq z;unfold Gt.feed Gt.DX;rw[this.1,this.2];rfl
   rw[hfd];have r:Hid (Q5 S w g gs c k (s,c k,[]) 18 (Y (.tuple #[Z U 0 0,I J 18])) w):=⟨⟨U,0,0,rfl,rfl,iG.nil _⟩,by rw[upd_same];exact jB.mono ⟨κ,x,hH,hS⟩ (fun i _ e=>A e),Turns.refl _ _⟩;clear hH hS y hfd z hB rC hc ok;go_enter func13,ntmps13;go_wp2_with fail
   refine(HI.o _).mono ?_;rintro e w1 ⟨rfl,t⟩;rw[t];clear t;go_wp2_with fail
   refine HD.o.mono ?_;rintro e w1 ⟨rfl,t⟩;rw[t];clear t;go_wp2;go_ret2;exact r.o
 . rw[if_neg z];rw[aI z] at HD;have HFe:=H9 (MG w (fun i=>κ i=.rq k) (x k).gp (c k).rq l bo gJ n (hH (.rq k) hk) hc.rq hB (fun C a e e2=>rC C a e (hS _ (by rw[e2];intro h;cases h))) hn (by omega));have HG0:=H9 y;have HS:=H9 hS
   clear hH hS y hB rC z;go_enter func13,ntmps13;go_wp2_with fail
   refine(HI.o _).mono ?_;rintro e w1 ⟨rfl,t⟩;rw[t];clear t;go_wp2_with fail
   refine HD.o.mono ?_;rintro e w1 ⟨rfl,t⟩;rw[t];clear t;go_wp2_with fail
   refine HFe.o.mono ?_;rintro e w1 hFr;obtain⟨eo,ec,ne,κ1,rfl,C,p,hT1,hE1⟩:=HG0.o.fed hk hFr;have hS1:∀i,κ1 i≠.out->gM S w i:=fun i hi=>by
    rcases aT i w.heap.size with hl | hl
    . rcases hE1 i hl with e | e
      . exact A (HS.o i (by rw[<-e];exact hi))
      . exact A (HS.o i e)
    . exact R hl
   rw[<-ac0 c x k (Rq.fold (c k).rq l)] at p;have nN:=Rq.Qv (c k).rq l;obtain⟨es,D⟩:∃es,es=Rq.join (Rq.outs (c k).rq l):=⟨_,rfl⟩;have abm:∀e∈es,e.uI:=by rw[D];exact Rq.oL _ (Rq.qR l hc.rq)
   have oV:Hid (Gt.feed Tu.iF s (c k) l=((Gt.evs Tu.iF ⟨s,(c k).hd,(c k).body,[]⟩ es).s,⟨Rq.fold (c k).rq l,(Gt.evs Tu.iF ⟨s,(c k).hd,(c k).body,[]⟩ es).hd,(Gt.evs Tu.iF ⟨s,(c k).hd,(c k).body,[]⟩ es).body⟩,(Gt.evs Tu.iF ⟨s,(c k).hd,(c k).body,[]⟩ es).out)):=by rw[D,Gt.vY];rfl
   rw[<-D] at C p nN;have hR0:MH w0 S w g gs c k (Rq.fold (c k).rq l) eo ec es ⟨s,(c k).hd,(c k).body,[]⟩ U 0 w1:=⟨⟨κ1,x,⟨fun d=>by
    have hd:=p.held d;cases d with
    | ret =>
      show gY w1 (fun i=>κ1 i=.ret) 5 U 0 [];exact gY.nil _ _ _
    | fl j=>exact hd
    | row=>exact hd
    | jR=>exact hd
    | rq j=>exact hd
    | bd j=>exact hd
    | out=>trivial,p.pow,p.vM,p.far⟩,hS1⟩,hT1.mono (fun i e=>HS.o i (by rw[e];intro h;cases h)),ok,hc.hd⟩
   have hbd:∀i (hi:i<es.length),(Gt.evs Tu.iF ⟨s,(c k).hd,(c k).body,[]⟩ (es.take i)).body.length+es[i].d.bytes.length<=20000:=fun i hi=>by
    have h1:=Gt.Eo Tu.iF (es.take i) ⟨s,(c k).hd,(c k).body,[]⟩;have h2:Rq.jD (es.take i)+es[i].d.bytes.length<=Rq.jD es:=by
     conv=>rhs;rw[<-bW i es,Rq.mM,aC hi]
     generalize es[i]=e;cases e with
     | body b=>show _+b.length<=_+(b.length+_);omega
     | head _=>exact Nat.add_le_add_left (ay _) _
     | fin=>exact Nat.add_le_add_left (ay _) _
     | fail _=>exact Nat.add_le_add_left (ay _) _
    have h3:=nN.2.1;have z:(⟨s,(c k).hd,(c k).body,[]⟩:Gt.Gs).body.length=(c k).body.length:=rfl;omega
   have hol:∀i,i<=es.length->(Gt.evs Tu.iF ⟨s,(c k).hd,(c k).body,[]⟩ (es.take i)).out.length<=6000*40000:=fun i hi=>by
    have h1:=Gt.wI (es.take i) (g:=⟨s,(c k).hd,(c k).body,[]⟩) ok;rw[bX] at h1;have h3:=nN.1;have z:(⟨s,(c k).hd,(c k).body,[]⟩:Gt.Gs).out.length=0:=rfl;omega
   have hlen:es.length<=40000:=by have:=nN.1;omega
   have afn:Rq.Good (Rq.fold (c k).rq l):=hc.rq.fold l;have J6:=H9 hR0;have EB:=H9 hbd;have HOl:=H9 hol;have FR:=H9 abm;have HRo:=H9 afn
   obtain⟨j0,hj0,hy0,hy1,hy2⟩:=info_parts jN;have Hj:=H9 hj0;have MZ:=H9 hy0;have M0:=H9 hy1;have M4:=H9 hy2
   subst C;clear p hT1 hE1 hS1 nN abm D hR0 hbd hol afn HG0 HFe HI HD hFr cg hj0 hy0 hy1 hy2;generalize Rq.fold (c k).rq l=ro at *;generalize aiU:(⟨s,(c k).hd,(c k).body,[]⟩:Gt.Gs)=G0 at *;go_wp2;go_loopw [9,37] (fun vo vi wr=>∃(i m:Nat) (ao:aj) (cap:Nat),i<=es.length∧vi=I J i∧vo=Z ao m cap∧m=(Gt.evs Tu.iF G0 (es.take i)).out.length∧MH w0 S w g gs c k ro eo ec es (Gt.evs Tu.iF G0 (es.take i)) ao cap wr) (fun _ vi _=>es.length-(intOf vi).toNat)
   case atStart=>exact⟨0,0,U,0,ay _,rfl,rfl,by rw[<-aiU];rfl,J6.o⟩
   case round =>
    obtain⟨i,m,ao,cap,hi,rfl,rfl,hm,v⟩:=hrel;by_cases H:i<es.length
    . have hlt':(i:Int)<es.length:=by omega
      have O0:Gt.evs Tu.iF G0 (es.take (i+1))=Gt.ev Tu.iF (Gt.evs Tu.iF G0 (es.take i)) es[i]:=by rw[bN H,Gt.DW];rfl
      have hbi:=EB.o i H;have L:=HOl.o (i+1) (by omega);have aiV:=HOl.o i (by omega);have hfi:=FR.o es[i] (aB H);obtain⟨κ,x2,hG,hS2⟩:=v.at_;have hEv:nQ wr (fun j=>κ j=.fl k) 72 eo ec (es.map Rq.Ev.d):=(hG.held (.fl k)).2 rfl;have hcap:es.length<=ec:=by have:=hEv.abt.1;rw[aD] at this;exact this
      obtain⟨b,o,rfl,afo⟩:=hEv.lit (by rw[aD];omega);obtain⟨q,f,hIn⟩:=afo i (by rw[aD];exact H);rw[aF] at f hIn;generalize Gt.evs Tu.iF G0 (es.take i)=G at *;rw[O0] at L;generalize hev:es[i]=ev at *;have jo:=(fI _ wr).alloc (aL _) (K #[I J ev.d.kind,V ev.d.method,V ev.d.target,I J ev.d.minor,Z q.fo ev.d.fields.length q.gL,I J ev.d.length,Z q.bo ev.d.bytes.length q.gJ,V ev.d.kV,V ev.d.kI,V ev.d.ptype,Z q.po ev.d.iq.length q.jy,I J ev.d.code] 72);have hGA:=hG.stay (XZ.law (YA.law _ _ _)) (GrO.law _ _ _) jo;have afp:=hIn.turns (Turns.of_below (S:=fun _=>False) jo) (fun _ _ e=>e);have HMt:=H9 (X0 (XZ.law (YA.law _ _ _)) (GrO.law _ _ _) hGA hk v.ok (by rw[iO];exact⟨HRo.o,v.hd⟩) ev q afp (by rw[iO];exact hbi));rw[iO] at HMt;have hNx:=fun(w5:X) (e5:Ending)=>aae (e:=e5) (w5:=w5) (G:=G) (G':=Gt.ev Tu.iF ⟨G.s,G.hd,G.body,[]⟩ ev) (κ:=κ) (es:=es) (eo:=M ⟨b,o,U⟩) (ec:=ec) (ao:=ao) (cap:=cap) (ro:=ro) (k:=k) (c:=c) (g:=g) (gs:=gs) (w0:=w0) hS2 (v.turns.trans (Turns.of_below (S:=fun _=>False) jo) (fun _ e _=>e.elim));have hfr:Gt.ev Tu.iF G ev={ Gt.ev Tu.iF ⟨G.s,G.hd,G.body,[]⟩ ev with out:=G.out++(Gt.ev Tu.iF ⟨G.s,G.hd,G.body,[]⟩ ev).out }:=Gt.X3 G.s G.hd G.body G.out ev;have N:Sr.Ok (Gt.ev Tu.iF ⟨G.s,G.hd,G.body,[]⟩ ev).s:=Gt.VT Tu.iF abl (g:=⟨G.s,G.hd,G.body,[]⟩) v.ok ev;have afq:Rq.nG (Gt.ev Tu.iF ⟨G.s,G.hd,G.body,[]⟩ ev).hd:=Gt.aaG Tu.iF (g:=⟨G.s,G.hd,G.body,[]⟩) v.hd hfi;have O:G.out.length+(Gt.ev Tu.iF ⟨G.s,G.hd,G.body,[]⟩ ev).out.length<=6000*40000:=by rw[<-aV];rw[hfr] at L;exact L
      have c0:wr.cell? ⟨b,o+i*12,U⟩=M (I J ev.d.kind):=f 0 _ rfl;have c1:wr.cell? ⟨b,o+i*12+1,U⟩=M (V ev.d.method):=f 1 _ rfl;have c2:wr.cell? ⟨b,o+i*12+2,U⟩=M (V ev.d.target):=f 2 _ rfl;have c3:wr.cell? ⟨b,o+i*12+3,U⟩=M (I J ev.d.minor):=f 3 _ rfl;have c4:wr.cell? ⟨b,o+i*12+4,U⟩=M (Z q.fo ev.d.fields.length q.gL):=f 4 _ rfl;have c5:wr.cell? ⟨b,o+i*12+5,U⟩=M (I J ev.d.length):=f 5 _ rfl;have c6:wr.cell? ⟨b,o+i*12+6,U⟩=M (Z q.bo ev.d.bytes.length q.gJ):=f 6 _ rfl;have c7:wr.cell? ⟨b,o+i*12+7,U⟩=M (V ev.d.kV):=f 7 _ rfl;have c8:wr.cell? ⟨b,o+i*12+8,U⟩=M (V ev.d.kI):=f 8 _ rfl;have c9:wr.cell? ⟨b,o+i*12+9,U⟩=M (V ev.d.ptype):=f 9 _ rfl;have c10:wr.cell? ⟨b,o+i*12+10,U⟩=M (Z q.po ev.d.iq.length q.jy):=f 10 _ rfl;have c11:wr.cell? ⟨b,o+i*12+11,U⟩=M (I J ev.d.code):=f 11 _ rfl;have OI:=H9 hNx;have tC:=H9 O0;have HFr:=H9 hfr;have JY:=H9 N;have aiX:=H9 afq;have HM:=H9 hm
      clear v hG hS2 hEv afo f hIn jo hGA afp hNx O0 hfr N afq hbi L aiV hfi hm;generalize ev.d=ed at *;generalize Gt.ev Tu.iF ⟨G.s,G.hd,G.body,[]⟩ ev=G' at *;go_wp2_with fail
      refine HMt.o.mono ?_;rintro e w5 hMt;obtain⟨CB,cap5,n5,B,rfl,U1,A8,afr,P⟩:=OI.o w5 e hMt JY.o aiX.o;have qX:=H9 A8;have HGr:=H9 afr;have Oo:=H9 P;have HN5:=H9 U1.symm;have UZ:=H9 HM.o.symm
      have hml:m+n5<=240000000:=by rw[U1,HM.o];exact O
      clear hMt A8 afr P U1 HMt OI O;go_wp2_with (at_builtin;refine nC rfl (.tmp 41) (.tmp 45) 31 rfl 5 j0 underlying31 Hj.o MZ.o M0.o M4.o rfl rfl HGr.o UZ.o qX.o HN5.o (by omega) ?_;intro MI T w6 vH qY;have HF6:=H9 (Oo.o MI T w6 vH qY);clear vH qY)
      go_roundw
      case rel=>exact⟨i+1,m+n5,MI,T,by omega,by go_num,rfl,by rw[tC.o,HFr.o];show _=(G.out++G'.out).length;rw[aV,HM.o,HN5.o],by rw[tC.o,HFr.o];exact HF6.o⟩
      case measure=>simp[intOf];omega
    . obtain rfl:i=es.length:=by omega
      rw[bO] at hm v;obtain⟨oz,hG9,sw⟩:=v.done;have r:Hid (Q5 S w g gs c k (Gt.feed Tu.iF s (c k) l) 0 (Y (.tuple #[Z ao m cap,I J 0])) wr):=by
       rw[oV.o];exact⟨⟨ao,cap,m,rfl,hm,oz⟩,hG9,sw⟩
      clear hm v oz hG9 sw;go_wp2;go_ret2;exact r.o
end
section
variable {w0 w:X} {S:Nat->Prop} {g gs:Nat} {s:Sr.Sh} {c:Nat->Gt.Cn}
theorem Us (h:jB w S g gs s c)(k:Nat)(d:k<4):
 Calls prog 20 #[Q (M ⟨g,0,U⟩),I J (k:Int)] w fun e w'=>e=Y (.bool (Rq.busy (c k).rq))∧w'=w:=by
 have f:=H9 (fun W=>uV (k:Int) W);rw[show(decide ((0:Int)<=(k:Int))&&decide ((k:Int)<4))=true from by simp;omega] at f;obtain⟨l,x,b,m⟩:=h;have q:w.cell? ⟨g,1+k*7,U⟩=M (Q (M ⟨(x k).gp,0,U⟩)):=(b .row).1.at_ d (j:=0) (by decide) rfl;have n:=H9 (X4 w (fun i=>l i=.rq k) (x k).gp (c k).rq (b (.rq k) d));have r:(0:Int)<=(k:Int):=by omega
 have t:(k:Int)<4:=by omega
 clear b m;generalize Rq.busy (c k).rq=u at *;go_enter func20,ntmps20;go_wp2_with fail
 refine(f.o _).mono ?_;rintro e p ⟨rfl,a⟩;rw[a];clear a;go_wp2_with fail
 refine n.o.mono ?_;rintro e p ⟨rfl,a⟩;rw[a];clear a;go_wp2;go_ret;exact⟨rfl,rfl⟩
def aaf (gp:Nat):R7:=⟨gp,U,0,U,0⟩
structure Fz (S:Nat->Prop)(w:X)(g gs:Nat)(s:Sr.Sh)(n:Nat)(wr:X):Prop where
 at_:∃κ v x,Held (FX g gs s v n (fun _=>Gt.qC) x noZ Lb) κ wr∧(∀k,k<n->v k=Zi Gt.qC (x k))∧∀i,κ i≠.out->gM S w i
 turns:Turns S w wr
theorem kQ.ac1 {v:Nat->List Value}(h:kQ w g gs v){k:Nat}(a:k<4)(b d e f l m n:Value):
 kQ (((((((w.setCell ⟨g,1+k*7,U⟩ b).setCell ⟨g,1+k*7+1,U⟩ d).setCell ⟨g,1+k*7+2,U⟩ e).setCell ⟨g,1+k*7+3,U⟩ f).setCell ⟨g,1+k*7+4,U⟩ l).setCell ⟨g,1+k*7+5,U⟩ m).setCell ⟨g,1+k*7+6,U⟩ n) g gs (upd v k [b,d,e,f,l,m,n])∧Turns (fun i=>i=g) w (((((((w.setCell ⟨g,1+k*7,U⟩ b).setCell ⟨g,1+k*7+1,U⟩ d).setCell ⟨g,1+k*7+2,U⟩ e).setCell ⟨g,1+k*7+3,U⟩ f).setCell ⟨g,1+k*7+4,U⟩ l).setCell ⟨g,1+k*7+5,U⟩ m).setCell ⟨g,1+k*7+6,U⟩ n):=by
 refine⟨?_,gZ g [b,d,e,f,l,m,n] (1+k*7) w⟩;have:=((((((h.set a (j:=0) (by decide) b).set a (j:=1) (by decide) d).set a (j:=2) (by decide) e).set a (j:=3) (by decide) f).set a (j:=4) (by decide) l).set a (j:=5) (by decide) m).set a (j:=6) (by decide) n;obtain⟨p,q,r,t,u,x,y,o⟩:=Go.Proofs.YtjmndjmhjleabaaGreatDoor.seven (h.seven k a);simp only[qG,iO,o] at this;exact this
theorem Fz.step {n gp:Nat}{wr p:X}(h:Fz S w g gs s n wr)(D:jH p (fun k=>wr.heap.size<=k) gp Rq.start)(q:Below wr.heap.size wr p):∃v,kQ p g gs v∧∀l,kQ l g gs (upd v n (Zi Gt.qC (aaf gp)))->Turns (fun i=>i=g) p l->Fz S w g gs s (n+1) l:=by
 obtain⟨⟨r,v,x,b,G,y⟩,z⟩:=h;have m:=(b .row).1.lt;have P:=z.size;refine⟨v,⟨(q.block g m).trans (b .row).1.row,(b .row).1.seven⟩,fun l t f=>?_⟩;have a:∀d,d≠.row->FX g gs s v n (fun _=>Gt.qC) x noZ Lb d l (fun i=>jc r wr.heap.size (.rq n) i=d):=fun d H=>by
  have L:lN (FX g gs s v n (fun _=>Gt.qC) x noZ Lb d):=oq (fun _=>lN.nE) lN.nE d;have N:=L.mono (b d) (S':=fun i=>r i=d∧i<wr.heap.size) (fun i o e=>⟨e,o⟩);have O:=L.turns (L.turns N (Turns.of_below (S:=fun _=>False) q) (fun _ _ e=>e)) f (fun i e B=>H (by rw[<-e.1,B];exact(b .row).2));exact L.mono O (fun i _ e=>(iZ e.2).trans e.1)
 refine⟨⟨jc r wr.heap.size (.rq n),upd v n (Zi Gt.qC (aaf gp)),upd x n (aaf gp),fun d=>?_,fun j u=>?_,fun i o=>?_⟩,(z.trans (Turns.of_below (S:=fun _=>False) q) (fun _ e _=>e.elim)).trans f (fun i e o=>?_)⟩
 . cases d with
   | row=>exact⟨t,(iZ m).trans (b .row).2⟩
   | jR=>exact a .jR (by intro h;cases h)
   | rq j =>
     intro u;by_cases e:j=n
     . subst e;rw[iO];exact(D.turns f (fun i e B=>by omega)).mono (fun i _ e=>qN e)
     . rw[upd_ne _ _ e];exact a (.rq j) (by intro h;cases h) (by omega)
   | fl j =>
     refine⟨fun u=>?_,trivial⟩;by_cases e:j=n
     . subst e;rw[iO];exact nD.nil _ _
     . rw[upd_ne _ _ e];exact(a (.fl j) (by intro h;cases h)).1 (by omega)
   | bd j =>
     intro u;by_cases e:j=n
     . subst e;rw[iO];exact gY.nil _ _ _
     . rw[upd_ne _ _ e];exact a (.bd j) (by intro h;cases h) (by omega)
   | ret=>trivial
   | out=>trivial
 . by_cases e:j=n
   . subst e;rw[iO,iO]
   . rw[upd_ne _ _ e,upd_ne _ _ e];exact G j (by omega)
 . rcases aT i wr.heap.size with C | C
   . rw[iZ C] at o;exact y i o
   . exact R (by omega)
 . rcases y i (by rw[e,(b .row).2];intro h;cases h) with h | h
   . exact h
   . omega
theorem Fz.done {wr:X}(h:Fz S w g gs s 4 wr):jB wr (gM S w) g gs s (fun _=>Gt.qC)∧Turns S w wr:=by
 obtain⟨⟨e,v,x,f,b,i⟩,l⟩:=h;refine⟨⟨e,x,fun d=>?_,i⟩,l⟩;have a:=f d;cases d with
 | row =>
   refine⟨⟨?_,fun k m=>rfl⟩,a.2⟩;have:=a.1.row;unfold Qt at this ⊢;rw[b 0 (by omega),b 1 (by omega),b 2 (by omega),b 3 (by omega)] at this;exact this
 | jR=>exact a
 | rq j=>exact a
 | fl j=>exact a
 | bd j=>exact a
 | ret=>trivial
 | out=>trivial
theorem PG (h:Fz S w g gs s 0 w):
 Calls prog 24 #[Q (M ⟨g,0,U⟩)] w fun e w'=>e=Y (.tuple #[])∧jB w' (gM S w) g gs s (fun _=>Gt.qC)∧Turns S w w':=by
 have l:=H9 (fun W=>Cb W);have z:=H9 h;clear h;go_enter func24,ntmps24;go_wp2;go_loopw [3] (fun m wr=>∃i:Nat,i<=4∧m=I J i∧Fz S w g gs s i wr) (fun m _=>4-(intOf m).toNat)
 case atStart=>exact⟨0,ay _,rfl,z.o⟩
 case round =>
  obtain⟨i,hi,rfl,p⟩:=hrel;have q:=H9 p;clear p;by_cases b:i<4
  . have r:(i:Int)<4:=by omega
    have B:(0:Int)<=(i:Int):=by omega
    have C:Hid (Fz S w g gs s i wr.drew):=by
     obtain⟨⟨D,v,x,G,d,H⟩,L⟩:=q.o;exact⟨⟨D,v,x,G.stay (oq (fun _=>lN.nE) lN.nE) (gP _ _),d,H⟩,L.trans (Turns.drewN (fun _=>False) wr 1) (fun _ e _=>e.elim)⟩
    go_upto_region 3 with fail
    go_region_law ((go_simp;go_at_call 28;refine(l.o _).mono ?_;rintro e N ⟨t,rfl,y,f⟩;obtain⟨v,a,k⟩:=C.o.step y f;obtain⟨O,P,T,a3,a4,a5,a6,d⟩:=Go.Proofs.YtjmndjmhjleabaaGreatDoor.seven (a.seven i b);have c0:N.cell? ⟨g,1+i*7,U⟩=M O:=a.at_ b (j:=0) (by decide) (by rw[d];rfl);have c1:=a.at_ b (j:=1) (by decide) (u:=P) (by rw[d];rfl);have c2:=a.at_ b (j:=2) (by decide) (u:=T) (by rw[d];rfl);have c3:=a.at_ b (j:=3) (by decide) (u:=a3) (by rw[d];rfl);have c4:=a.at_ b (j:=4) (by decide) (u:=a4) (by rw[d];rfl);have c5:=a.at_ b (j:=5) (by decide) (u:=a5) (by rw[d];rfl);have c6:=a.at_ b (j:=6) (by decide) (u:=a6) (by rw[d];rfl);have fz:=fun j=>a.fz j;have Ao:=H9 (k _ (a.ac1 b (Q (M ⟨t,0,U⟩)) (V ⟨#[]⟩) (V ⟨#[]⟩) (I J 0) (Z U 0 0) (I J 0) (Z U 0 0)).1 (a.ac1 b (Q (M ⟨t,0,U⟩)) (V ⟨#[]⟩) (V ⟨#[]⟩) (I J 0) (Z U 0 0) (I J 0) (Z U 0 0)).2);clear y f k d))
    all_goals
     go_wp2;go_roundw
     case rel=>exact⟨i+1,by omega,by go_num,Ao.o⟩
     case measure=>simp[intOf];omega
  . obtain rfl:i=4:=by omega
    have n:=H9 q.o.done;go_wp2;go_end0
    exact⟨rfl,n.o⟩
end
section
variable {w0 w:X} {S:Nat->Prop} {g gs:Nat} {s:Sr.Sh} {c:Nat->Gt.Cn}
def MK:List Value:=[Q U,V ⟨#[]⟩,V ⟨#[]⟩,I J 0,Z U 0 0,I J 0,Z U 0 0]
theorem Fz.begin_ (h:iH w S gs s):Fz (fun k=>(S k∧k<w.heap.size)∨k=w.heap.size) (w.alloc (K (Qt gs (fun _=>MK)).toArray 80)) w.heap.size gs s 0 (w.alloc (K (Qt gs (fun _=>MK)).toArray 80)):=by
 have l:=(fI _ w).alloc (aL _) (K (Qt gs (fun _=>MK)).toArray 80);classical
 refine⟨⟨fun k=>if k=w.heap.size then .row else if S k∧k<w.heap.size then .jR else .out,fun _=>MK,fun _=>aaf 0,fun d=>?_,fun k a=>absurd a (bY k),fun k a=>?_⟩,Turns.refl _ _⟩
 . cases d with
   | row=>exact⟨⟨fH w _,fun _ _=>rfl⟩,if_pos rfl⟩
   | jR=>exact iH.mono ((iH.mono h (S':=fun k=>S k∧k<w.heap.size) (fun k a e=>⟨e,a⟩)).stay l) (fun k _ e=>by
    show(if k=w.heap.size then Ei.row else if S k∧k<w.heap.size then .jR else .out)=.jR;rw[if_neg (by have:=e.2;omega),if_pos e])
   | rq j=>exact fun b=>absurd b (bY j)
   | fl j=>exact⟨fun b=>absurd b (bY j),trivial⟩
   | bd j=>exact fun b=>absurd b (bY j)
   | ret=>trivial
   | out=>trivial
 . simp only at a;by_cases f:k=w.heap.size
   . exact A (R f)
   . rw[if_neg f] at a;by_cases i:S k∧k<w.heap.size
     . exact A (A i)
     . rw[if_neg i] at a;exact absurd rfl a
theorem FB (h:iH w S gs s):
 Calls prog 9 #[Q (M ⟨gs,0,U⟩)] w fun e w'=>e=Y (Q (M ⟨w.heap.size,0,U⟩))∧jB w' (gM S w) w.heap.size gs s (fun _=>Gt.qC)∧Turns S w w':=by
 have l:=H9 (PG (Fz.begin_ h));have b:=(fI _ w).alloc (aL _) (K (Qt gs (fun _=>MK)).toArray 80);have d:=H9 b;clear b h;go_enter func9,ntmps9;go_wp2_with fail
 refine l.o.mono ?_;rintro e f ⟨rfl,i,j⟩;have a:Hid (jB f (gM S w) w.heap.size gs s (fun _=>Gt.qC)∧Turns S w f):=by
  have m:=d.o.size;refine⟨i.mono (fun k _ e=>?_),(Turns.of_below d.o).trans j (fun k e n=>?_)⟩
  . rcases e with (e | e) | e
    . exact A e.1
    . exact R (by omega)
    . exact R (by omega)
  . rcases e with e | e
    . exact e.1
    . omega
 clear i j;go_wp2;go_ret;exact⟨rfl,a.o⟩
theorem PI (h:jB w S g gs s c)(k:Nat)(m:k<4)(v:(c k).body=[])(ht:(c k).hd.target.length<=100000):
 Calls prog 11 #[Q (M ⟨g,0,U⟩),I J (k:Int)] w fun e w'=>e=Y (I J 0)∧Turns S w w':=by
 have N:=H9 (fun W=>uV (k:Int) W);rw[show(decide ((0:Int)<=(k:Int))&&decide ((k:Int)<4))=true from by simp;omega] at N;obtain⟨κ,x,O,hS⟩:=h;have hg:=(O .row).1;have y:Hid (S g):=hS g (by rw[(O .row).2];intro h;cases h);have D:=H9 (A9 hg m (rfl:Eh c x k=[Q (M ⟨(x k).gp,0,U⟩),V ⟨(c k).hd.method.toArray⟩,V ⟨(c k).hd.target.toArray⟩,I J ((c k).hd.minor:Int),Z (x k).fo (c k).hd.fields.length (x k).gL,I J (c k).hd.length,Z (x k).bo (c k).body.length (x k).gJ]));rw[v] at D;simp only[bZ] at D;have P:=H9 (fun W=>Cb W);have T:=H9 (fun W=>LC ⟨(c k).hd.method.toArray⟩ ⟨(c k).hd.target.toArray⟩ ((c k).hd.minor:Int) (c k).hd.length (x k).fo (x k).bo (c k).hd.fields.length (x k).gL 0 (x k).gJ W (by show(c k).hd.target.toArray.size<=_;rw[bL];exact ht));have k0:(0:Int)<=(k:Int):=by omega
 have k4:(k:Int)<4:=by omega
 clear O hS hg v;generalize (decide ((⟨(c k).hd.method.toArray⟩:av)=Gt.NC)&&Gt.Je ⟨(c k).hd.target.toArray⟩)=bp at *;go_enter func11,ntmps11;go_wp2_with fail
 refine(N.o _).mono ?_;rintro e w1 ⟨rfl,hw⟩;rw[hw];clear hw;go_wp2_with fail
 refine D.o.mono ?_;rintro e d ⟨rfl,f,jU⟩;have n:=(fI _ d).alloc (aL _) (K #[V ⟨(c k).hd.method.toArray⟩,V ⟨(c k).hd.target.toArray⟩,I J ((c k).hd.minor:Int),Z (x k).fo (c k).hd.fields.length (x k).gL,I J (c k).hd.length,Z (x k).bo 0 (x k).gJ] 75);have l:=fH d (K #[V ⟨(c k).hd.method.toArray⟩,V ⟨(c k).hd.target.toArray⟩,I J ((c k).hd.minor:Int),Z (x k).fo (c k).hd.fields.length (x k).gL,I J (c k).hd.length,Z (x k).bo 0 (x k).gJ] 75);have HR3:Hid (∀W,Below (d.alloc (K #[V ⟨(c k).hd.method.toArray⟩,V ⟨(c k).hd.target.toArray⟩,I J ((c k).hd.minor:Int),Z (x k).fo (c k).hd.fields.length (x k).gL,I J (c k).hd.length,Z (x k).bo 0 (x k).gJ] 75)).heap.size (d.alloc (K #[V ⟨(c k).hd.method.toArray⟩,V ⟨(c k).hd.target.toArray⟩,I J ((c k).hd.minor:Int),Z (x k).fo (c k).hd.fields.length (x k).gL,I J (c k).hd.length,Z (x k).bo 0 (x k).gJ] 75)) W->kQ W g gs _):=fun W G=>⟨(G.block g (cu f.lt n.size)).trans ((n.block g f.lt).trans f.row),f.seven⟩;have HBx:Hid (∀W H,Below (d.alloc (K #[V ⟨(c k).hd.method.toArray⟩,V ⟨(c k).hd.target.toArray⟩,I J ((c k).hd.minor:Int),Z (x k).fo (c k).hd.fields.length (x k).gL,I J (c k).hd.length,Z (x k).bo 0 (x k).gJ] 75)).heap.size (d.alloc (K #[V ⟨(c k).hd.method.toArray⟩,V ⟨(c k).hd.target.toArray⟩,I J ((c k).hd.minor:Int),Z (x k).fo (c k).hd.fields.length (x k).gL,I J (c k).hd.length,Z (x k).bo 0 (x k).gJ] 75)) W->Turns (fun i=>i=g) W H->H.heap[d.heap.size]? = M (K #[V ⟨(c k).hd.method.toArray⟩,V ⟨(c k).hd.target.toArray⟩,I J ((c k).hd.minor:Int),Z (x k).fo (c k).hd.fields.length (x k).gL,I J (c k).hd.length,Z (x k).bo 0 (x k).gJ] 75 (0,0))∧Turns S w H):=fun W H G z=>by
  have hlt:=f.lt;refine⟨z.row ((G.block d.heap.size (by rw[fV];omega)).trans l) (by omega),((jU.mono (fun i e=>by rw[e];exact y.o)).trans (Turns.of_below (S:=fun _=>False) (then_ n G)) (fun _ e _=>e.elim)).trans z (fun i e _=>by rw[e];exact y.o)⟩
 clear f jU n l D N;go_upto_region 4 with fail
 generalize (d.alloc (K #[V ⟨(c k).hd.method.toArray⟩,V ⟨(c k).hd.target.toArray⟩,I J ((c k).hd.minor:Int),Z (x k).fo (c k).hd.fields.length (x k).gL,I J (c k).hd.length,Z (x k).bo 0 (x k).gJ] 75))=W2 at *;go_cut [] (fun wd=>wd.heap[d.heap.size]? = M (K #[V ⟨(c k).hd.method.toArray⟩,V ⟨(c k).hd.target.toArray⟩,I J ((c k).hd.minor:Int),Z (x k).fo (c k).hd.fields.length (x k).gL,I J (c k).hd.length,Z (x k).bo 0 (x k).gJ] 75 (0,0))∧Turns S w wd)
 case first =>
  go_region_law ((go_simp;go_at_call 28;refine(P.o _).mono ?_;rintro e L ⟨gp,rfl,TI,B⟩;have r:Below W2.heap.size W2 L:=then_ (gP _ _) B;have a:=HR3.o L r;obtain⟨a0,a1,a2,a3,a4,a5,a6,q⟩:=Go.Proofs.YtjmndjmhjleabaaGreatDoor.seven (a.seven k m);have c0:L.cell? ⟨g,1+k*7,U⟩=M a0:=a.at_ m (j:=0) (by decide) (by rw[q];rfl);have c1:=a.at_ m (j:=1) (by decide) (u:=a1) (by rw[q];rfl);have c2:=a.at_ m (j:=2) (by decide) (u:=a2) (by rw[q];rfl);have c3:=a.at_ m (j:=3) (by decide) (u:=a3) (by rw[q];rfl);have c4:=a.at_ m (j:=4) (by decide) (u:=a4) (by rw[q];rfl);have c5:=a.at_ m (j:=5) (by decide) (u:=a5) (by rw[q];rfl);have c6:=a.at_ m (j:=6) (by decide) (u:=a6) (by rw[q];rfl);have fz:=fun j=>a.fz j;have Ao:=H9 (HBx.o L _ r (a.ac1 m (Q (M ⟨gp,0,U⟩)) (V ⟨#[]⟩) (V ⟨#[]⟩) (I J 0) (Z U 0 0) (I J 0) (Z U 0 0)).2);clear TI B q r a))
  all_goals
   go_wp2;go_meet;exact Ao.o
 case rest =>
  obtain⟨b,C⟩:=hcut;have b0:wc.cell? ⟨d.heap.size,0,U⟩=M (V ⟨(c k).hd.method.toArray⟩):=fJ wc _ 0 _ _ _ b;have b1:wc.cell? ⟨d.heap.size,1,U⟩=M (V ⟨(c k).hd.target.toArray⟩):=fJ wc _ 1 _ _ _ b;have b2:wc.cell? ⟨d.heap.size,2,U⟩=M (I J ((c k).hd.minor:Int)):=fJ wc _ 2 _ _ _ b;have b3:wc.cell? ⟨d.heap.size,3,U⟩=M (Z (x k).fo (c k).hd.fields.length (x k).gL):=fJ wc _ 3 _ _ _ b;have b4:wc.cell? ⟨d.heap.size,4,U⟩=M (I J (c k).hd.length):=fJ wc _ 4 _ _ _ b;have b5:wc.cell? ⟨d.heap.size,5,U⟩=M (Z (x k).bo 0 (x k).gJ):=fJ wc _ 5 _ _ _ b;have HTw:=H9 C;have aiY:=(aK.1 b).1;have HRw:=H9 b
  clear b C;go_wp2_with fail
  refine(T.o _).mono ?_;rintro e w5 ⟨rfl,t⟩;have Xl:Hid (Turns S w w5):=HTw.o.trans (Turns.of_below (S:=fun _=>False) t) (fun _ e _=>e.elim);have b6:w5.cell? ⟨d.heap.size,5,U⟩=M (Z (x k).bo 0 (x k).gJ):=(t.cell (p:=⟨d.heap.size,5,U⟩) aiY).trans b5;clear t;cases bp
  . go_wp2;go_ret;exact⟨rfl,Xl.o⟩
  . go_wp2;go_ret;exact⟨rfl,Xl.o⟩
end
end Go.Proofs.YtjmndjmhjleabaaGreatDoor