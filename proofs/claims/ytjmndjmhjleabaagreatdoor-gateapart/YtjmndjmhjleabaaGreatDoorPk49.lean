/- Small texts, one behind the other: GaJ, GaK, GaL, GaM, GaN, GaO, GaP. -/
import Derived.Test.YtjmndjmhjleabaaGreatDoorAl
import Derived.Test.YtjmndjmhjleabaaGreatDoorAm
import Derived.Test.YtjmndjmhjleabaaGreatDoorPk47
import Derived.Test.YtjmndjmhjleabaaGreatDoorPk44
import Derived.Deep.RegionHeldLaw
import Derived.Test.YtjmndjmhjleabaaGreatDoorPk34
import Derived.Test.YtjmndjmhjleabaaGreatDoorPk43
set_option maxHeartbeats 3200000
set_option maxRecDepth 100000
open Go.Proofs.Tryz
namespace Go.Proofs.YtjmndjmhjleabaaGreatDoor
open Go.RowKit
structure lD (w0:World)(κ:Nat->Ej)(g gs:Nat)(s:Sr.Sh)(v:Nat->List Value)(c:Nat->Gt.Cn)(x:Nat->R8)(z:Nat->Ob)(o:Ob)(w:World):Prop where
 held:Held (FY g gs s v 4 c x z o) κ w
 pow:nA w0
 vN:aj w0 w
 far:∀i,κ i≠.out->w0.heap.size<=i
section
variable {w0 w w':World} {κ:Nat->Ej} {g gs:Nat} {s s':Sr.Sh} {v v':Nat->List Value} {c c':Nat->Gt.Cn} {x x':Nat->R8} {z:Nat->Ob} {o:Ob}
theorem PG {n:Nat}{d:Ej}(hf:∀i,κ i≠.out->w0.heap.size<=i)(hn:w0.heap.size<=n):∀i,jd κ n d i≠.out->w0.heap.size<=i:=fun i hi=>by
 rcases aU i n with hl | hl
 . rw[jc hl] at hi;exact hf i hi
 . omega
theorem lD.act (Lz:∀k,lQ (z k))(Lo:lQ o)(h:lD w0 κ g gs s v c x z o w){T N:Nat->Prop}(d:Ej)(hd:d≠.out)(ht:Turns T w w')(hT:∀k,T k->κ k=d)(hY:FY g gs s' v' 4 c' x' z o d w' N)(hN:∀k,N k->κ k=d∨w.heap.size<=k)(hX:∀e,e≠d->FY g gs s' v' 4 c' x' z o e=FY g gs s v 4 c x z o e):lD w0 (jd κ w.heap.size d) g gs s' v' c' x' z o w' :=
 ⟨h.held.act (ou Lz Lo) ht hT (X':=FY g gs s' v' 4 c' x' z o) (ou Lz Lo d) hY hN hX,h.pow,h.vN.trans (ht.below (fun k e=>h.far k (by rw[hT k e];exact hd)) h.vN.size),PG h.far h.vN.size⟩
theorem lD.stay (Lz:∀k,lQ (z k))(Lo:lQ o)(h:lD w0 κ g gs s v c x z o w)(hb:aj w w'):lD w0 κ g gs s v c x z o w':=⟨h.held.stay (ou Lz Lo) hb,h.pow,then_ h.vN hb,h.far⟩
theorem lD.trim (Lz:∀k,lQ (z k))(Lo:lQ o)(h:lD w0 κ g gs s v c x z o w):lD w0 (jd κ w.heap.size .out) g gs s v c x z o w:=by
 refine⟨fun d=>?_,h.pow,h.vN,PG h.far h.vN.size⟩;exact(ou Lz Lo d).mono (h.held d) (fun k hk e=>(jc hk).trans e)
theorem lD.row (Lz:∀k,lQ (z k))(Lo:lQ o)(h:lD w0 κ g gs s v c x z o w)(hr:kR w' g gs v')(hT:Turns (fun i=>i=g) w w'):lD w0 (jd κ w.heap.size .row) g gs s v' c x z o w' :=
 h.act Lz Lo .row (by intro h;cases h) hT (fun k e=>by rw[e];exact(h.held .row).2) (N:=fun k=>k=g) ⟨hr,rfl⟩ (fun k e=>Or.inl (by rw[e];exact(h.held .row).2)) (fun d hd=>by cases d <;> first | rfl | exact absurd rfl hd)
theorem lD.jS (Lz:∀k,lQ (z k))(Lo:lQ o)(h:lD w0 κ g gs s v c x z o w)(hA:iI w' (gN (fun k=>κ k=.jS) w) gs s')(hT:Turns (fun k=>κ k=.jS) w w'):lD w0 (jd κ w.heap.size .jS) g gs s' v c x z o w' :=
 h.act Lz Lo .jS (by intro h;cases h) hT (fun _ e=>e) hA (fun _ e=>e) (fun d hd=>by cases d <;> first | rfl | exact absurd rfl hd)
theorem lD.gar (h:lD w0 κ g gs s v c x z o w):kR w g gs v:=(h.held .row).1
theorem lD.head (h:lD w0 κ g gs s v c x z o w)(k:Nat)(hd:Rq.Hd)(fo:ak)(gM:Nat)(hF:nE w (fun i=>κ i=.fl k) fo gM hd.fields.length (gU (Rq.ny hd.fields))):lD w0 κ g gs s v (upd c k { c k with hd:=hd }) (upd x k { x k with fo:=fo,gM:=gM }) z o w:=by
 refine⟨fun d=>?_,h.pow,h.vN,h.far⟩;have hh:=h.held d;cases d with
 | row=>exact hh
 | jS=>exact hh
 | rq j =>
   intro hj;by_cases e:j=k
   . subst e;rw[iQ,iQ];exact hh hj
   . rw[upd_ne _ _ e,upd_ne _ _ e];exact hh hj
 | fl j =>
   refine⟨fun hj=>?_,hh.2⟩;by_cases e:j=k
   . subst e;rw[iQ,iQ];exact hF
   . rw[upd_ne _ _ e,upd_ne _ _ e];exact hh.1 hj
 | bd j =>
   intro hj;by_cases e:j=k
   . subst e;rw[iQ,iQ];exact hh hj
   . rw[upd_ne _ _ e,upd_ne _ _ e];exact hh hj
 | ret=>exact hh
 | out=>trivial
theorem lD.nobody (h:lD w0 κ g gs s v c x z o w)(k:Nat):lD w0 κ g gs s v (upd c k { c k with body:=[] }) (upd x k { x k with bo:=none,gK:=0 }) z o w:=by
 refine⟨fun d=>?_,h.pow,h.vN,h.far⟩;have hh:=h.held d;cases d with
 | row=>exact hh
 | jS=>exact hh
 | rq j =>
   intro hj;by_cases e:j=k
   . subst e;rw[iQ,iQ];exact hh hj
   . rw[upd_ne _ _ e,upd_ne _ _ e];exact hh hj
 | fl j =>
   refine⟨fun hj=>?_,hh.2⟩;by_cases e:j=k
   . subst e;rw[iQ,iQ];exact hh.1 hj
   . rw[upd_ne _ _ e,upd_ne _ _ e];exact hh.1 hj
 | bd j =>
   intro hj;by_cases e:j=k
   . subst e;rw[iQ,iQ];exact gZ.nil _ _ _
   . rw[upd_ne _ _ e,upd_ne _ _ e];exact hh hj
 | ret=>exact hh
 | out=>trivial
theorem lD.grow (Lz:∀k,lQ (z k))(Lo:lQ o)(h:lD w0 κ g gs s v c x z o w)(k:Nat)(hk:k<4){oG:ak}{kD:Nat}{b:av}(hG:gZ w' (fun i=>jN (c k).body (x k).bo=some i∨w.heap.size<=i) 5 oG kD ((c k).body++b))(hT:Turns (fun i=>jN (c k).body (x k).bo=some i) w w'):lD w0 (jd κ w.heap.size (.bd k)) g gs s v (upd c k { c k with body:=(c k).body++b }) (upd x k { x k with bo:=oG,gK:=kD }) z o w':=by
 have hin:∀i,jN (c k).body (x k).bo=some i->κ i=.bd k:=fun i e=>by
  unfold jN at e;split at e
  . cases e
  . rename_i hne;rcases h.held (.bd k) hk with ⟨_,_,h3⟩ | ⟨h1,_⟩
    . cases rD:(x k).bo with
      | none=>rw[rD] at e;cases e
      | some a=>rw[rD] at e;injection e with e;rw[<-e];exact h3 a rD
    . exact absurd h1 hne
 refine h.act Lz Lo (.bd k) (by intro h;cases h) hT hin (N:=fun i=>jN (c k).body (x k).bo=some i∨w.heap.size<=i) ?_ (fun i e=>?_) (fun d hd=>?_)
 . intro _;rw[iQ,iQ];exact hG
 . rcases e with e | e
   . exact Or.inl (hin i e)
   . exact Or.inr e
 . cases d with
   | row=>rfl
   | jS=>rfl
   | rq j =>
     by_cases e:j=k
     . subst e;simp only[FY,iQ]
     . simp only[FY];rw[upd_ne _ _ e,upd_ne _ _ e]
   | fl j =>
     by_cases e:j=k
     . subst e;simp only[FY,iQ]
     . simp only[FY];rw[upd_ne _ _ e,upd_ne _ _ e]
   | bd j =>
     have e:j≠k:=fun e=>hd (by rw[e]);simp only[FY];rw[upd_ne _ _ e,upd_ne _ _ e]
   | ret=>rfl
   | out=>rfl
end
theorem kR.aiR {w:World}{g gs:Nat}{v:Nat->List Value}(h:kR w g gs v){k:Nat}(hk:k<4){a0 a1 a2 a3 a4 a5 a6:Value}(hv:v k=[a0,a1,a2,a3,a4,a5,a6]){o:Nat}(ho:1+k*7=o)(y1 y2 y3 y4 y5:Value):
 kR (((((w.setCell ⟨g,o+1,none⟩ y1).setCell ⟨g,o+2,none⟩ y2).setCell ⟨g,o+3,none⟩ y3).setCell ⟨g,o+4,none⟩ y4).setCell ⟨g,o+5,none⟩ y5) g gs (upd v k [a0,y1,y2,y3,y4,y5,a6])∧Turns (fun i=>i=g) w (((((w.setCell ⟨g,o+1,none⟩ y1).setCell ⟨g,o+2,none⟩ y2).setCell ⟨g,o+3,none⟩ y3).setCell ⟨g,o+4,none⟩ y4).setCell ⟨g,o+5,none⟩ y5):=by
 subst ho;refine⟨?_,ig g [y1,y2,y3,y4,y5] (1+k*7+1) w⟩;have:=((((h.set hk (j:=1) (by decide) y1).set hk (j:=2) (by decide) y2).set hk (j:=3) (by decide) y3).set hk (j:=4) (by decide) y4).set hk (j:=5) (by decide) y5;simp only[qH,iQ,hv] at this;exact this
def Ext {C:Type}(κ J6:Nat->C)(n:Nat):Prop:=∀i,i<n->J6 i=κ i
theorem Ext.jd {C:Type}{κ J6:Nat->C}{n m:Nat}(h:Ext κ J6 n)(hm:n<=m)(d:C):Ext κ (jd J6 m d) n:=fun i hi=>by rw[jc (by omega)];exact h i hi
theorem Ext.refl {C:Type}(κ:Nat->C)(n:Nat):Ext κ κ n:=fun _ _=>rfl
structure yG (w0:World)(κ:Nat->Ej)(g gs:Nat)(c:Nat->Gt.Cn)(z:Nat->Ob)(o:Ob)(k:Nat)(w:World)(G:Gt.Gs)(e:Ending)(w':World):Prop where
 ret:∃(ao:ak) (cap n:Nat),e=.returned (.slice ao n cap)∧n=G.out.length∧iH w' ao cap G.out
 at_:∃J6 x',lD w0 J6 g gs G.s (Ei (upd c k ⟨(c k).rq,G.hd,G.body⟩) x') (upd c k ⟨(c k).rq,G.hd,G.body⟩) x' z o w'∧Ext κ J6 w.heap.size
 turns:Turns (fun i=>κ i=.row∨κ i=.jS∨κ i=.bd k) w w'
section
variable {w0 w:World} {κ:Nat->Ej} {g gs:Nat} {s:Sr.Sh} {c:Nat->Gt.Cn} {x:Nat->R8} {z:Nat->Ob} {o:Ob} {k:Nat}
theorem afl {hd:Rq.Hd}(h:Rq.nH hd){fo:ak}{gM:Nat}(hF:jo w fo gM hd.fields.length (gU (Rq.ny hd.fields))):pX w (Gt.ny hd.fields) fo gM hd.fields.length :=
 ⟨hF, by rw[show Gt.ny hd.fields = Rq.ny hd.fields from rfl]; exact Rq.kV _, by have := h.many; omega, fun p hp => by
  obtain⟨f,hf,rfl⟩:=aN.1 hp;have:=h.fields f hf;refine⟨?_,?_⟩
  . show f.1.toArray.size<=_;rw[bM];omega
  . show f.2.toArray.size<=_;rw[bM];omega⟩
theorem Uq (Lz:∀k,lQ (z k))(Lo:lQ o)(h:lD w0 κ g gs s (Ei c x) c x z o w)(hk:k<4)(hd:Rq.Hd){fo bo po:ak}{gM nf nb gK np jA:Nat}(hn:hd.fields.length=nf)(hF:nE w (fun i=>κ i=.fl k) fo gM nf (gU (Rq.ny hd.fields))):
 Calls prog 35 #[.pointer (some ⟨g,0,none⟩),.pointer (some ⟨g,1+k*7,none⟩),.agg #[.int .i64 1,.string ⟨hd.method.toArray⟩,.string ⟨hd.target.toArray⟩,.int .i64 (hd.minor:Int),.slice fo nf gM,.int .i64 hd.length,.slice bo nb gK,.string ⟨#[]⟩,.string ⟨#[]⟩,.string ⟨#[]⟩,.slice po np jA,.int .i64 0]] w fun e w'=>yG w0 κ g gs c z o k w ⟨s,hd,(c k).body,[]⟩ e w':=by
 have hb:=(fJ _ w).alloc (aM _) (.cells #[.int .i64 1,.string ⟨hd.method.toArray⟩,.string ⟨hd.target.toArray⟩,.int .i64 (hd.minor:Int),.slice fo nf gM,.int .i64 hd.length,.slice bo nb gK,.string ⟨#[]⟩,.string ⟨#[]⟩,.string ⟨#[]⟩,.slice po np jA,.int .i64 0] 72);have h1:=h.stay Lz Lo hb;have hg:=h1.gar;have hv:Ei c x k=[.pointer (some ⟨(x k).gp,0,none⟩),.string ⟨(c k).hd.method.toArray⟩,.string ⟨(c k).hd.target.toArray⟩,.int .i64 ((c k).hd.minor:Int),.slice (x k).fo (c k).hd.fields.length (x k).gM,.int .i64 (c k).hd.length,.slice (x k).bo (c k).body.length (x k).gK]:=rfl;have c1:=hg.at_ hk (j:=1) (by decide) (by rw[hv];rfl);have c2:=hg.at_ hk (j:=2) (by decide) (by rw[hv];rfl);have c3:=hg.at_ hk (j:=3) (by decide) (by rw[hv];rfl);have c4:=hg.at_ hk (j:=4) (by decide) (by rw[hv];rfl);have c5:=hg.at_ hk (j:=5) (by decide) (by rw[hv];rfl);have f1:=hg.fz (1+k*7+1);have f2:=hg.fz (1+k*7+2);have f3:=hg.fz (1+k*7+3);have f4:=hg.fz (1+k*7+4);have f5:=hg.fz (1+k*7+5)
 obtain⟨q,hq⟩:∃q,1+k*7=q:=⟨_,rfl⟩;have hS:=hg.aiR hk hv hq (.string ⟨hd.method.toArray⟩) (.string ⟨hd.target.toArray⟩) (.int .i64 (hd.minor:Int)) (.slice fo nf gM) (.int .i64 hd.length);rw[hq] at c1 c2 c3 c4 c5 f1 f2 f3 f4 f5 ⊢;have hF1:=hF.turns (Turns.of_below (S:=fun _=>False) hb) (fun _ _ e=>e);have HFin:Hid (∀wf,kR wf g gs (upd (Ei c x) k [.pointer (some ⟨(x k).gp,0,none⟩),.string ⟨hd.method.toArray⟩,.string ⟨hd.target.toArray⟩,.int .i64 (hd.minor:Int),.slice fo nf gM,.int .i64 hd.length,.slice (x k).bo (c k).body.length (x k).gK])->Turns (fun i=>i=g) (w.alloc (.cells #[.int .i64 1,.string ⟨hd.method.toArray⟩,.string ⟨hd.target.toArray⟩,.int .i64 (hd.minor:Int),.slice fo nf gM,.int .i64 hd.length,.slice bo nb gK,.string ⟨#[]⟩,.string ⟨#[]⟩,.string ⟨#[]⟩,.slice po np jA,.int .i64 0] 72)) wf->yG w0 κ g gs c z o k w ⟨s,hd,(c k).body,[]⟩ (.returned (.slice none 0 0)) wf):=fun wf hr hT=>by
  have h2:=h1.head k hd fo gM (by rw[hn];exact hF1);have h3:=h2.row Lz Lo hr hT;refine⟨⟨none,0,0,rfl,rfl,iH.nil _⟩,⟨_,upd x k { x k with fo:=fo,gM:=gM },?_,(Ext.refl κ _).jd hb.size .row⟩,(Turns.of_below hb).trans hT (fun i e _=>Or.inl (by rw[e];exact(h.held .row).2))⟩;rw[C9];have:Zj ⟨(c k).rq,hd,(c k).body⟩ { x k with fo:=fo,gM:=gM }=[.pointer (some ⟨(x k).gp,0,none⟩),.string ⟨hd.method.toArray⟩,.string ⟨hd.target.toArray⟩,.int .i64 (hd.minor:Int),.slice fo nf gM,.int .i64 hd.length,.slice (x k).bo (c k).body.length (x k).gK]:=by unfold Zj;rw[hn]
  rw[this];exact h3
 have HS:=H9 hS;clear h h1 hg hv hF hF1 hS hb hq hn;go_enter func35,ntmps35;go_wp2;go_ret;exact HFin.o _ HS.o.1 HS.o.2
theorem Ur (Lz:∀k,lQ (z k))(Lo:lQ o)(h:lD w0 κ g gs s (Ei c x) c x z o w)(hk:k<4)(b:av){fo bo po:ak}{gM nf nb gK np jA:Nat}(hn:b.length=nb)(hB:iH w bo gK b)(hl:(c k).body.length+nb<=100000):
 Calls prog 35 #[.pointer (some ⟨g,0,none⟩),.pointer (some ⟨g,1+k*7,none⟩),.agg #[.int .i64 2,.string ⟨#[]⟩,.string ⟨#[]⟩,.int .i64 0,.slice fo nf gM,.int .i64 0,.slice bo nb gK,.string ⟨#[]⟩,.string ⟨#[]⟩,.string ⟨#[]⟩,.slice po np jA,.int .i64 0]] w fun e w'=>yG w0 κ g gs c z o k w ⟨s,(c k).hd,(c k).body++b,[]⟩ e w':=by
 have hb:=(fJ _ w).alloc (aM _) (.cells #[.int .i64 2,.string ⟨#[]⟩,.string ⟨#[]⟩,.int .i64 0,.slice fo nf gM,.int .i64 0,.slice bo nb gK,.string ⟨#[]⟩,.string ⟨#[]⟩,.string ⟨#[]⟩,.slice po np jA,.int .i64 0] 72);have h1:=(h.stay Lz Lo hb).stay Lz Lo (gQ _ _);have hg:=h1.gar;have hv:Ei c x k=[.pointer (some ⟨(x k).gp,0,none⟩),.string ⟨(c k).hd.method.toArray⟩,.string ⟨(c k).hd.target.toArray⟩,.int .i64 ((c k).hd.minor:Int),.slice (x k).fo (c k).hd.fields.length (x k).gM,.int .i64 (c k).hd.length,.slice (x k).bo (c k).body.length (x k).gK]:=rfl;have c6:=hg.at_ hk (j:=6) (by decide) (by rw[hv];rfl);have HGr:=H9 (h1.held (.bd k) hk);have HB:=H9 ((hB.stay hb).stay (gQ _ _));obtain⟨j0,hj0,hy0,hy1,hy2⟩:=info_parts jO;have Hj:=H9 hj0;have M0:=H9 hy0;have M4:=H9 hy1;have M5:=H9 hy2
 obtain⟨q,hq⟩:∃q,1+k*7=q:=⟨_,rfl⟩;have Ap:Hid (∀oG kD w5,gZ w5 (fun i=>jN (c k).body (x k).bo=some i∨(w.alloc (.cells #[.int .i64 2,.string ⟨#[]⟩,.string ⟨#[]⟩,.int .i64 0,.slice fo nf gM,.int .i64 0,.slice bo nb gK,.string ⟨#[]⟩,.string ⟨#[]⟩,.string ⟨#[]⟩,.slice po np jA,.int .i64 0] 72)).drew.heap.size<=i) 5 oG kD ((c k).body++b)->Turns (fun i=>jN (c k).body (x k).bo=some i) (w.alloc (.cells #[.int .i64 2,.string ⟨#[]⟩,.string ⟨#[]⟩,.int .i64 0,.slice fo nf gM,.int .i64 0,.slice bo nb gK,.string ⟨#[]⟩,.string ⟨#[]⟩,.string ⟨#[]⟩,.slice po np jA,.int .i64 0] 72)).drew w5->(w5.cell? ⟨g,q+6,none⟩=some (.slice (x k).bo (c k).body.length (x k).gK)∧w5.frozen? ⟨g,q+6,none⟩=false)∧yG w0 κ g gs c z o k w ⟨s,(c k).hd,(c k).body++b,[]⟩ (.returned (.slice none 0 0)) (w5.setCell ⟨g,q+6,none⟩ (.slice oG ((c k).body.length+nb) kD))):=fun oG kD w5 Lv xQ=>by
  have h5:=h1.grow Lz Lo k hk Lv xQ;have hg5:=h5.gar;have hr:=hg5.set hk (j:=6) (by decide) (.slice oG ((c k).body.length+nb) kD);have hTs:Turns (fun i=>i=g) w5 (w5.setCell ⟨g,1+k*7+6,none⟩ (.slice oG ((c k).body.length+nb) kD)):=Turns.setCell _ _ _ _ rfl;have h6:=h5.row Lz Lo hr hTs;rw[hq] at h6 hTs;have cc6:=hg5.at_ hk (j:=6) (by decide) (by rw[hv];rfl);have ff6:=hg5.fz (1+k*7+6);rw[hq] at cc6 ff6;have hz5:=xQ.size;have hza:(w.alloc (.cells #[.int .i64 2,.string ⟨#[]⟩,.string ⟨#[]⟩,.int .i64 0,.slice fo nf gM,.int .i64 0,.slice bo nb gK,.string ⟨#[]⟩,.string ⟨#[]⟩,.string ⟨#[]⟩,.slice po np jA,.int .i64 0] 72)).drew.heap.size=w.heap.size+1:=by show(w.alloc _).heap.size=_;rw[fZ]
  refine⟨⟨cc6,ff6⟩,⟨⟨none,0,0,rfl,rfl,iH.nil _⟩,⟨jd (jd κ (w.alloc (.cells #[.int .i64 2,.string ⟨#[]⟩,.string ⟨#[]⟩,.int .i64 0,.slice fo nf gM,.int .i64 0,.slice bo nb gK,.string ⟨#[]⟩,.string ⟨#[]⟩,.string ⟨#[]⟩,.slice po np jA,.int .i64 0] 72)).drew.heap.size (.bd k)) w5.heap.size .row,upd x k { x k with bo:=oG,gK:=kD },?_,((Ext.refl κ _).jd (by omega) _).jd (by omega) _⟩,((Turns.of_below (then_ hb (gQ _ _))).trans xQ (fun i e _=>?_)).trans hTs (fun i e _=>Or.inl (by rw[e];exact(h.held .row).2))⟩⟩
  . rw[C9];have:Zj ⟨(c k).rq,(c k).hd,(c k).body++b⟩ { x k with bo:=oG,gK:=kD }=(Ei c x k).set 6 (.slice oG ((c k).body.length+nb) kD):=by unfold Zj Ei;rw[aW,hn];rfl
    rw[this];exact h6
  . have hne:(c k).body≠[]:=fun e2=>by unfold jN at e;rw[if_pos e2] at e;cases e
    rcases h.held (.bd k) hk with ⟨_,_,h3⟩ | ⟨h3,_⟩
    . unfold jN at e;rw[if_neg hne] at e;cases rD:(x k).bo with
      | none=>rw[rD] at e;cases e
      | some a=>rw[rD] at e;injection e with e;rw[<-e];exact Or.inr (Or.inr (h3 a rD))
    . exact absurd h3 hne
 rw[hq] at c6 ⊢;clear h h1 hg hv hB hb hq hj0 hy0 hy1 hy2;generalize hbl:(c k).body.length=nl at *;have HNl:=H9 hbl;clear hbl;have HHn:=H9 hn;clear hn;go_enter func35,ntmps35;go_upto_region 5 with fail
 go_region_law ((refine oh (by rfl) (.tmp 24) (.tmp 26) 31 (by rfl) 5 j0 underlying31 Hj.o M0.o M4.o M5.o (by rfl) (by rfl) HGr.o HNl.o HB.o HHn.o (by omega) ?_;intro bo5 cap5 w5 EA xQ;obtain⟨⟨d6,e6⟩,hm⟩:=Ap.o bo5 cap5 w5 EA xQ;have HM:=H9 hm;clear EA xQ hm))
 all_goals
  go_wp2;go_ret;exact HM.o
theorem XZ (Lz:∀k,lQ (z k))(Lo:lQ o)(h:lD w0 κ g gs s (Ei c x) c x z o w)(hk:k<4)(ok:Sr.Ok s)(hc:Gt.yh (c k)){fo bo po:ak}{gM nf nb gK np jA:Nat}(hl:(c k).body.length<=20000):
 Calls prog 35 #[.pointer (some ⟨g,0,none⟩),.pointer (some ⟨g,1+k*7,none⟩),.agg #[.int .i64 3,.string ⟨#[]⟩,.string ⟨#[]⟩,.int .i64 0,.slice fo nf gM,.int .i64 0,.slice bo nb gK,.string ⟨#[]⟩,.string ⟨#[]⟩,.string ⟨#[]⟩,.slice po np jA,.int .i64 0]] w fun e w'=>yG w0 κ g gs c z o k w (Gt.ev Tu.iG ⟨s,(c k).hd,(c k).body,[]⟩ .fin) e w':=by
 have hb:=(fJ _ w).alloc (aM _) (.cells #[.int .i64 3,.string ⟨#[]⟩,.string ⟨#[]⟩,.int .i64 0,.slice fo nf gM,.int .i64 0,.slice bo nb gK,.string ⟨#[]⟩,.string ⟨#[]⟩,.string ⟨#[]⟩,.slice po np jA,.int .i64 0] 72);have hza:(w.alloc (.cells #[.int .i64 3,.string ⟨#[]⟩,.string ⟨#[]⟩,.int .i64 0,.slice fo nf gM,.int .i64 0,.slice bo nb gK,.string ⟨#[]⟩,.string ⟨#[]⟩,.string ⟨#[]⟩,.slice po np jA,.int .i64 0] 72)).heap.size=w.heap.size+1:=fZ ..;have h0:=h.trim Lz Lo;have h1:=h0.stay Lz Lo hb;have Dc:=H9 (Ba h1.gar hk (rfl:Ei c x k=[.pointer (some ⟨(x k).gp,0,none⟩),.string ⟨(c k).hd.method.toArray⟩,.string ⟨(c k).hd.target.toArray⟩,.int .i64 ((c k).hd.minor:Int),.slice (x k).fo (c k).hd.fields.length (x k).gM,.int .i64 (c k).hd.length,.slice (x k).bo (c k).body.length (x k).gK]));have H0:=H9 h;have H1:=H9 h1;have HLz:=H9 Lz;have sS:=H9 Lo;have HCk:=H9 hc;have qy:=H9 ok
 have HZa:=H9 hza;have HBa:=H9 hb;obtain⟨R,hR⟩:∃R,R=Gt.over Tu.iG s (c k).hd (c k).body:=⟨_,rfl⟩;have HG:Hid (Gt.ev Tu.iG ⟨s,(c k).hd,(c k).body,[]⟩ .fin=⟨R.1,Rq.hd0,[],Gt.textOf R.2⟩):=by rw[hR];rfl
 have HRr:=H9 hR;rw[HG.o];clear h h0 h1 hza hb hR HG Lz Lo hc ok;go_enter func35,ntmps35;go_wp2_with fail
 refine Dc.o.mono ?_;rintro e w2 ⟨rfl,hr2,jV⟩;have h2:=H1.o.row HLz.o sS.o hr2 jV;have hz2:=jV.size;have hk1:∀i,i=g->jd κ w.heap.size .out i=.row:=fun i e=>by rw[e];exact(H1.o.held .row).2
 have hfl:jo w2 (x k).fo (x k).gM (c k).hd.fields.length (gU (Rq.ny (c k).hd.fields)):=((h2.held (.fl k)).1 hk).is;have hby:iH w2 (x k).bo (x k).gK (c k).body:=gZ.xg (h2.held (.bd k) hk);have Bg:=H9 (Ph (g:=g) (w:=w2) (m:=⟨(c k).hd.method.toArray⟩) (t:=⟨(c k).hd.target.toArray⟩) (mi:=((c k).hd.minor:Int)) (ln:=(c k).hd.length) ⟨h2.pow,h2.vN,fun i e=>h2.far i (by rw[e];intro h;cases h)⟩ (h2.held .jS) qy.o h2.gar.store (afl HCk.o.hd hfl) (c k).body rfl hby hl (by show(c k).hd.target.toArray.size<=_;rw[bM];have:=HCk.o.hd.target;omega));have H2:=H9 h2;have HT2:=H9 jV
 clear hr2 jV h2 hfl hby Dc;go_wp2_with fail
 refine Bg.o.mono ?_;rintro e w3 ⟨⟨fo3,afm,nf3,bo3,afn,nb3,rfl,hn3,Yy,hm3,hB3,_,_⟩,kC,pF⟩;rw[show Gt.answer Tu.iG s ⟨(c k).hd.method.toArray⟩ ⟨(c k).hd.target.toArray⟩ (Gt.ny (c k).hd.fields) (c k).body=R from HRr.o.symm] at hn3 Yy hm3 hB3 kC;rw[show Gt.answer Tu.iG s ⟨(c k).hd.method.toArray⟩ ⟨(c k).hd.target.toArray⟩ (Gt.ny (c k).hd.fields) (c k).body=R from HRr.o.symm];have h3:=H2.o.jS HLz.o sS.o kC pF;have hz3:=pF.size;have hsm:Gt.Small R.2:=by rw[HRr.o];exact Gt.zQ qy.o _ _ _ _
 have uy:=H9 (Iq w3 R.2 fo3 bo3 nf3 afm nb3 afn hsm hn3 Yy hm3 hB3 (h3.pow.stay h3.vN));have H3:=H9 h3;have HT3:=H9 pF
 clear hn3 Yy hm3 hB3 kC pF h3 hsm Bg;go_wp2_with fail
 refine uy.o.mono ?_;rintro e w4 ⟨⟨xS,cap4,n4,rfl,Ka,hB4⟩,hb4⟩;have h4:=H3.o.stay HLz.o sS.o hb4;have h5:=(h4.head k Rq.hd0 none 0 (nE.nil _ _)).nobody k;rw[qH,qH,iQ,iQ] at h5;have HFin:Hid (yG w0 κ g gs c z o k w ⟨R.1,Rq.hd0,[],Gt.textOf R.2⟩ (.returned (.slice xS n4 cap4)) w4):=by
  have hza:=HZa.o;refine⟨⟨xS,cap4,n4,rfl,Ka,hB4⟩,⟨_,upd x k { gp:=(x k).gp,fo:=none,gM:=0,bo:=none,gK:=0 },?_,(((Ext.refl κ w.heap.size).jd (aM _) .out).jd (m:=(w.alloc (.cells #[.int .i64 3,.string ⟨#[]⟩,.string ⟨#[]⟩,.int .i64 0,.slice fo nf gM,.int .i64 0,.slice bo nb gK,.string ⟨#[]⟩,.string ⟨#[]⟩,.string ⟨#[]⟩,.slice po np jA,.int .i64 0] 72)).heap.size) (by omega) .row).jd (m:=w2.heap.size) (by omega) .jS⟩,?_⟩
  . rw[C9];exact h5
  . refine(((Turns.of_below HBa.o).trans HT2.o (fun i e hi=>Or.inl ?_)).trans HT3.o (fun i e hi=>Or.inr (Or.inl ?_))).trans (Turns.of_below (S:=fun _=>False) hb4) (fun _ e _=>e.elim)
    . have:=hk1 i e;rw[jc hi] at this;exact this
    . have e:jd (jd κ w.heap.size .out) (w.alloc (.cells #[.int .i64 3,.string ⟨#[]⟩,.string ⟨#[]⟩,.int .i64 0,.slice fo nf gM,.int .i64 0,.slice bo nb gK,.string ⟨#[]⟩,.string ⟨#[]⟩,.string ⟨#[]⟩,.slice po np jA,.int .i64 0] 72)).heap.size .row i=.jS:=e;rw[jc (by omega),jc hi] at e;exact e
 clear h4 h5 hb4 hB4 hk1 Ka;go_wp2;go_ret;exact HFin.o
theorem Us (Lz:∀k,lQ (z k))(Lo:lQ o)(h:lD w0 κ g gs s (Ei c x) c x z o w)(hk:k<4)(cd:Nat){fo bo po:ak}{gM nf nb gK np jA:Nat}:
 Calls prog 35 #[.pointer (some ⟨g,0,none⟩),.pointer (some ⟨g,1+k*7,none⟩),.agg #[.int .i64 4,.string ⟨#[]⟩,.string ⟨#[]⟩,.int .i64 0,.slice fo nf gM,.int .i64 0,.slice bo nb gK,.string ⟨#[]⟩,.string ⟨#[]⟩,.string ⟨#[]⟩,.slice po np jA,.int .i64 (cd:Int)]] w fun e w'=>yG w0 κ g gs c z o k w ⟨s,Rq.hd0,[],Gt.textOf (Gt.sK cd)⟩ e w':=by
 have hb:=(fJ _ w).alloc (aM _) (.cells #[.int .i64 4,.string ⟨#[]⟩,.string ⟨#[]⟩,.int .i64 0,.slice fo nf gM,.int .i64 0,.slice bo nb gK,.string ⟨#[]⟩,.string ⟨#[]⟩,.string ⟨#[]⟩,.slice po np jA,.int .i64 (cd:Int)] 72);have hza:(w.alloc (.cells #[.int .i64 4,.string ⟨#[]⟩,.string ⟨#[]⟩,.int .i64 0,.slice fo nf gM,.int .i64 0,.slice bo nb gK,.string ⟨#[]⟩,.string ⟨#[]⟩,.string ⟨#[]⟩,.slice po np jA,.int .i64 (cd:Int)] 72)).heap.size=w.heap.size+1:=fZ ..;have h0:=h.trim Lz Lo;have h1:=h0.stay Lz Lo hb;have Dc:=H9 (Ba h1.gar hk (rfl:Ei c x k=[.pointer (some ⟨(x k).gp,0,none⟩),.string ⟨(c k).hd.method.toArray⟩,.string ⟨(c k).hd.target.toArray⟩,.int .i64 ((c k).hd.minor:Int),.slice (x k).fo (c k).hd.fields.length (x k).gM,.int .i64 (c k).hd.length,.slice (x k).bo (c k).body.length (x k).gK]));have hne:w.heap.size≠g:=by have:=h.gar.lt;omega
 have H1:=H9 h1;have HLz:=H9 Lz;have sS:=H9 Lo
 have HZa:=H9 hza;have HBa:=H9 hb;have HFa:=H9 (fun W=>Ov cd W);have nX:=H9 (fI w (.cells #[.int .i64 4,.string ⟨#[]⟩,.string ⟨#[]⟩,.int .i64 0,.slice fo nf gM,.int .i64 0,.slice bo nb gK,.string ⟨#[]⟩,.string ⟨#[]⟩,.string ⟨#[]⟩,.slice po np jA,.int .i64 (cd:Int)] 72));clear h h0 h1 hza hb Lz Lo;go_enter func35,ntmps35;go_wp2_with fail
 refine Dc.o.mono ?_;rintro e w2 ⟨rfl,hr2,jV⟩;have h2:=H1.o.row HLz.o sS.o hr2 jV;have hz2:=jV.size;have a11:w2.cell? ⟨w.heap.size,11,none⟩=some (.int .i64 (cd:Int)):=fK w2 _ 11 _ _ _ (jV.row nX.o hne);have hk1:∀i,i=g->jd κ w.heap.size .out i=.row:=fun i e=>by rw[e];exact(H1.o.held .row).2
 have H2:=H9 h2;have HT2:=H9 jV
 clear hr2 jV h2 Dc;go_wp2_with fail
 refine(HFa.o _).mono ?_;rintro e w3 ⟨rfl,hb3⟩;have h3:=H2.o.stay HLz.o sS.o hb3;have uy:=H9 (Iq w3 (Gt.sK cd) none none 0 0 0 0 (Gt.yx cd) rfl (jo.nil _) rfl (iH.nil _) (h3.pow.stay h3.vN));have H3:=H9 h3;have HB3:=H9 hb3
 clear h3 hb3;go_wp2_with fail
 refine uy.o.mono ?_;rintro e w4 ⟨⟨xS,cap4,n4,rfl,Ka,hB4⟩,hb4⟩;have h4:=H3.o.stay HLz.o sS.o hb4;have h5:=(h4.head k Rq.hd0 none 0 (nE.nil _ _)).nobody k;rw[qH,qH,iQ,iQ] at h5;have HFin:Hid (yG w0 κ g gs c z o k w ⟨s,Rq.hd0,[],Gt.textOf (Gt.sK cd)⟩ (.returned (.slice xS n4 cap4)) w4):=by
  have hza:=HZa.o;refine⟨⟨xS,cap4,n4,rfl,Ka,hB4⟩,⟨_,upd x k { gp:=(x k).gp,fo:=none,gM:=0,bo:=none,gK:=0 },?_,((Ext.refl κ w.heap.size).jd (aM _) .out).jd (m:=(w.alloc (.cells #[.int .i64 4,.string ⟨#[]⟩,.string ⟨#[]⟩,.int .i64 0,.slice fo nf gM,.int .i64 0,.slice bo nb gK,.string ⟨#[]⟩,.string ⟨#[]⟩,.string ⟨#[]⟩,.slice po np jA,.int .i64 (cd:Int)] 72)).heap.size) (by omega) .row⟩,?_⟩
  . rw[C9];exact h5
  . refine((Turns.of_below HBa.o).trans HT2.o (fun i e hi=>Or.inl ?_)).trans (Turns.of_below (S:=fun _=>False) (then_ HB3.o hb4)) (fun _ e _=>e.elim);have:=hk1 i e;rw[jc hi] at this;exact this
 clear h4 h5 hb4 hB4 hk1 Ka;go_wp2;go_ret;exact HFin.o
end
def YB (ao:ak)(cap:Nat)(es:List iN):Ob:=fun w S=>nR w S 72 ao cap es
theorem YB.law (ao:ak)(cap:Nat)(es:List iN):lQ (YB ao cap es):=⟨fun h ht hs=>nR.turns h ht hs,fun h hs=>nR.mono h hs⟩
def GrO (ao:ak)(cap:Nat)(l:av):Ob:=fun w S=>gZ w S 5 ao cap l
theorem GrO.law (ao:ak)(cap:Nat)(l:av):lQ (GrO ao cap l):=⟨fun h ht hs=>gZ.turns h ht hs,fun h hs=>gZ.mono h hs⟩
def X0 (k:Nat)(b:Ob):Nat->Ob:=fun j w S=>j=k->b w S
theorem X0.law {k:Nat}{b:Ob}(hb:lQ b):∀j,lQ (X0 k b j):=fun _=>⟨fun h ht hs e=>hb.turns (h e) ht hs,fun h hs e=>hb.mono (h e) hs⟩
theorem nR.lit {w:World}{S:Nat->Prop}{tE:Nat}{ao:ak}{cap:Nat}{es:List iN}(h:nR w S tE ao cap es)(h0:0<es.length):∃b o,ao=some ⟨b,o,none⟩∧∀j (hj:j<es.length),∃s,(∀i u,(es[j].cells s)[i]? = some u->w.cell? ⟨b,o+j*12+i,none⟩=some u)∧xZ w S es[j] s:=by
 obtain⟨ps,rfl,hO,_,hI⟩:=h;have hv:=hO.nQ;obtain⟨b,o,rfl,hc⟩:=hv.lit (by rw[mX];rw[aF] at h0;omega);refine⟨b,o,rfl,fun j hj=>?_⟩;have hj':j<ps.length:=by simpa using hj
 refine⟨ps[j].2,fun i u hi=>?_,?_⟩
 . rw[aG] at hi;have hl:i<12:=(aQ.1 hi).1;rw[<-rC _ j hj' i hl] at hi;have:=hc _ _ hi;rw[bL];exact this
 . rw[aG];exact(hI _ (aC hj')).mono (fun _ _ e=>e.1)
section
variable {w0 w w':World} {κ:Nat->Ej} {g gs:Nat} {s:Sr.Sh} {v:Nat->List Value} {c:Nat->Gt.Cn} {x:Nat->R8} {z:Nat->Ob} {o o':Ob} {k:Nat}
theorem lD.answered (Lz:∀k,lQ (z k))(Lo:lQ o)(Lo':lQ o')(h:lD w0 κ g gs s v c x z o w){T N:Nat->Prop}(ht:Turns T w w')(hT:∀k,T k->κ k=.ret)(hY:o' w' N)(hN:∀k,N k->κ k=.ret∨w.heap.size<=k):lD w0 (jd κ w.heap.size .ret) g gs s v c x z o' w' :=
 ⟨h.held.act (ou Lz Lo) ht hT (X':=FY g gs s v 4 c x z o') Lo' hY hN (fun d hd=>by cases d <;> first | rfl | exact absurd rfl hd),h.pow,h.vN.trans (ht.below (fun k e=>h.far k (by rw[hT k e];intro h;cases h)) h.vN.size),PG h.far h.vN.size⟩
theorem ac1 (c:Nat->Gt.Cn)(x:Nat->R8)(k:Nat)(r:Rq.St):Ei (upd c k { c k with rq:=r }) x=Ei c x:=by
 funext i;unfold Ei upd;split
 . next h=>subst h;rfl
 . rfl
theorem lD.fed (h:lD w0 κ g gs s v c x noZ Lc w)(hk:k<4){l:av}{e:Ending}(hF:PE w (fun i=>κ i=.rq k) (x k).gp (c k).rq l e w'):∃ao cap n J6,e=.returned (.slice ao n cap)∧n=(Rq.join (Rq.outs (c k).rq l)).length∧lD w0 J6 g gs s v (upd c k { c k with rq:=Rq.fold (c k).rq l }) x (X0 k (YB ao cap ((Rq.join (Rq.outs (c k).rq l)).map Rq.Ev.d))) Lc w'∧Turns (fun i=>κ i=.rq k) w w'∧∀i,i<w.heap.size->J6 i=κ i∨κ i≠.out:=by
 obtain⟨ao,cap,n,S',So',he,hn,hR,hO,hd,hS,hSo,hT⟩:=hF;obtain⟨J6,h1,h2,h3⟩:=h.held.split (ou (fun _=>lQ.nG) lQ.nG) (p:=.rq k) (e:=.fl k) (by intro h;cases h) (X':=FY g gs s v 4 (upd c k { c k with rq:=Rq.fold (c k).rq l }) x (X0 k (YB ao cap ((Rq.join (Rq.outs (c k).rq l)).map Rq.Ev.d))) Lc) hT (fun _ e=>e) (P:=S') (E:=So') (fun _=>by rw[iQ];exact hR) (ou (X0.law (YB.law _ _ _)) lQ.nG _) hd hS hSo
  (fun S hX hs1 hs2=>⟨fun hk=>by rw[iQ];exact(hX.1 hk).mono (fun i _ e=>hs1 i e),fun _=>hO.all.mono (fun i _ e=>hs2 i e)⟩)
  (fun d h1 h2 => by
   cases d with
   | row=>rfl
   | jS=>rfl
   | rq j =>
     have e:j≠k:=fun e=>h1 (by rw[e]);simp only[FY];rw[upd_ne _ _ e]
   | fl j =>
     have e:j≠k:=fun e=>h2 (by rw[e]);simp only[FY];rw[upd_ne _ _ e];funext W S;unfold X0;simp[e]
   | bd j =>
     by_cases e:j=k
     . subst e;simp only[FY,iQ]
     . simp only[FY];rw[upd_ne _ _ e]
   | ret=>rfl
   | out=>rfl)
 refine⟨ao,cap,n,J6,he,hn,⟨h1,h.pow,h.vN.trans (hT.below (fun i e=>h.far i (by rw[e];intro h;cases h)) h.vN.size),fun i hi=>?_⟩,hT,fun i hi=>?_⟩
 . rcases aU i w.heap.size with hl | hl
   . rcases h2 i hl with e | e
     . exact h.far i (by rw[<-e];exact hi)
     . exact h.far i (by rw[e.1];intro h;cases h)
   . have:=h.vN.size;omega
 . rcases h2 i hi with e | e
   . exact Or.inl e
   . exact Or.inr (by rw[e.1];intro h;cases h)
end
structure Q6 (S:Nat->Prop)(w:World)(g gs:Nat)(c:Nat->Gt.Cn)(k:Nat)(r:Sr.Sh×Gt.Cn×av)(code:Int)(e:Ending)(w':World):Prop where
 ret:∃(ao:ak) (cap n:Nat),e=.returned (.tuple #[.slice ao n cap,.int .i64 code])∧n=r.2.2.length∧iH w' ao cap r.2.2
 at_:jC w' (gN S w) g gs r.1 (upd c k r.2.1)
 turns:Turns S w w'
section
variable {w0 w:World} {S:Nat->Prop} {g gs:Nat} {s:Sr.Sh} {c:Nat->Gt.Cn}
theorem X3 {κ:Nat->Ej}{x:Nat->R8}{z:Nat->Ob}{o:Ob}{k:Nat}(Lz:∀k,lQ (z k))(Lo:lQ o)(h:lD w0 κ g gs s (Ei c x) c x z o w)(hk:k<4)(ok:Sr.Ok s)(hc:Gt.yh (c k))(ev:Rq.Ev)(es:EvS)(hE:xZ w (fun i=>κ i=.fl k) ev.d es)(hl:(c k).body.length+ev.d.bytes.length<=20000):
 Calls prog 35 #[.pointer (some ⟨g,0,none⟩),.pointer (some ⟨g,1+k*7,none⟩),.agg #[.int .i64 ev.d.kind,.string ev.d.method,.string ev.d.target,.int .i64 ev.d.minor,.slice es.fo ev.d.fields.length es.gM,.int .i64 ev.d.length,.slice es.bo ev.d.bytes.length es.gK,.string ev.d.kW,.string ev.d.kJ,.string ev.d.ptype,.slice es.po ev.d.iw.length es.jA,.int .i64 ev.d.code]] w fun e w'=>yG w0 κ g gs c z o k w (Gt.ev Tu.iG ⟨s,(c k).hd,(c k).body,[]⟩ ev) e w':=by
 cases ev with
 | head hd=>exact Uq Lz Lo h hk hd (Rq.kV _).symm hE.fields
 | body b=>exact Ur Lz Lo h hk b rfl hE.bytes.is (by have:(Rq.Ev.body b).d.bytes.length=b.length:=rfl;omega)
 | fin=>exact XZ Lz Lo h hk ok hc (by omega)
 | fail cd=>exact Us Lz Lo h hk cd
theorem Gt.X4 (s:Sr.Sh)(hd:Rq.Hd)(body out:av)(e:Rq.Ev):Gt.ev Tu.iG ⟨s,hd,body,out⟩ e={ Gt.ev Tu.iG ⟨s,hd,body,[]⟩ e with out:=out++(Gt.ev Tu.iG ⟨s,hd,body,[]⟩ e).out }:=by
 have:=Gt.VR Tu.iG ⟨s,hd,body,[]⟩ out e;rw[show({ (⟨s,hd,body,[]⟩:Gt.Gs) with out:=out++[] }:Gt.Gs)=⟨s,hd,body,out⟩ from by rw[bW]] at this;exact this
structure MI (w0:World)(S:Nat->Prop)(w:World)(g gs:Nat)(c:Nat->Gt.Cn)(k:Nat)(ro:Rq.St)(eo:ak)(ec:Nat)(es:List Rq.Ev)(G:Gt.Gs)(ao:ak)(cap:Nat)(wr:World):Prop where
 at_:∃κ x,lD w0 κ g gs G.s (Ei (upd c k ⟨ro,G.hd,G.body⟩) x) (upd c k ⟨ro,G.hd,G.body⟩) x (X0 k (YB eo ec (es.map Rq.Ev.d))) (GrO ao cap G.out) wr∧∀i,κ i≠.out->gN S w i
 turns:Turns S w wr
 ok:Sr.Ok G.s
 hd:Rq.nH G.hd
theorem abm:∀{s:Sr.Sh},Sr.Ok s->∀m t l body,Sr.Ok (Tu.iG s m t l body).1:=fun h m t l b=>Tu.Qv h m t l b
theorem aaf {κ:Nat->Ej}{k:Nat}{ro:Rq.St}{eo:ak}{ec:Nat}{es:List Rq.Ev}{G G':Gt.Gs}{ao:ak}{cap:Nat}{wb w5:World}{e:Ending}(hS:∀i,κ i≠.out->gN S w i)(hT:Turns S w wb)(hM:yG w0 κ g gs (upd c k ⟨ro,G.hd,G.body⟩) (X0 k (YB eo ec (es.map Rq.Ev.d))) (GrO ao cap G.out) k wb G' e w5)(ok:Sr.Ok G'.s)(hhd:Rq.nH G'.hd):
 ∃(CF:ak) (cap5 n5:Nat) (B:Nat->Prop),e=.returned (.slice CF n5 cap5)∧n5=G'.out.length∧iH w5 CF cap5 G'.out∧gZ w5 B 5 ao cap G.out∧∀MJ cap6 w6,gZ w6 (fun i=>jN G.out ao=some i∨w5.heap.size<=i) 5 MJ cap6 (G.out++G'.out)->Turns (fun i=>jN G.out ao=some i) w5 w6->MI w0 S w g gs c k ro eo ec es { G' with out:=G.out++G'.out } MJ cap6 w6:=by
 obtain⟨CF,cap5,n5,he,hn,hB⟩:=hM.ret;obtain⟨κ5,x5,h5,hE⟩:=hM.at_;have hz5:=hM.turns.size;have hzb:=hT.size;rw[qH,iQ] at h5;have sj:gZ w5 (fun i=>κ5 i=.ret) 5 ao cap G.out:=h5.held .ret;have hin:∀i,jN G.out ao=some i->κ5 i=.ret:=fun i e=>by
  unfold jN at e;split at e
  . cases e
  . rename_i hne;rcases sj with ⟨_,_,h3⟩ | ⟨h1,_⟩
    . cases rD:ao with
      | none=>rw[rD] at e;cases e
      | some a=>rw[rD] at e;injection e with e;rw[<-e];exact h3 a rD
    . exact absurd h1 hne
 have hS5:∀i,κ5 i≠.out->gN S w i:=fun i hi=>by
  rcases aU i wb.heap.size with hl | hl
  . exact hS i (by rw[<-hE i hl];exact hi)
  . exact Or.inr (by omega)
 refine⟨CF,cap5,n5,_,he,hn,hB,sj,fun MJ cap6 w6 Ot qZ=>⟨⟨jd κ5 w5.heap.size .ret,x5,h5.answered (X0.law (YB.law _ _ _)) (GrO.law _ _ _) (GrO.law _ _ _) qZ hin Ot (fun i e=>?_),fun i hi=>?_⟩,(hT.trans hM.turns (fun i e hi=>?_)).trans qZ (fun i e hi=>?_),ok,hhd⟩⟩
 . rcases e with e | e
   . exact Or.inl (hin i e)
   . exact Or.inr e
 . rcases aU i w5.heap.size with hl | hl
   . rw[jc hl] at hi;exact hS5 i hi
   . exact Or.inr (by omega)
 . have hn:κ i≠.out:=by rcases e with e | e | e <;> (rw[e];intro h;cases h)
   rcases hS i hn with h | h
   . exact h
   . omega
 . rcases hS5 i (by rw[hin i e];intro h;cases h) with h | h
   . exact h
   . omega
theorem MI.done {k:Nat}{ro:Rq.St}{eo:ak}{ec:Nat}{es:List Rq.Ev}{G:Gt.Gs}{ao:ak}{cap:Nat}{wr:World}(h:MI w0 S w g gs c k ro eo ec es G ao cap wr):iH wr ao cap G.out∧jC wr (gN S w) g gs G.s (upd c k ⟨ro,G.hd,G.body⟩)∧Turns S w wr:=by
 obtain⟨κ,x,hG,hS⟩:=h.at_;have hr:gZ wr (fun i=>κ i=.ret) 5 ao cap G.out:=hG.held .ret;refine⟨hr.xg,⟨κ,x,fun d=>?_,hS⟩,h.turns⟩;have hd:=hG.held d;cases d with
 | fl j=>exact⟨hd.1,trivial⟩
 | ret=>trivial
 | row=>exact hd
 | jS=>exact hd
 | rq j=>exact hd
 | bd j=>exact hd
 | out=>trivial
end
section
variable {w0 w:World} {S:Nat->Prop} {g gs:Nat} {s:Sr.Sh} {c:Nat->Gt.Cn}
theorem MK (k:Int)(hk:k<0∨4<=k)(bo:ak)(gK n:Nat)(w:World):
 Calls prog 13 #[.pointer (some ⟨g,0,none⟩),.int .i64 k,.slice bo n gK] w fun e w'=>e=.returned (.tuple #[.slice none 0 0,.int .i64 1])∧w'=w:=by
 have HI:=H9 (fun W=>uW k W);rw[show(decide (0<=k)&&decide (k<4))=false from by rcases hk with h | h <;> simp <;> omega] at HI;go_enter func13,ntmps13;go_wp2_with fail
 refine(HI.o _).mono ?_;rintro e w1 ⟨rfl,hw⟩;subst hw;go_wp2;go_ret2;exact⟨rfl,rfl⟩
theorem Bq (hP:nA w0)(hW:aj w0 w)(hF:∀i,S i->w0.heap.size<=i)(h:jC w S g gs s c)(ok:Sr.Ok s)(k:Nat)(hk:k<4)(hc:Gt.yh (c k))(l:av){bo:ak}{gK n:Nat}(hB:iH w bo gK l)(rD:l≠[]->∀a,bo=some a->¬S a.block)(hn:l.length=n)(hl:(c k).body.length+n<=20000):
 Calls prog 13 #[.pointer (some ⟨g,0,none⟩),.int .i64 (k:Int),.slice bo n gK] w fun e w'=>Q6 S w g gs c k (Gt.feed Tu.iG s (c k) l) (if (c k).rq.ph=4 then 18 else 0) e w':=by
 have HI:=H9 (fun W=>uW (k:Int) W);rw[show(decide ((0:Int)<=(k:Int))&&decide ((k:Int)<4))=true from by simp;omega] at HI;obtain⟨κ,x,hH,hS⟩:=h;have hG0:lD w0 κ g gs s (Ei c x) c x noZ Lc w:=⟨hH,hP,hW,fun i e=>hF i (hS i e)⟩;have cg:w.cell? ⟨g,1+k*7,none⟩=some (.pointer (some ⟨(x k).gp,0,none⟩)):=hG0.gar.at_ hk (j:=0) (u:=.pointer (some ⟨(x k).gp,0,none⟩)) (by decide) rfl;have HD:=H9 (Ec w (fun i=>κ i=.rq k) (x k).gp (c k).rq (hH (.rq k) hk));have k0:(0:Int)<=(k:Int):=by omega
 have k4:(k:Int)<4:=by omega
 by_cases h4:(c k).rq.ph=4
 . rw[if_pos h4];rw[aI h4] at HD;have hfd:Gt.feed Tu.iG s (c k) l=(s,c k,[]):=by
    have:=Rq.lT l (c k).rq h4;unfold Gt.feed Gt.DY;rw[this.1,this.2];rfl
   rw[hfd];have HFin:Hid (Q6 S w g gs c k (s,c k,[]) 18 (.returned (.tuple #[.slice none 0 0,.int .i64 18])) w):=⟨⟨none,0,0,rfl,rfl,iH.nil _⟩,by rw[upd_same];exact jC.mono ⟨κ,x,hH,hS⟩ (fun i _ e=>Or.inl e),Turns.refl _ _⟩;clear hH hS hG0 hfd h4 hB rD hc ok;go_enter func13,ntmps13;go_wp2_with fail
   refine(HI.o _).mono ?_;rintro e w1 ⟨rfl,hw⟩;rw[hw];clear hw;go_wp2_with fail
   refine HD.o.mono ?_;rintro e w1 ⟨rfl,hw⟩;rw[hw];clear hw;go_wp2;go_ret2;exact HFin.o
 . rw[if_neg h4];rw[aJ h4] at HD;have HFe:=H9 (MH w (fun i=>κ i=.rq k) (x k).gp (c k).rq l bo gK n (hH (.rq k) hk) hc.rq hB (fun hne a e e2=>rD hne a e (hS _ (by rw[e2];intro h;cases h))) hn (by omega));have HG0:=H9 hG0;have HS:=H9 hS
   clear hH hS hG0 hB rD h4;go_enter func13,ntmps13;go_wp2_with fail
   refine(HI.o _).mono ?_;rintro e w1 ⟨rfl,hw⟩;rw[hw];clear hw;go_wp2_with fail
   refine HD.o.mono ?_;rintro e w1 ⟨rfl,hw⟩;rw[hw];clear hw;go_wp2_with fail
   refine HFe.o.mono ?_;rintro e w1 hFr;obtain⟨eo,ec,ne,κ1,rfl,hne,hG1,hT1,hE1⟩:=HG0.o.fed hk hFr;have hS1:∀i,κ1 i≠.out->gN S w i:=fun i hi=>by
    rcases aU i w.heap.size with hl | hl
    . rcases hE1 i hl with e | e
      . exact Or.inl (HS.o i (by rw[<-e];exact hi))
      . exact Or.inl (HS.o i e)
    . exact Or.inr hl
   rw[<-ac1 c x k (Rq.fold (c k).rq l)] at hG1;have nO:=Rq.Qw (c k).rq l;obtain⟨es,hes⟩:∃es,es=Rq.join (Rq.outs (c k).rq l):=⟨_,rfl⟩;have abn:∀e∈es,e.uJ:=by rw[hes];exact Rq.oM _ (Rq.qU l hc.rq)
   have oW:Hid (Gt.feed Tu.iG s (c k) l=((Gt.evs Tu.iG ⟨s,(c k).hd,(c k).body,[]⟩ es).s,⟨Rq.fold (c k).rq l,(Gt.evs Tu.iG ⟨s,(c k).hd,(c k).body,[]⟩ es).hd,(Gt.evs Tu.iG ⟨s,(c k).hd,(c k).body,[]⟩ es).body⟩,(Gt.evs Tu.iG ⟨s,(c k).hd,(c k).body,[]⟩ es).out)):=by rw[hes,Gt.vZ];rfl
   rw[<-hes] at hne hG1 nO;have hR0:MI w0 S w g gs c k (Rq.fold (c k).rq l) eo ec es ⟨s,(c k).hd,(c k).body,[]⟩ none 0 w1:=⟨⟨κ1,x,⟨fun d=>by
    have hd:=hG1.held d;cases d with
    | ret =>
      show gZ w1 (fun i=>κ1 i=.ret) 5 none 0 [];exact gZ.nil _ _ _
    | fl j=>exact hd
    | row=>exact hd
    | jS=>exact hd
    | rq j=>exact hd
    | bd j=>exact hd
    | out=>trivial,hG1.pow,hG1.vN,hG1.far⟩,hS1⟩,hT1.mono (fun i e=>HS.o i (by rw[e];intro h;cases h)),ok,hc.hd⟩
   have hbd:∀i (hi:i<es.length),(Gt.evs Tu.iG ⟨s,(c k).hd,(c k).body,[]⟩ (es.take i)).body.length+es[i].d.bytes.length<=20000:=fun i hi=>by
    have h1:=Gt.Ep Tu.iG (es.take i) ⟨s,(c k).hd,(c k).body,[]⟩;have h2:Rq.jE (es.take i)+es[i].d.bytes.length<=Rq.jE es:=by
     conv=>rhs;rw[<-bX i es,Rq.mO,aD hi]
     generalize es[i]=e;cases e with
     | body b=>show _+b.length<=_+(b.length+_);omega
     | head _=>exact Nat.add_le_add_left (aA _) _
     | fin=>exact Nat.add_le_add_left (aA _) _
     | fail _=>exact Nat.add_le_add_left (aA _) _
    have h3:=nO.2.1;have h4:(⟨s,(c k).hd,(c k).body,[]⟩:Gt.Gs).body.length=(c k).body.length:=rfl;omega
   have hol:∀i,i<=es.length->(Gt.evs Tu.iG ⟨s,(c k).hd,(c k).body,[]⟩ (es.take i)).out.length<=6000*40000:=fun i hi=>by
    have h1:=Gt.wJ (es.take i) (g:=⟨s,(c k).hd,(c k).body,[]⟩) ok;rw[bY] at h1;have h3:=nO.1;have h4:(⟨s,(c k).hd,(c k).body,[]⟩:Gt.Gs).out.length=0:=rfl;omega
   have hlen:es.length<=40000:=by have:=nO.1;omega
   have afo:Rq.Good (Rq.fold (c k).rq l):=hc.rq.fold l;have J7:=H9 hR0;have EC:=H9 hbd;have HOl:=H9 hol;have FT:=H9 abn;have HRo:=H9 afo
   obtain⟨j0,hj0,hy0,hy1,hy2⟩:=info_parts jO;have Hj:=H9 hj0;have M0:=H9 hy0;have M4:=H9 hy1;have M5:=H9 hy2
   subst hne;clear hG1 hT1 hE1 hS1 nO abn hes hR0 hbd hol afo HG0 HFe HI HD hFr cg hj0 hy0 hy1 hy2;generalize Rq.fold (c k).rq l=ro at *;generalize aiV:(⟨s,(c k).hd,(c k).body,[]⟩:Gt.Gs)=G0 at *;go_wp2;go_loopw [9,37] (fun vo vi wr=>∃(i m:Nat) (ao:ak) (cap:Nat),i<=es.length∧vi=.int .i64 i∧vo=.slice ao m cap∧m=(Gt.evs Tu.iG G0 (es.take i)).out.length∧MI w0 S w g gs c k ro eo ec es (Gt.evs Tu.iG G0 (es.take i)) ao cap wr) (fun _ vi _=>es.length-(intOf vi).toNat)
   case atStart=>exact⟨0,0,none,0,aA _,rfl,rfl,by rw[<-aiV];rfl,J7.o⟩
   case round =>
    obtain⟨i,m,ao,cap,hi,rfl,rfl,hm,hR⟩:=hrel;by_cases hlt:i<es.length
    . have hlt':(i:Int)<es.length:=by omega
      have O3:Gt.evs Tu.iG G0 (es.take (i+1))=Gt.ev Tu.iG (Gt.evs Tu.iG G0 (es.take i)) es[i]:=by rw[bO hlt,Gt.DX];rfl
      have hbi:=EC.o i hlt;have hoi:=HOl.o (i+1) (by omega);have aiW:=HOl.o i (by omega);have hfi:=FT.o es[i] (aC hlt);obtain⟨κ,x2,hG,hS2⟩:=hR.at_;have hEv:nR wr (fun j=>κ j=.fl k) 72 eo ec (es.map Rq.Ev.d):=(hG.held (.fl k)).2 rfl;have hcap:es.length<=ec:=by have:=hEv.abu.1;rw[aF] at this;exact this
      obtain⟨b,o,rfl,afp⟩:=hEv.lit (by rw[aF];omega);obtain⟨sl,hcl,hIn⟩:=afp i (by rw[aF];exact hlt);rw[aG] at hcl hIn;generalize Gt.evs Tu.iG G0 (es.take i)=G at *;rw[O3] at hoi;generalize hev:es[i]=ev at *;have jq:=(fJ _ wr).alloc (aM _) (.cells #[.int .i64 ev.d.kind,.string ev.d.method,.string ev.d.target,.int .i64 ev.d.minor,.slice sl.fo ev.d.fields.length sl.gM,.int .i64 ev.d.length,.slice sl.bo ev.d.bytes.length sl.gK,.string ev.d.kW,.string ev.d.kJ,.string ev.d.ptype,.slice sl.po ev.d.iw.length sl.jA,.int .i64 ev.d.code] 72);have hGA:=hG.stay (X0.law (YB.law _ _ _)) (GrO.law _ _ _) jq;have afq:=hIn.turns (Turns.of_below (S:=fun _=>False) jq) (fun _ _ e=>e);have HMt:=H9 (X3 (X0.law (YB.law _ _ _)) (GrO.law _ _ _) hGA hk hR.ok (by rw[iQ];exact⟨HRo.o,hR.hd⟩) ev sl afq (by rw[iQ];exact hbi));rw[iQ] at HMt;have hNx:=fun(w5:World) (e5:Ending)=>aaf (e:=e5) (w5:=w5) (G:=G) (G':=Gt.ev Tu.iG ⟨G.s,G.hd,G.body,[]⟩ ev) (κ:=κ) (es:=es) (eo:=some ⟨b,o,none⟩) (ec:=ec) (ao:=ao) (cap:=cap) (ro:=ro) (k:=k) (c:=c) (g:=g) (gs:=gs) (w0:=w0) hS2 (hR.turns.trans (Turns.of_below (S:=fun _=>False) jq) (fun _ e _=>e.elim));have hfr:Gt.ev Tu.iG G ev={ Gt.ev Tu.iG ⟨G.s,G.hd,G.body,[]⟩ ev with out:=G.out++(Gt.ev Tu.iG ⟨G.s,G.hd,G.body,[]⟩ ev).out }:=Gt.X4 G.s G.hd G.body G.out ev;have hok':Sr.Ok (Gt.ev Tu.iG ⟨G.s,G.hd,G.body,[]⟩ ev).s:=Gt.VU Tu.iG abm (g:=⟨G.s,G.hd,G.body,[]⟩) hR.ok ev;have afr:Rq.nH (Gt.ev Tu.iG ⟨G.s,G.hd,G.body,[]⟩ ev).hd:=Gt.aaH Tu.iG (g:=⟨G.s,G.hd,G.body,[]⟩) hR.hd hfi;have hsum:G.out.length+(Gt.ev Tu.iG ⟨G.s,G.hd,G.body,[]⟩ ev).out.length<=6000*40000:=by rw[<-aW];rw[hfr] at hoi;exact hoi
      have c0:wr.cell? ⟨b,o+i*12,none⟩=some (.int .i64 ev.d.kind):=hcl 0 _ rfl;have c1:wr.cell? ⟨b,o+i*12+1,none⟩=some (.string ev.d.method):=hcl 1 _ rfl;have c2:wr.cell? ⟨b,o+i*12+2,none⟩=some (.string ev.d.target):=hcl 2 _ rfl;have c3:wr.cell? ⟨b,o+i*12+3,none⟩=some (.int .i64 ev.d.minor):=hcl 3 _ rfl;have c4:wr.cell? ⟨b,o+i*12+4,none⟩=some (.slice sl.fo ev.d.fields.length sl.gM):=hcl 4 _ rfl;have c5:wr.cell? ⟨b,o+i*12+5,none⟩=some (.int .i64 ev.d.length):=hcl 5 _ rfl;have c6:wr.cell? ⟨b,o+i*12+6,none⟩=some (.slice sl.bo ev.d.bytes.length sl.gK):=hcl 6 _ rfl;have c7:wr.cell? ⟨b,o+i*12+7,none⟩=some (.string ev.d.kW):=hcl 7 _ rfl;have c8:wr.cell? ⟨b,o+i*12+8,none⟩=some (.string ev.d.kJ):=hcl 8 _ rfl;have c9:wr.cell? ⟨b,o+i*12+9,none⟩=some (.string ev.d.ptype):=hcl 9 _ rfl;have c10:wr.cell? ⟨b,o+i*12+10,none⟩=some (.slice sl.po ev.d.iw.length sl.jA):=hcl 10 _ rfl;have c11:wr.cell? ⟨b,o+i*12+11,none⟩=some (.int .i64 ev.d.code):=hcl 11 _ rfl;have OJ:=H9 hNx;have tF:=H9 O3;have HFr:=H9 hfr;have JZ:=H9 hok';have aiY:=H9 afr;have HM:=H9 hm
      clear hR hG hS2 hEv afp hcl hIn jq hGA afq hNx O3 hfr hok' afr hbi hoi aiW hfi hm;generalize ev.d=ed at *;generalize Gt.ev Tu.iG ⟨G.s,G.hd,G.body,[]⟩ ev=G' at *;go_wp2_with fail
      refine HMt.o.mono ?_;rintro e w5 hMt;obtain⟨CF,cap5,n5,B,rfl,U2,A9,afs,hfin⟩:=OJ.o w5 e hMt JZ.o aiY.o;have qY:=H9 A9;have HGr:=H9 afs;have Oq:=H9 hfin;have HN5:=H9 U2.symm;have U0:=H9 HM.o.symm
      have hml:m+n5<=240000000:=by rw[U2,HM.o];exact hsum
      clear hMt A9 afs hfin U2 HMt OJ hsum;go_wp2_with (at_builtin;refine nD rfl (.tmp 41) (.tmp 45) 31 rfl 5 j0 underlying31 Hj.o M0.o M4.o M5.o rfl rfl HGr.o U0.o qY.o HN5.o (by omega) ?_;intro MJ cap6 w6 vI qZ;have HF6:=H9 (Oq.o MJ cap6 w6 vI qZ);clear vI qZ)
      go_roundw
      case rel=>exact⟨i+1,m+n5,MJ,cap6,by omega,by go_num,rfl,by rw[tF.o,HFr.o];show _=(G.out++G'.out).length;rw[aW,HM.o,HN5.o],by rw[tF.o,HFr.o];exact HF6.o⟩
      case measure=>simp[intOf];omega
    . obtain rfl:i=es.length:=by omega
      rw[bP] at hm hR;obtain⟨oC,hG9,sD⟩:=hR.done;have HFin:Hid (Q6 S w g gs c k (Gt.feed Tu.iG s (c k) l) 0 (.returned (.tuple #[.slice ao m cap,.int .i64 0])) wr):=by
       rw[oW.o];exact⟨⟨ao,cap,m,rfl,hm,oC⟩,hG9,sD⟩
      clear hm hR oC hG9 sD;go_wp2;go_ret2;exact HFin.o
end
section
variable {w0 w:World} {S:Nat->Prop} {g gs:Nat} {s:Sr.Sh} {c:Nat->Gt.Cn}
theorem Ut (h:jC w S g gs s c)(k:Nat)(hk:k<4):
 Calls prog 20 #[.pointer (some ⟨g,0,none⟩),.int .i64 (k:Int)] w fun e w'=>e=.returned (.bool (Rq.busy (c k).rq))∧w'=w:=by
 have HI:=H9 (fun W=>uW (k:Int) W);rw[show(decide ((0:Int)<=(k:Int))&&decide ((k:Int)<4))=true from by simp;omega] at HI;obtain⟨κ,x,hH,hS⟩:=h;have cg:w.cell? ⟨g,1+k*7,none⟩=some (.pointer (some ⟨(x k).gp,0,none⟩)):=(hH .row).1.at_ hk (j:=0) (by decide) rfl;have HB:=H9 (X5 w (fun i=>κ i=.rq k) (x k).gp (c k).rq (hH (.rq k) hk));have k0:(0:Int)<=(k:Int):=by omega
 have k4:(k:Int)<4:=by omega
 clear hH hS;generalize Rq.busy (c k).rq=bb at *;go_enter func20,ntmps20;go_wp2_with fail
 refine(HI.o _).mono ?_;rintro e w1 ⟨rfl,hw⟩;rw[hw];clear hw;go_wp2_with fail
 refine HB.o.mono ?_;rintro e w1 ⟨rfl,hw⟩;rw[hw];clear hw;go_wp2;go_ret;exact⟨rfl,rfl⟩
def aag (gp:Nat):R8:=⟨gp,none,0,none,0⟩
structure FB (S:Nat->Prop)(w:World)(g gs:Nat)(s:Sr.Sh)(n:Nat)(wr:World):Prop where
 at_:∃κ v x,Held (FY g gs s v n (fun _=>Gt.qD) x noZ Lc) κ wr∧(∀k,k<n->v k=Zj Gt.qD (x k))∧∀i,κ i≠.out->gN S w i
 turns:Turns S w wr
theorem kR.ac2 {v:Nat->List Value}(h:kR w g gs v){k:Nat}(hk:k<4)(y0 y1 y2 y3 y4 y5 y6:Value):
 kR (((((((w.setCell ⟨g,1+k*7,none⟩ y0).setCell ⟨g,1+k*7+1,none⟩ y1).setCell ⟨g,1+k*7+2,none⟩ y2).setCell ⟨g,1+k*7+3,none⟩ y3).setCell ⟨g,1+k*7+4,none⟩ y4).setCell ⟨g,1+k*7+5,none⟩ y5).setCell ⟨g,1+k*7+6,none⟩ y6) g gs (upd v k [y0,y1,y2,y3,y4,y5,y6])∧Turns (fun i=>i=g) w (((((((w.setCell ⟨g,1+k*7,none⟩ y0).setCell ⟨g,1+k*7+1,none⟩ y1).setCell ⟨g,1+k*7+2,none⟩ y2).setCell ⟨g,1+k*7+3,none⟩ y3).setCell ⟨g,1+k*7+4,none⟩ y4).setCell ⟨g,1+k*7+5,none⟩ y5).setCell ⟨g,1+k*7+6,none⟩ y6):=by
 refine⟨?_,ig g [y0,y1,y2,y3,y4,y5,y6] (1+k*7) w⟩;have:=((((((h.set hk (j:=0) (by decide) y0).set hk (j:=1) (by decide) y1).set hk (j:=2) (by decide) y2).set hk (j:=3) (by decide) y3).set hk (j:=4) (by decide) y4).set hk (j:=5) (by decide) y5).set hk (j:=6) (by decide) y6;obtain⟨a0,a1,a2,a3,a4,a5,a6,hv⟩:=Go.Proofs.YtjmndjmhjleabaaGreatDoor.seven (h.seven k hk);simp only[qH,iQ,hv] at this;exact this
theorem FB.step {n gp:Nat}{wr w1:World}(h:FB S w g gs s n wr)(hR:jI w1 (fun k=>wr.heap.size<=k) gp Rq.start)(hb:aj wr w1):∃v,kR w1 g gs v∧∀wf,kR wf g gs (upd v n (Zj Gt.qD (aag gp)))->Turns (fun i=>i=g) w1 wf->FB S w g gs s (n+1) wf:=by
 obtain⟨⟨κ,v,x,hH,hv,hS⟩,hT⟩:=h;have hlt:=(hH .row).1.lt;have hz:=hT.size;refine⟨v,⟨(hb.block g hlt).trans (hH .row).1.row,(hH .row).1.seven⟩,fun wf hrf hTf=>?_⟩;have key:∀d,d≠.row->FY g gs s v n (fun _=>Gt.qD) x noZ Lc d wf (fun i=>jd κ wr.heap.size (.rq n) i=d):=fun d hd=>by
  have L:lQ (FY g gs s v n (fun _=>Gt.qD) x noZ Lc d):=ou (fun _=>lQ.nG) lQ.nG d;have h1:=L.mono (hH d) (S':=fun i=>κ i=d∧i<wr.heap.size) (fun i hi e=>⟨e,hi⟩);have h2:=L.turns (L.turns h1 (Turns.of_below (S:=fun _=>False) hb) (fun _ _ e=>e)) hTf (fun i e e2=>hd (by rw[<-e.1,e2];exact(hH .row).2));exact L.mono h2 (fun i _ e=>(jc e.2).trans e.1)
 refine⟨⟨jd κ wr.heap.size (.rq n),upd v n (Zj Gt.qD (aag gp)),upd x n (aag gp),fun d=>?_,fun j hj=>?_,fun i hi=>?_⟩,(hT.trans (Turns.of_below (S:=fun _=>False) hb) (fun _ e _=>e.elim)).trans hTf (fun i e hi=>?_)⟩
 . cases d with
   | row=>exact⟨hrf,(jc hlt).trans (hH .row).2⟩
   | jS=>exact key .jS (by intro h;cases h)
   | rq j =>
     intro hj;by_cases e:j=n
     . subst e;rw[iQ];exact(hR.turns hTf (fun i e e2=>by omega)).mono (fun i _ e=>qO e)
     . rw[upd_ne _ _ e];exact key (.rq j) (by intro h;cases h) (by omega)
   | fl j =>
     refine⟨fun hj=>?_,trivial⟩;by_cases e:j=n
     . subst e;rw[iQ];exact nE.nil _ _
     . rw[upd_ne _ _ e];exact(key (.fl j) (by intro h;cases h)).1 (by omega)
   | bd j =>
     intro hj;by_cases e:j=n
     . subst e;rw[iQ];exact gZ.nil _ _ _
     . rw[upd_ne _ _ e];exact key (.bd j) (by intro h;cases h) (by omega)
   | ret=>trivial
   | out=>trivial
 . by_cases e:j=n
   . subst e;rw[iQ,iQ]
   . rw[upd_ne _ _ e,upd_ne _ _ e];exact hv j (by omega)
 . rcases aU i wr.heap.size with hl | hl
   . rw[jc hl] at hi;exact hS i hi
   . exact Or.inr (by omega)
 . rcases hS i (by rw[e,(hH .row).2];intro h;cases h) with h | h
   . exact h
   . omega
theorem FB.done {wr:World}(h:FB S w g gs s 4 wr):jC wr (gN S w) g gs s (fun _=>Gt.qD)∧Turns S w wr:=by
 obtain⟨⟨κ,v,x,hH,hv,hS⟩,hT⟩:=h;refine⟨⟨κ,x,fun d=>?_,hS⟩,hT⟩;have hd:=hH d;cases d with
 | row =>
   refine⟨⟨?_,fun k hk=>rfl⟩,hd.2⟩;have:=hd.1.row;unfold Qu at this ⊢;rw[hv 0 (by omega),hv 1 (by omega),hv 2 (by omega),hv 3 (by omega)] at this;exact this
 | jS=>exact hd
 | rq j=>exact hd
 | fl j=>exact hd
 | bd j=>exact hd
 | ret=>trivial
 | out=>trivial
theorem PI (h:FB S w g gs s 0 w):
 Calls prog 24 #[.pointer (some ⟨g,0,none⟩)] w fun e w'=>e=.returned (.tuple #[])∧jC w' (gN S w) g gs s (fun _=>Gt.qD)∧Turns S w w':=by
 have HNc:=H9 (fun W=>Cc W);have HR:=H9 h;clear h;go_enter func24,ntmps24;go_wp2;go_loopw [3] (fun vi wr=>∃i:Nat,i<=4∧vi=.int .i64 i∧FB S w g gs s i wr) (fun vi _=>4-(intOf vi).toNat)
 case atStart=>exact⟨0,aA _,rfl,HR.o⟩
 case round =>
  obtain⟨i,hi,rfl,hG⟩:=hrel;have HG:=H9 hG;clear hG;by_cases hlt:i<4
  . have hlt':(i:Int)<4:=by omega
    have hi0:(0:Int)<=(i:Int):=by omega
    have Tt:Hid (FB S w g gs s i wr.drew):=by
     obtain⟨⟨κ,v,x,hH,hv,hS⟩,hT⟩:=HG.o;exact⟨⟨κ,v,x,hH.stay (ou (fun _=>lQ.nG) lQ.nG) (gQ _ _),hv,hS⟩,hT.trans (Turns.drewN (fun _=>False) wr 1) (fun _ e _=>e.elim)⟩
    go_upto_region 3 with fail
    go_region_law ((go_simp;go_at_call 28;refine(HNc.o _).mono ?_;rintro e w1 ⟨gp,rfl,uD,hb1⟩;obtain⟨v,hr1,hst⟩:=Tt.o.step uD hb1;obtain⟨a0,a1,a2,a3,a4,a5,a6,hv⟩:=Go.Proofs.YtjmndjmhjleabaaGreatDoor.seven (hr1.seven i hlt);have c0:w1.cell? ⟨g,1+i*7,none⟩=some a0:=hr1.at_ hlt (j:=0) (by decide) (by rw[hv];rfl);have c1:=hr1.at_ hlt (j:=1) (by decide) (u:=a1) (by rw[hv];rfl);have c2:=hr1.at_ hlt (j:=2) (by decide) (u:=a2) (by rw[hv];rfl);have c3:=hr1.at_ hlt (j:=3) (by decide) (u:=a3) (by rw[hv];rfl);have c4:=hr1.at_ hlt (j:=4) (by decide) (u:=a4) (by rw[hv];rfl);have c5:=hr1.at_ hlt (j:=5) (by decide) (u:=a5) (by rw[hv];rfl);have c6:=hr1.at_ hlt (j:=6) (by decide) (u:=a6) (by rw[hv];rfl);have fz:=fun j=>hr1.fz j;have Ap:=H9 (hst _ (hr1.ac2 hlt (.pointer (some ⟨gp,0,none⟩)) (.string ⟨#[]⟩) (.string ⟨#[]⟩) (.int .i64 0) (.slice none 0 0) (.int .i64 0) (.slice none 0 0)).1 (hr1.ac2 hlt (.pointer (some ⟨gp,0,none⟩)) (.string ⟨#[]⟩) (.string ⟨#[]⟩) (.int .i64 0) (.slice none 0 0) (.int .i64 0) (.slice none 0 0)).2);clear uD hb1 hst hv))
    all_goals
     go_wp2;go_roundw
     case rel=>exact⟨i+1,by omega,by go_num,Ap.o⟩
     case measure=>simp[intOf];omega
  . obtain rfl:i=4:=by omega
    have HDn:=H9 HG.o.done;go_wp2;go_end0
    exact⟨rfl,HDn.o⟩
end
section
variable {w0 w:World} {S:Nat->Prop} {g gs:Nat} {s:Sr.Sh} {c:Nat->Gt.Cn}
def ML:List Value:=[.pointer none,.string ⟨#[]⟩,.string ⟨#[]⟩,.int .i64 0,.slice none 0 0,.int .i64 0,.slice none 0 0]
theorem FB.begin_ (h:iI w S gs s):FB (fun k=>(S k∧k<w.heap.size)∨k=w.heap.size) (w.alloc (.cells (Qu gs (fun _=>ML)).toArray 80)) w.heap.size gs s 0 (w.alloc (.cells (Qu gs (fun _=>ML)).toArray 80)):=by
 have hb:=(fJ _ w).alloc (aM _) (.cells (Qu gs (fun _=>ML)).toArray 80);classical
 refine⟨⟨fun k=>if k=w.heap.size then .row else if S k∧k<w.heap.size then .jS else .out,fun _=>ML,fun _=>aag 0,fun d=>?_,fun k hk=>absurd hk (bZ k),fun k hk=>?_⟩,Turns.refl _ _⟩
 . cases d with
   | row=>exact⟨⟨fI w _,fun _ _=>rfl⟩,if_pos rfl⟩
   | jS=>exact iI.mono ((iI.mono h (S':=fun k=>S k∧k<w.heap.size) (fun k hk e=>⟨e,hk⟩)).stay hb) (fun k _ e=>by
    show(if k=w.heap.size then Ej.row else if S k∧k<w.heap.size then .jS else .out)=.jS;rw[if_neg (by have:=e.2;omega),if_pos e])
   | rq j=>exact fun hj=>absurd hj (bZ j)
   | fl j=>exact⟨fun hj=>absurd hj (bZ j),trivial⟩
   | bd j=>exact fun hj=>absurd hj (bZ j)
   | ret=>trivial
   | out=>trivial
 . simp only at hk;by_cases h1:k=w.heap.size
   . exact Or.inl (Or.inr h1)
   . rw[if_neg h1] at hk;by_cases h2:S k∧k<w.heap.size
     . exact Or.inl (Or.inl h2)
     . rw[if_neg h2] at hk;exact absurd rfl hk
theorem FC (h:iI w S gs s):
 Calls prog 9 #[.pointer (some ⟨gs,0,none⟩)] w fun e w'=>e=.returned (.pointer (some ⟨w.heap.size,0,none⟩))∧jC w' (gN S w) w.heap.size gs s (fun _=>Gt.qD)∧Turns S w w':=by
 have HR:=H9 (PI (FB.begin_ h));have hb:=(fJ _ w).alloc (aM _) (.cells (Qu gs (fun _=>ML)).toArray 80);have HB:=H9 hb;clear hb h;go_enter func9,ntmps9;go_wp2_with fail
 refine HR.o.mono ?_;rintro e w1 ⟨rfl,hG,hT⟩;have HFin:Hid (jC w1 (gN S w) w.heap.size gs s (fun _=>Gt.qD)∧Turns S w w1):=by
  have hz:=HB.o.size;refine⟨hG.mono (fun k _ e=>?_),(Turns.of_below HB.o).trans hT (fun k e hk=>?_)⟩
  . rcases e with (e | e) | e
    . exact Or.inl e.1
    . exact Or.inr (by omega)
    . exact Or.inr (by omega)
  . rcases e with e | e
    . exact e.1
    . omega
 clear hG hT;go_wp2;go_ret;exact⟨rfl,HFin.o⟩
theorem PK (h:jC w S g gs s c)(k:Nat)(hk:k<4)(hb0:(c k).body=[])(ht:(c k).hd.target.length<=100000):
 Calls prog 11 #[.pointer (some ⟨g,0,none⟩),.int .i64 (k:Int)] w fun e w'=>e=.returned (.int .i64 0)∧Turns S w w':=by
 have HI:=H9 (fun W=>uW (k:Int) W);rw[show(decide ((0:Int)<=(k:Int))&&decide ((k:Int)<4))=true from by simp;omega] at HI;obtain⟨κ,x,hH,hS⟩:=h;have hg:=(hH .row).1;have HSg:Hid (S g):=hS g (by rw[(hH .row).2];intro h;cases h);have Dc:=H9 (Ba hg hk (rfl:Ei c x k=[.pointer (some ⟨(x k).gp,0,none⟩),.string ⟨(c k).hd.method.toArray⟩,.string ⟨(c k).hd.target.toArray⟩,.int .i64 ((c k).hd.minor:Int),.slice (x k).fo (c k).hd.fields.length (x k).gM,.int .i64 (c k).hd.length,.slice (x k).bo (c k).body.length (x k).gK]));rw[hb0] at Dc;simp only[cu] at Dc;have HNc:=H9 (fun W=>Cc W);have HIp:=H9 (fun W=>LD ⟨(c k).hd.method.toArray⟩ ⟨(c k).hd.target.toArray⟩ ((c k).hd.minor:Int) (c k).hd.length (x k).fo (x k).bo (c k).hd.fields.length (x k).gM 0 (x k).gK W (by show(c k).hd.target.toArray.size<=_;rw[bM];exact ht));have k0:(0:Int)<=(k:Int):=by omega
 have k4:(k:Int)<4:=by omega
 clear hH hS hg hb0;generalize (decide ((⟨(c k).hd.method.toArray⟩:ay)=Gt.ND)&&Gt.Jf ⟨(c k).hd.target.toArray⟩)=bp at *;go_enter func11,ntmps11;go_wp2_with fail
 refine(HI.o _).mono ?_;rintro e w1 ⟨rfl,hw⟩;rw[hw];clear hw;go_wp2_with fail
 refine Dc.o.mono ?_;rintro e w2 ⟨rfl,hr2,jV⟩;have hbx:=(fJ _ w2).alloc (aM _) (.cells #[.string ⟨(c k).hd.method.toArray⟩,.string ⟨(c k).hd.target.toArray⟩,.int .i64 ((c k).hd.minor:Int),.slice (x k).fo (c k).hd.fields.length (x k).gM,.int .i64 (c k).hd.length,.slice (x k).bo 0 (x k).gK] 75);have hrow2:=fI w2 (.cells #[.string ⟨(c k).hd.method.toArray⟩,.string ⟨(c k).hd.target.toArray⟩,.int .i64 ((c k).hd.minor:Int),.slice (x k).fo (c k).hd.fields.length (x k).gM,.int .i64 (c k).hd.length,.slice (x k).bo 0 (x k).gK] 75);have HR3:Hid (∀W,Below (w2.alloc (.cells #[.string ⟨(c k).hd.method.toArray⟩,.string ⟨(c k).hd.target.toArray⟩,.int .i64 ((c k).hd.minor:Int),.slice (x k).fo (c k).hd.fields.length (x k).gM,.int .i64 (c k).hd.length,.slice (x k).bo 0 (x k).gK] 75)).heap.size (w2.alloc (.cells #[.string ⟨(c k).hd.method.toArray⟩,.string ⟨(c k).hd.target.toArray⟩,.int .i64 ((c k).hd.minor:Int),.slice (x k).fo (c k).hd.fields.length (x k).gM,.int .i64 (c k).hd.length,.slice (x k).bo 0 (x k).gK] 75)) W->kR W g gs _):=fun W hW=>⟨(hW.block g (cB hr2.lt hbx.size)).trans ((hbx.block g hr2.lt).trans hr2.row),hr2.seven⟩;have HBx:Hid (∀W wf,Below (w2.alloc (.cells #[.string ⟨(c k).hd.method.toArray⟩,.string ⟨(c k).hd.target.toArray⟩,.int .i64 ((c k).hd.minor:Int),.slice (x k).fo (c k).hd.fields.length (x k).gM,.int .i64 (c k).hd.length,.slice (x k).bo 0 (x k).gK] 75)).heap.size (w2.alloc (.cells #[.string ⟨(c k).hd.method.toArray⟩,.string ⟨(c k).hd.target.toArray⟩,.int .i64 ((c k).hd.minor:Int),.slice (x k).fo (c k).hd.fields.length (x k).gM,.int .i64 (c k).hd.length,.slice (x k).bo 0 (x k).gK] 75)) W->Turns (fun i=>i=g) W wf->wf.heap[w2.heap.size]? = some (.cells #[.string ⟨(c k).hd.method.toArray⟩,.string ⟨(c k).hd.target.toArray⟩,.int .i64 ((c k).hd.minor:Int),.slice (x k).fo (c k).hd.fields.length (x k).gM,.int .i64 (c k).hd.length,.slice (x k).bo 0 (x k).gK] 75 (0,0))∧Turns S w wf):=fun W wf hW hTf=>by
  have hlt:=hr2.lt;refine⟨hTf.row ((hW.block w2.heap.size (by rw[fZ];omega)).trans hrow2) (by omega),((jV.mono (fun i e=>by rw[e];exact HSg.o)).trans (Turns.of_below (S:=fun _=>False) (then_ hbx hW)) (fun _ e _=>e.elim)).trans hTf (fun i e _=>by rw[e];exact HSg.o)⟩
 clear hr2 jV hbx hrow2 Dc HI;go_upto_region 4 with fail
 generalize (w2.alloc (.cells #[.string ⟨(c k).hd.method.toArray⟩,.string ⟨(c k).hd.target.toArray⟩,.int .i64 ((c k).hd.minor:Int),.slice (x k).fo (c k).hd.fields.length (x k).gM,.int .i64 (c k).hd.length,.slice (x k).bo 0 (x k).gK] 75))=W2 at *;go_cut [] (fun wd=>wd.heap[w2.heap.size]? = some (.cells #[.string ⟨(c k).hd.method.toArray⟩,.string ⟨(c k).hd.target.toArray⟩,.int .i64 ((c k).hd.minor:Int),.slice (x k).fo (c k).hd.fields.length (x k).gM,.int .i64 (c k).hd.length,.slice (x k).bo 0 (x k).gK] 75 (0,0))∧Turns S w wd)
 case first =>
  go_region_law ((go_simp;go_at_call 28;refine(HNc.o _).mono ?_;rintro e w3 ⟨gp,rfl,TJ,hb3⟩;have hbw:aj W2 w3:=then_ (gQ _ _) hb3;have hr1:=HR3.o w3 hbw;obtain⟨a0,a1,a2,a3,a4,a5,a6,hv⟩:=Go.Proofs.YtjmndjmhjleabaaGreatDoor.seven (hr1.seven k hk);have c0:w3.cell? ⟨g,1+k*7,none⟩=some a0:=hr1.at_ hk (j:=0) (by decide) (by rw[hv];rfl);have c1:=hr1.at_ hk (j:=1) (by decide) (u:=a1) (by rw[hv];rfl);have c2:=hr1.at_ hk (j:=2) (by decide) (u:=a2) (by rw[hv];rfl);have c3:=hr1.at_ hk (j:=3) (by decide) (u:=a3) (by rw[hv];rfl);have c4:=hr1.at_ hk (j:=4) (by decide) (u:=a4) (by rw[hv];rfl);have c5:=hr1.at_ hk (j:=5) (by decide) (u:=a5) (by rw[hv];rfl);have c6:=hr1.at_ hk (j:=6) (by decide) (u:=a6) (by rw[hv];rfl);have fz:=fun j=>hr1.fz j;have Ap:=H9 (HBx.o w3 _ hbw (hr1.ac2 hk (.pointer (some ⟨gp,0,none⟩)) (.string ⟨#[]⟩) (.string ⟨#[]⟩) (.int .i64 0) (.slice none 0 0) (.int .i64 0) (.slice none 0 0)).2);clear TJ hb3 hv hbw hr1))
  all_goals
   go_wp2;go_meet;exact Ap.o
 case rest =>
  obtain⟨hrw,hTw⟩:=hcut;have b0:wc.cell? ⟨w2.heap.size,0,none⟩=some (.string ⟨(c k).hd.method.toArray⟩):=fK wc _ 0 _ _ _ hrw;have b1:wc.cell? ⟨w2.heap.size,1,none⟩=some (.string ⟨(c k).hd.target.toArray⟩):=fK wc _ 1 _ _ _ hrw;have b2:wc.cell? ⟨w2.heap.size,2,none⟩=some (.int .i64 ((c k).hd.minor:Int)):=fK wc _ 2 _ _ _ hrw;have b3:wc.cell? ⟨w2.heap.size,3,none⟩=some (.slice (x k).fo (c k).hd.fields.length (x k).gM):=fK wc _ 3 _ _ _ hrw;have b4:wc.cell? ⟨w2.heap.size,4,none⟩=some (.int .i64 (c k).hd.length):=fK wc _ 4 _ _ _ hrw;have b5:wc.cell? ⟨w2.heap.size,5,none⟩=some (.slice (x k).bo 0 (x k).gK):=fK wc _ 5 _ _ _ hrw;have HTw:=H9 hTw;have aiZ:=(aL.1 hrw).1;have HRw:=H9 hrw
  clear hrw hTw;go_wp2_with fail
  refine(HIp.o _).mono ?_;rintro e w5 ⟨rfl,hb5⟩;have Xm:Hid (Turns S w w5):=HTw.o.trans (Turns.of_below (S:=fun _=>False) hb5) (fun _ e _=>e.elim);have b6:w5.cell? ⟨w2.heap.size,5,none⟩=some (.slice (x k).bo 0 (x k).gK):=(hb5.cell (p:=⟨w2.heap.size,5,none⟩) aiZ).trans b5;clear hb5;cases bp
  . go_wp2;go_ret;exact⟨rfl,Xm.o⟩
  . go_wp2;go_ret;exact⟨rfl,Xm.o⟩
end
end Go.Proofs.YtjmndjmhjleabaaGreatDoor