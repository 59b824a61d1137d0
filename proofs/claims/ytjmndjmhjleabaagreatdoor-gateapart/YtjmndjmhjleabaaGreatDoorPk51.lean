/- Small texts, one behind the other: GaJ, GaK, GaL, GaM, GaN, GaO, GaP. -/
import Derived.Test.YtjmndjmhjleabaaGreatDoorPk49
import Derived.Test.YtjmndjmhjleabaaGreatDoorPk46
import Derived.Deep.RegionHeldLaw
import Derived.Test.YtjmndjmhjleabaaGreatDoorPk36
import Derived.Test.YtjmndjmhjleabaaGreatDoorPk45
set_option maxHeartbeats 3200000
set_option maxRecDepth 100000
open Go.Proofs.Tryz
namespace Go.Proofs.YtjmndjmhjleabaaGreatDoor
open Go.RowKit
structure fQ (w0:World) (κ:Nat→Ar) (g gs:Nat) (s:Sr.Sh) (v:Nat→List Value) (c:Nat→Gt.Cn) (x:Nat→OQ) (z:Nat→Ob) (o:Ob) (w:World):Prop where
 held:Held (Cu g gs s v 4 c x z o) κ w
 pow:iO w0
 p8:Below w0.heap.size w0 w
 far:∀ i,κ i≠.out→w0.heap.size≤i
section
variable {w0 w w':World} {κ:Nat→Ar} {g gs:Nat} {s s':Sr.Sh} {v v':Nat→List Value} {c c':Nat→Gt.Cn} {x x':Nat→OQ} {z:Nat→Ob} {o:Ob}
theorem Ml {n:Nat} {d:Ar} (hf:∀ i,κ i≠.out→w0.heap.size≤i) (hn:w0.heap.size≤n):∀ i,bK κ n d i≠.out→w0.heap.size≤i:=fun i hi=>by
 rcases Nat.lt_or_ge i n with hl | hl
 · rw [bJ hl] at hi;exact hf i hi
 · omega
theorem fQ.act (Lz:∀ k,gF (z k)) (Lo:gF o) (h:fQ w0 κ g gs s v c x z o w) {T N:Nat→Prop} (d:Ar) (hd:d≠.out) (ht:Turns T w w') (hT:∀ k,T k→κ k=d) (hY:Cu g gs s' v' 4 c' x' z o d w' N) (hN:∀ k,N k→κ k=d∨w.heap.size≤k) (hX:∀ e,e≠d→Cu g gs s' v' 4 c' x' z o e=Cu g gs s v 4 c x z o e):fQ w0 (bK κ w.heap.size d) g gs s' v' c' x' z o w' :=
 ⟨h.held.act (jD Lz Lo) ht hT (X':=Cu g gs s' v' 4 c' x' z o) (jD Lz Lo d) hY hN hX,h.pow,h.p8.trans (ht.below (fun k e=>h.far k (by rw [hT k e];exact hd)) h.p8.size),Ml h.far h.p8.size⟩
theorem fQ.stay (Lz:∀ k,gF (z k)) (Lo:gF o) (h:fQ w0 κ g gs s v c x z o w) (hb:Below w.heap.size w w'):fQ w0 κ g gs s v c x z o w':=⟨h.held.stay (jD Lz Lo) hb,h.pow,then_ h.p8 hb,h.far⟩
theorem fQ.trim (Lz:∀ k,gF (z k)) (Lo:gF o) (h:fQ w0 κ g gs s v c x z o w):fQ w0 (bK κ w.heap.size .out) g gs s v c x z o w:=by
 refine ⟨fun d=>?_,h.pow,h.p8,Ml h.far h.p8.size⟩;exact (jD Lz Lo d).mono (h.held d) (fun k hk e=>(bJ hk).trans e)
theorem fQ.row (Lz:∀ k,gF (z k)) (Lo:gF o) (h:fQ w0 κ g gs s v c x z o w) (hr:fA w' g gs v') (hT:Turns (fun i=>i=g) w w'):fQ w0 (bK κ w.heap.size .row) g gs s v' c x z o w' :=
 h.act Lz Lo .row (by intro h;cases h) hT (fun k e=>by rw [e];exact (h.held .row).2) (N:=fun k=>k=g) ⟨hr,rfl⟩ (fun k e=>Or.inl (by rw [e];exact (h.held .row).2)) (fun d hd=>by cases d <;> first | rfl | exact absurd rfl hd)
theorem fQ.dI (Lz:∀ k,gF (z k)) (Lo:gF o) (h:fQ w0 κ g gs s v c x z o w) (hA:aU w' (av (fun k=>κ k=.dI) w) gs s') (hT:Turns (fun k=>κ k=.dI) w w'):fQ w0 (bK κ w.heap.size .dI) g gs s' v c x z o w' :=
 h.act Lz Lo .dI (by intro h;cases h) hT (fun _ e=>e) hA (fun _ e=>e) (fun d hd=>by cases d <;> first | rfl | exact absurd rfl hd)
theorem fQ.YM (h:fQ w0 κ g gs s v c x z o w):fA w g gs v:=(h.held .row).1
theorem fQ.head (h:fQ w0 κ g gs s v c x z o w) (k:Nat) (hd:Rq.Hd) (fo:Option Addr) (au:Nat) (hF:iT w (fun i=>κ i=.fl k) fo au hd.fields.length (aC (Rq.iN hd.fields))):fQ w0 κ g gs s v (upd c k { c k with hd:=hd }) (upd x k { x k with fo:=fo,au:=au }) z o w:=by
 refine ⟨fun d=>?_,h.pow,h.p8,h.far⟩;have hh:=h.held d;cases d with
 | row=>exact hh
 | dI=>exact hh
 | rq j =>
   intro hj;by_cases e:j=k
   · subst e;rw [bA,bA];exact hh hj
   · rw [upd_ne _ _ e,upd_ne _ _ e];exact hh hj
 | fl j =>
   refine ⟨fun hj=>?_,hh.2⟩;by_cases e:j=k
   · subst e;rw [bA,bA];exact hF
   · rw [upd_ne _ _ e,upd_ne _ _ e];exact hh.1 hj
 | bd j =>
   intro hj;by_cases e:j=k
   · subst e;rw [bA,bA];exact hh hj
   · rw [upd_ne _ _ e,upd_ne _ _ e];exact hh hj
 | ret=>exact hh
 | out=>trivial
theorem fQ.nobody (h:fQ w0 κ g gs s v c x z o w) (k:Nat):fQ w0 κ g gs s v (upd c k { c k with body:=[] }) (upd x k { x k with bo:=none,aj:=0 }) z o w:=by
 refine ⟨fun d=>?_,h.pow,h.p8,h.far⟩;have hh:=h.held d;cases d with
 | row=>exact hh
 | dI=>exact hh
 | rq j =>
   intro hj;by_cases e:j=k
   · subst e;rw [bA,bA];exact hh hj
   · rw [upd_ne _ _ e,upd_ne _ _ e];exact hh hj
 | fl j =>
   refine ⟨fun hj=>?_,hh.2⟩;by_cases e:j=k
   · subst e;rw [bA,bA];exact hh.1 hj
   · rw [upd_ne _ _ e,upd_ne _ _ e];exact hh.1 hj
 | bd j =>
   intro hj;by_cases e:j=k
   · subst e;rw [bA,bA];exact aI.nil _ _ _
   · rw [upd_ne _ _ e,upd_ne _ _ e];exact hh hj
 | ret=>exact hh
 | out=>trivial
theorem fQ.grow (Lz:∀ k,gF (z k)) (Lo:gF o) (h:fQ w0 κ g gs s v c x z o w) (k:Nat) (hk:k<4) {jJ:Option Addr} {dV:Nat} {b:List UInt8} (hG:aI w' (fun i=>dB (c k).body (x k).bo=some i∨w.heap.size≤i) 5 jJ dV ((c k).body++b)) (hT:Turns (fun i=>dB (c k).body (x k).bo=some i) w w'):fQ w0 (bK κ w.heap.size (.bd k)) g gs s v (upd c k { c k with body:=(c k).body++b }) (upd x k { x k with bo:=jJ,aj:=dV }) z o w':=by
 have hin:∀ i,dB (c k).body (x k).bo=some i→κ i=.bd k:=fun i e=>by
  unfold dB at e;split at e
  · cases e
  · rename_i hne;rcases h.held (.bd k) hk with ⟨_,_,h3⟩ | ⟨h1,_⟩
    · cases l8:(x k).bo with
      | none=>rw [l8] at e;cases e
      | some a=>rw [l8] at e;injection e with e;rw [←e];exact h3 a l8
    · exact absurd h1 hne
 refine h.act Lz Lo (.bd k) (by intro h;cases h) hT hin (N:=fun i=>dB (c k).body (x k).bo=some i∨w.heap.size≤i) ?_ (fun i e=>?_) (fun d hd=>?_)
 · intro _;rw [bA,bA];exact hG
 · rcases e with e | e
   · exact Or.inl (hin i e)
   · exact Or.inr e
 · cases d with
   | row=>rfl
   | dI=>rfl
   | rq j =>
     by_cases e:j=k
     · subst e;simp only [Cu,bA]
     · simp only [Cu];rw [upd_ne _ _ e,upd_ne _ _ e]
   | fl j =>
     by_cases e:j=k
     · subst e;simp only [Cu,bA]
     · simp only [Cu];rw [upd_ne _ _ e,upd_ne _ _ e]
   | bd j =>
     have e:j≠k:=fun e=>hd (by rw [e]);simp only [Cu];rw [upd_ne _ _ e,upd_ne _ _ e]
   | ret=>rfl
   | out=>rfl
end
theorem fA.ags {w:World} {g gs:Nat} {v:Nat→List Value} (h:fA w g gs v) {k:Nat} (hk:k<4) {a0 a1 a2 a3 a4 a5 a6:Value} (hv:v k=[a0,a1,a2,a3,a4,a5,a6]) {o:Nat} (ho:1+k*7=o) (y1 y2 y3 y4 y5:Value) :
 fA (((((w.setCell ⟨g,o+1,none⟩ y1).setCell ⟨g,o+2,none⟩ y2).setCell ⟨g,o+3,none⟩ y3).setCell ⟨g,o+4,none⟩ y4).setCell ⟨g,o+5,none⟩ y5) g gs (upd v k [a0,y1,y2,y3,y4,y5,a6])∧Turns (fun i=>i=g) w (((((w.setCell ⟨g,o+1,none⟩ y1).setCell ⟨g,o+2,none⟩ y2).setCell ⟨g,o+3,none⟩ y3).setCell ⟨g,o+4,none⟩ y4).setCell ⟨g,o+5,none⟩ y5):=by
 subst ho;refine ⟨?_,aJ g [y1,y2,y3,y4,y5] (1+k*7+1) w⟩;have:=((((h.set hk (j:=1) (by decide) y1).set hk (j:=2) (by decide) y2).set hk (j:=3) (by decide) y3).set hk (j:=4) (by decide) y4).set hk (j:=5) (by decide) y5;simp only [lD,bA,hv] at this;exact this
def Ext {C:Type} (κ F7:Nat→C) (n:Nat):Prop:=∀ i,i<n→F7 i=κ i
theorem Ext.bK {C:Type} {κ F7:Nat→C} {n m:Nat} (h:Ext κ F7 n) (hm:n≤m) (d:C):Ext κ (bK F7 m d) n:=fun i hi=>by rw [bJ (by omega)];exact h i hi
theorem Ext.refl {C:Type} (κ:Nat→C) (n:Nat):Ext κ κ n:=fun _ _=>rfl
structure sW (w0:World) (κ:Nat→Ar) (g gs:Nat) (c:Nat→Gt.Cn) (z:Nat→Ob) (o:Ob) (k:Nat) (w:World) (G:Gt.Gs) (e:Ending) (w':World):Prop where
 ret:∃ (ao:Option Addr) (cap n:Nat),e=.returned (.slice ao n cap)∧n=G.out.length∧aT w' ao cap G.out
 at_:∃ F7 x',fQ w0 F7 g gs G.s (Aq (upd c k ⟨(c k).rq,G.hd,G.body⟩) x') (upd c k ⟨(c k).rq,G.hd,G.body⟩) x' z o w'∧Ext κ F7 w.heap.size
 turns:Turns (fun i=>κ i=.row∨κ i=.dI∨κ i=.bd k) w w'
section
variable {w0 w:World} {κ:Nat→Ar} {g gs:Nat} {s:Sr.Sh} {c:Nat→Gt.Cn} {x:Nat→OQ} {z:Nat→Ob} {o:Ob} {k:Nat}
theorem acU {hd:Rq.Hd} (h:Rq.iV hd) {fo:Option Addr} {au:Nat} (hF:bS w fo au hd.fields.length (aC (Rq.iN hd.fields))):kI w (Gt.iN hd.fields) fo au hd.fields.length :=
 ⟨hF, by rw [show Gt.iN hd.fields = Rq.iN hd.fields from rfl]; exact Rq.fF _, by have := h.many; omega, fun p hp => by
  obtain ⟨f,hf,rfl⟩:=List.mem_map.1 hp;have:=h.fields f hf;refine ⟨?_,?_⟩
  · show f.1.toArray.size≤_;rw [List.size_toArray];omega
  · show f.2.toArray.size≤_;rw [List.size_toArray];omega⟩
theorem QI (Lz:∀ k,gF (z k)) (Lo:gF o) (h:fQ w0 κ g gs s (Aq c x) c x z o w) (hk:k<4) (hd:Rq.Hd) {fo bo po:Option Addr} {au nf nb aj np bY:Nat} (hn:hd.fields.length=nf) (hF:iT w (fun i=>κ i=.fl k) fo au nf (aC (Rq.iN hd.fields))) :
 Calls prog 35 #[.pointer (some ⟨g,0,none⟩),.pointer (some ⟨g,1+k*7,none⟩),.agg #[.int .i64 1,.string ⟨hd.method.toArray⟩,.string ⟨hd.target.toArray⟩,.int .i64 (hd.minor:Int),.slice fo nf au,.int .i64 hd.length,.slice bo nb aj,.string ⟨#[]⟩,.string ⟨#[]⟩,.string ⟨#[]⟩,.slice po np bY,.int .i64 0]] w fun e w'=>sW w0 κ g gs c z o k w ⟨s,hd,(c k).body,[]⟩ e w':=by
 have hb:=(Below.refl _ w).alloc (Nat.le_refl _) (.cells #[.int .i64 1,.string ⟨hd.method.toArray⟩,.string ⟨hd.target.toArray⟩,.int .i64 (hd.minor:Int),.slice fo nf au,.int .i64 hd.length,.slice bo nb aj,.string ⟨#[]⟩,.string ⟨#[]⟩,.string ⟨#[]⟩,.slice po np bY,.int .i64 0] 72);have h1:=h.stay Lz Lo hb;have hg:=h1.YM;have hv:Aq c x k=[.pointer (some ⟨(x k).gp,0,none⟩),.string ⟨(c k).hd.method.toArray⟩,.string ⟨(c k).hd.target.toArray⟩,.int .i64 ((c k).hd.minor:Int),.slice (x k).fo (c k).hd.fields.length (x k).au,.int .i64 (c k).hd.length,.slice (x k).bo (c k).body.length (x k).aj]:=rfl;have c1:=hg.at_ hk (j:=1) (by decide) (by rw [hv];rfl);have c2:=hg.at_ hk (j:=2) (by decide) (by rw [hv];rfl);have c3:=hg.at_ hk (j:=3) (by decide) (by rw [hv];rfl);have c4:=hg.at_ hk (j:=4) (by decide) (by rw [hv];rfl);have c5:=hg.at_ hk (j:=5) (by decide) (by rw [hv];rfl);have f1:=hg.fz (1+k*7+1);have f2:=hg.fz (1+k*7+2);have f3:=hg.fz (1+k*7+3);have f4:=hg.fz (1+k*7+4);have f5:=hg.fz (1+k*7+5)
 obtain ⟨q,hq⟩:∃ q,1+k*7=q:=⟨_,rfl⟩;have hS:=hg.ags hk hv hq (.string ⟨hd.method.toArray⟩) (.string ⟨hd.target.toArray⟩) (.int .i64 (hd.minor:Int)) (.slice fo nf au) (.int .i64 hd.length);rw [hq] at c1 c2 c3 c4 c5 f1 f2 f3 f4 f5 ⊢;have hF1:=hF.turns (Turns.of_below (S:=fun _=>False) hb) (fun _ _ e=>e);have HFin:Hid (∀ wf,fA wf g gs (upd (Aq c x) k [.pointer (some ⟨(x k).gp,0,none⟩),.string ⟨hd.method.toArray⟩,.string ⟨hd.target.toArray⟩,.int .i64 (hd.minor:Int),.slice fo nf au,.int .i64 hd.length,.slice (x k).bo (c k).body.length (x k).aj])→Turns (fun i=>i=g) (w.alloc (.cells #[.int .i64 1,.string ⟨hd.method.toArray⟩,.string ⟨hd.target.toArray⟩,.int .i64 (hd.minor:Int),.slice fo nf au,.int .i64 hd.length,.slice bo nb aj,.string ⟨#[]⟩,.string ⟨#[]⟩,.string ⟨#[]⟩,.slice po np bY,.int .i64 0] 72)) wf→sW w0 κ g gs c z o k w ⟨s,hd,(c k).body,[]⟩ (.returned (.slice none 0 0)) wf):=fun wf hr hT=>by
  have h2:=h1.head k hd fo au (by rw [hn];exact hF1);have h3:=h2.row Lz Lo hr hT;refine ⟨⟨none,0,0,rfl,rfl,aT.nil _⟩,⟨_,upd x k { x k with fo:=fo,au:=au },?_,(Ext.refl κ _).bK hb.size .row⟩,(Turns.of_below hb).trans hT (fun i e _=>Or.inl (by rw [e];exact (h.held .row).2))⟩;rw [zi];have:WE ⟨(c k).rq,hd,(c k).body⟩ { x k with fo:=fo,au:=au }=[.pointer (some ⟨(x k).gp,0,none⟩),.string ⟨hd.method.toArray⟩,.string ⟨hd.target.toArray⟩,.int .i64 (hd.minor:Int),.slice fo nf au,.int .i64 hd.length,.slice (x k).bo (c k).body.length (x k).aj]:=by unfold WE;rw [hn]
  rw [this];exact h3
 have HS:=H9 hS;clear h h1 hg hv hF hF1 hS hb hq hn;go_enter func35,ntmps35;go_wp2;go_ret;exact HFin.o _ HS.o.1 HS.o.2
theorem QJ (Lz:∀ k,gF (z k)) (Lo:gF o) (h:fQ w0 κ g gs s (Aq c x) c x z o w) (hk:k<4) (b:List UInt8) {fo bo po:Option Addr} {au nf nb aj np bY:Nat} (hn:b.length=nb) (hB:aT w bo aj b) (hl:(c k).body.length+nb≤100000) :
 Calls prog 35 #[.pointer (some ⟨g,0,none⟩),.pointer (some ⟨g,1+k*7,none⟩),.agg #[.int .i64 2,.string ⟨#[]⟩,.string ⟨#[]⟩,.int .i64 0,.slice fo nf au,.int .i64 0,.slice bo nb aj,.string ⟨#[]⟩,.string ⟨#[]⟩,.string ⟨#[]⟩,.slice po np bY,.int .i64 0]] w fun e w'=>sW w0 κ g gs c z o k w ⟨s,(c k).hd,(c k).body++b,[]⟩ e w':=by
 have hb:=(Below.refl _ w).alloc (Nat.le_refl _) (.cells #[.int .i64 2,.string ⟨#[]⟩,.string ⟨#[]⟩,.int .i64 0,.slice fo nf au,.int .i64 0,.slice bo nb aj,.string ⟨#[]⟩,.string ⟨#[]⟩,.string ⟨#[]⟩,.slice po np bY,.int .i64 0] 72);have h1:=(h.stay Lz Lo hb).stay Lz Lo (aA _ _);have hg:=h1.YM;have hv:Aq c x k=[.pointer (some ⟨(x k).gp,0,none⟩),.string ⟨(c k).hd.method.toArray⟩,.string ⟨(c k).hd.target.toArray⟩,.int .i64 ((c k).hd.minor:Int),.slice (x k).fo (c k).hd.fields.length (x k).au,.int .i64 (c k).hd.length,.slice (x k).bo (c k).body.length (x k).aj]:=rfl;have c6:=hg.at_ hk (j:=6) (by decide) (by rw [hv];rfl);have ZM:=H9 (h1.held (.bd k) hk);have HB:=H9 ((hB.stay hb).stay (aA _ _));obtain ⟨j0,hj0,hy0,hy1,hy2⟩:=info_parts dD;have Hj:=H9 hj0;have JL:=H9 hy0;have JM:=H9 hy1;have JN:=H9 hy2
 obtain ⟨q,hq⟩:∃ q,1+k*7=q:=⟨_,rfl⟩;have vW:Hid (∀ jJ dV w5,aI w5 (fun i=>dB (c k).body (x k).bo=some i∨(w.alloc (.cells #[.int .i64 2,.string ⟨#[]⟩,.string ⟨#[]⟩,.int .i64 0,.slice fo nf au,.int .i64 0,.slice bo nb aj,.string ⟨#[]⟩,.string ⟨#[]⟩,.string ⟨#[]⟩,.slice po np bY,.int .i64 0] 72)).drew.heap.size≤i) 5 jJ dV ((c k).body++b)→Turns (fun i=>dB (c k).body (x k).bo=some i) (w.alloc (.cells #[.int .i64 2,.string ⟨#[]⟩,.string ⟨#[]⟩,.int .i64 0,.slice fo nf au,.int .i64 0,.slice bo nb aj,.string ⟨#[]⟩,.string ⟨#[]⟩,.string ⟨#[]⟩,.slice po np bY,.int .i64 0] 72)).drew w5→(w5.cell? ⟨g,q+6,none⟩=some (.slice (x k).bo (c k).body.length (x k).aj)∧w5.frozen? ⟨g,q+6,none⟩=false)∧sW w0 κ g gs c z o k w ⟨s,(c k).hd,(c k).body++b,[]⟩ (.returned (.slice none 0 0)) (w5.setCell ⟨g,q+6,none⟩ (.slice jJ ((c k).body.length+nb) dV))):=fun jJ dV w5 Iw rV=>by
  have h5:=h1.grow Lz Lo k hk Iw rV;have hg5:=h5.YM;have hr:=hg5.set hk (j:=6) (by decide) (.slice jJ ((c k).body.length+nb) dV);have hTs:Turns (fun i=>i=g) w5 (w5.setCell ⟨g,1+k*7+6,none⟩ (.slice jJ ((c k).body.length+nb) dV)):=Turns.setCell _ _ _ _ rfl;have h6:=h5.row Lz Lo hr hTs;rw [hq] at h6 hTs;have cc6:=hg5.at_ hk (j:=6) (by decide) (by rw [hv];rfl);have ff6:=hg5.fz (1+k*7+6);rw [hq] at cc6 ff6;have hz5:=rV.size;have hza:(w.alloc (.cells #[.int .i64 2,.string ⟨#[]⟩,.string ⟨#[]⟩,.int .i64 0,.slice fo nf au,.int .i64 0,.slice bo nb aj,.string ⟨#[]⟩,.string ⟨#[]⟩,.string ⟨#[]⟩,.slice po np bY,.int .i64 0] 72)).drew.heap.size=w.heap.size+1:=by show (w.alloc _).heap.size=_;rw [World.size_alloc]
  refine ⟨⟨cc6,ff6⟩,⟨⟨none,0,0,rfl,rfl,aT.nil _⟩,⟨bK (bK κ (w.alloc (.cells #[.int .i64 2,.string ⟨#[]⟩,.string ⟨#[]⟩,.int .i64 0,.slice fo nf au,.int .i64 0,.slice bo nb aj,.string ⟨#[]⟩,.string ⟨#[]⟩,.string ⟨#[]⟩,.slice po np bY,.int .i64 0] 72)).drew.heap.size (.bd k)) w5.heap.size .row,upd x k { x k with bo:=jJ,aj:=dV },?_,((Ext.refl κ _).bK (by omega) _).bK (by omega) _⟩,((Turns.of_below (then_ hb (aA _ _))).trans rV (fun i e _=>?_)).trans hTs (fun i e _=>Or.inl (by rw [e];exact (h.held .row).2))⟩⟩
  · rw [zi];have:WE ⟨(c k).rq,(c k).hd,(c k).body++b⟩ { x k with bo:=jJ,aj:=dV }=(Aq c x k).set 6 (.slice jJ ((c k).body.length+nb) dV):=by unfold WE Aq;rw [List.length_append,hn];rfl
    rw [this];exact h6
  · have hne:(c k).body≠[]:=fun e2=>by unfold dB at e;rw [if_pos e2] at e;cases e
    rcases h.held (.bd k) hk with ⟨_,_,h3⟩ | ⟨h3,_⟩
    · unfold dB at e;rw [if_neg hne] at e;cases l8:(x k).bo with
      | none=>rw [l8] at e;cases e
      | some a=>rw [l8] at e;injection e with e;rw [←e];exact Or.inr (Or.inr (h3 a l8))
    · exact absurd h3 hne
 rw [hq] at c6 ⊢;clear h h1 hg hv hB hb hq hj0 hy0 hy1 hy2;generalize hbl:(c k).body.length=nl at *;have Yt:=H9 hbl;clear hbl;have HHn:=H9 hn;clear hn;go_enter func35,ntmps35;go_upto_region 5 with fail
 go_region_law ((refine jA (by rfl) (.tmp 24) (.tmp 26) 31 (by rfl) 5 j0 underlying31 Hj.o JL.o JM.o JN.o (by rfl) (by rfl) ZM.o Yt.o HB.o HHn.o (by omega) ?_;intro bo5 cap5 w5 AR rV;obtain ⟨⟨d6,e6⟩,hm⟩:=vW.o bo5 cap5 w5 AR rV;have HM:=H9 hm;clear AR rV hm))
 all_goals
  go_wp2;go_ret;exact HM.o
theorem U6 (Lz:∀ k,gF (z k)) (Lo:gF o) (h:fQ w0 κ g gs s (Aq c x) c x z o w) (hk:k<4) (ok:Sr.Ok s) (hc:Gt.sH (c k)) {fo bo po:Option Addr} {au nf nb aj np bY:Nat} (hl:(c k).body.length≤20000) :
 Calls prog 35 #[.pointer (some ⟨g,0,none⟩),.pointer (some ⟨g,1+k*7,none⟩),.agg #[.int .i64 3,.string ⟨#[]⟩,.string ⟨#[]⟩,.int .i64 0,.slice fo nf au,.int .i64 0,.slice bo nb aj,.string ⟨#[]⟩,.string ⟨#[]⟩,.string ⟨#[]⟩,.slice po np bY,.int .i64 0]] w fun e w'=>sW w0 κ g gs c z o k w (Gt.ev Tu.aS ⟨s,(c k).hd,(c k).body,[]⟩ .fin) e w':=by
 have hb:=(Below.refl _ w).alloc (Nat.le_refl _) (.cells #[.int .i64 3,.string ⟨#[]⟩,.string ⟨#[]⟩,.int .i64 0,.slice fo nf au,.int .i64 0,.slice bo nb aj,.string ⟨#[]⟩,.string ⟨#[]⟩,.string ⟨#[]⟩,.slice po np bY,.int .i64 0] 72);have hza:(w.alloc (.cells #[.int .i64 3,.string ⟨#[]⟩,.string ⟨#[]⟩,.int .i64 0,.slice fo nf au,.int .i64 0,.slice bo nb aj,.string ⟨#[]⟩,.string ⟨#[]⟩,.string ⟨#[]⟩,.slice po np bY,.int .i64 0] 72)).heap.size=w.heap.size+1:=World.size_alloc ..;have h0:=h.trim Lz Lo;have h1:=h0.stay Lz Lo hb;have zo:=H9 (wU h1.YM hk (rfl:Aq c x k=[.pointer (some ⟨(x k).gp,0,none⟩),.string ⟨(c k).hd.method.toArray⟩,.string ⟨(c k).hd.target.toArray⟩,.int .i64 ((c k).hd.minor:Int),.slice (x k).fo (c k).hd.fields.length (x k).au,.int .i64 (c k).hd.length,.slice (x k).bo (c k).body.length (x k).aj]));have H0:=H9 h;have H1:=H9 h1;have HLz:=H9 Lz;have nH:=H9 Lo;have HCk:=H9 hc;have kV:=H9 ok
 have HZa:=H9 hza;have YE:=H9 hb;obtain ⟨R,hR⟩:∃ R,R=Gt.over Tu.aS s (c k).hd (c k).body:=⟨_,rfl⟩;have HG:Hid (Gt.ev Tu.aS ⟨s,(c k).hd,(c k).body,[]⟩ .fin=⟨R.1,Rq.hd0,[],Gt.textOf R.2⟩):=by rw [hR];rfl
 have HRr:=H9 hR;rw [HG.o];clear h h0 h1 hza hb hR HG Lz Lo hc ok;go_enter func35,ntmps35;go_wp2_with fail
 refine zo.o.mono ?_;rintro e w2 ⟨rfl,hr2,dL⟩;have h2:=H1.o.row HLz.o nH.o hr2 dL;have hz2:=dL.size;have hk1:∀ i,i=g→bK κ w.heap.size .out i=.row:=fun i e=>by rw [e];exact (H1.o.held .row).2
 have hfl:bS w2 (x k).fo (x k).au (c k).hd.fields.length (aC (Rq.iN (c k).hd.fields)):=((h2.held (.fl k)).1 hk).is;have hby:aT w2 (x k).bo (x k).aj (c k).body:=aI.q8 (h2.held (.bd k) hk);have wZ:=H9 (LZ (g:=g) (w:=w2) (m:=⟨(c k).hd.method.toArray⟩) (t:=⟨(c k).hd.target.toArray⟩) (mi:=((c k).hd.minor:Int)) (ln:=(c k).hd.length) ⟨h2.pow,h2.p8,fun i e=>h2.far i (by rw [e];intro h;cases h)⟩ (h2.held .dI) kV.o h2.YM.store (acU HCk.o.hd hfl) (c k).body rfl hby hl (by show (c k).hd.target.toArray.size≤_;rw [List.size_toArray];have:=HCk.o.hd.target;omega));have H2:=H9 h2;have HT2:=H9 dL
 clear hr2 dL h2 hfl hby zo;go_wp2_with fail
 refine wZ.o.mono ?_;rintro e w3 ⟨⟨fo3,acV,nf3,Zw,acW,nb3,rfl,hn3,VE,hm3,hB3,_,_⟩,dU,j5⟩;rw [show Gt.answer Tu.aS s ⟨(c k).hd.method.toArray⟩ ⟨(c k).hd.target.toArray⟩ (Gt.iN (c k).hd.fields) (c k).body=R from HRr.o.symm] at hn3 VE hm3 hB3 dU;rw [show Gt.answer Tu.aS s ⟨(c k).hd.method.toArray⟩ ⟨(c k).hd.target.toArray⟩ (Gt.iN (c k).hd.fields) (c k).body=R from HRr.o.symm];have h3:=H2.o.dI HLz.o nH.o dU j5;have hz3:=j5.size;have hsm:Gt.Small R.2:=by rw [HRr.o];exact Gt.u6 kV.o _ _ _ _
 have oz:=H9 (Ei w3 R.2 fo3 Zw nf3 acV nb3 acW hsm hn3 VE hm3 hB3 (h3.pow.stay h3.p8));have H3:=H9 h3;have HT3:=H9 j5
 clear hn3 VE hm3 hB3 dU j5 h3 hsm wZ;go_wp2_with fail
 refine oz.o.mono ?_;rintro e w4 ⟨⟨rX,cap4,n4,rfl,Gb,hB4⟩,hb4⟩;have h4:=H3.o.stay HLz.o nH.o hb4;have h5:=(h4.head k Rq.hd0 none 0 (iT.nil _ _)).nobody k;rw [lD,lD,bA,bA] at h5;have HFin:Hid (sW w0 κ g gs c z o k w ⟨R.1,Rq.hd0,[],Gt.textOf R.2⟩ (.returned (.slice rX n4 cap4)) w4):=by
  have hza:=HZa.o;refine ⟨⟨rX,cap4,n4,rfl,Gb,hB4⟩,⟨_,upd x k { gp:=(x k).gp,fo:=none,au:=0,bo:=none,aj:=0 },?_,(((Ext.refl κ w.heap.size).bK (Nat.le_refl _) .out).bK (m:=(w.alloc (.cells #[.int .i64 3,.string ⟨#[]⟩,.string ⟨#[]⟩,.int .i64 0,.slice fo nf au,.int .i64 0,.slice bo nb aj,.string ⟨#[]⟩,.string ⟨#[]⟩,.string ⟨#[]⟩,.slice po np bY,.int .i64 0] 72)).heap.size) (by omega) .row).bK (m:=w2.heap.size) (by omega) .dI⟩,?_⟩
  · rw [zi];exact h5
  · refine (((Turns.of_below YE.o).trans HT2.o (fun i e hi=>Or.inl ?_)).trans HT3.o (fun i e hi=>Or.inr (Or.inl ?_))).trans (Turns.of_below (S:=fun _=>False) hb4) (fun _ e _=>e.elim)
    · have:=hk1 i e;rw [bJ hi] at this;exact this
    · have e:bK (bK κ w.heap.size .out) (w.alloc (.cells #[.int .i64 3,.string ⟨#[]⟩,.string ⟨#[]⟩,.int .i64 0,.slice fo nf au,.int .i64 0,.slice bo nb aj,.string ⟨#[]⟩,.string ⟨#[]⟩,.string ⟨#[]⟩,.slice po np bY,.int .i64 0] 72)).heap.size .row i=.dI:=e;rw [bJ (by omega),bJ hi] at e;exact e
 clear h4 h5 hb4 hB4 hk1 Gb;go_wp2;go_ret;exact HFin.o
theorem QK (Lz:∀ k,gF (z k)) (Lo:gF o) (h:fQ w0 κ g gs s (Aq c x) c x z o w) (hk:k<4) (cd:Nat) {fo bo po:Option Addr} {au nf nb aj np bY:Nat} :
 Calls prog 35 #[.pointer (some ⟨g,0,none⟩),.pointer (some ⟨g,1+k*7,none⟩),.agg #[.int .i64 4,.string ⟨#[]⟩,.string ⟨#[]⟩,.int .i64 0,.slice fo nf au,.int .i64 0,.slice bo nb aj,.string ⟨#[]⟩,.string ⟨#[]⟩,.string ⟨#[]⟩,.slice po np bY,.int .i64 (cd:Int)]] w fun e w'=>sW w0 κ g gs c z o k w ⟨s,Rq.hd0,[],Gt.textOf (Gt.ny cd)⟩ e w':=by
 have hb:=(Below.refl _ w).alloc (Nat.le_refl _) (.cells #[.int .i64 4,.string ⟨#[]⟩,.string ⟨#[]⟩,.int .i64 0,.slice fo nf au,.int .i64 0,.slice bo nb aj,.string ⟨#[]⟩,.string ⟨#[]⟩,.string ⟨#[]⟩,.slice po np bY,.int .i64 (cd:Int)] 72);have hza:(w.alloc (.cells #[.int .i64 4,.string ⟨#[]⟩,.string ⟨#[]⟩,.int .i64 0,.slice fo nf au,.int .i64 0,.slice bo nb aj,.string ⟨#[]⟩,.string ⟨#[]⟩,.string ⟨#[]⟩,.slice po np bY,.int .i64 (cd:Int)] 72)).heap.size=w.heap.size+1:=World.size_alloc ..;have h0:=h.trim Lz Lo;have h1:=h0.stay Lz Lo hb;have zo:=H9 (wU h1.YM hk (rfl:Aq c x k=[.pointer (some ⟨(x k).gp,0,none⟩),.string ⟨(c k).hd.method.toArray⟩,.string ⟨(c k).hd.target.toArray⟩,.int .i64 ((c k).hd.minor:Int),.slice (x k).fo (c k).hd.fields.length (x k).au,.int .i64 (c k).hd.length,.slice (x k).bo (c k).body.length (x k).aj]));have hne:w.heap.size≠g:=by have:=h.YM.lt;omega
 have H1:=H9 h1;have HLz:=H9 Lz;have nH:=H9 Lo
 have HZa:=H9 hza;have YE:=H9 hb;have HFa:=H9 (fun W=>K4 cd W);have jr:=H9 (heap_alloc_new w (.cells #[.int .i64 4,.string ⟨#[]⟩,.string ⟨#[]⟩,.int .i64 0,.slice fo nf au,.int .i64 0,.slice bo nb aj,.string ⟨#[]⟩,.string ⟨#[]⟩,.string ⟨#[]⟩,.slice po np bY,.int .i64 (cd:Int)] 72));clear h h0 h1 hza hb Lz Lo;go_enter func35,ntmps35;go_wp2_with fail
 refine zo.o.mono ?_;rintro e w2 ⟨rfl,hr2,dL⟩;have h2:=H1.o.row HLz.o nH.o hr2 dL;have hz2:=dL.size;have a11:w2.cell? ⟨w.heap.size,11,none⟩=some (.int .i64 (cd:Int)):=cell_of_row w2 _ 11 _ _ _ (dL.row jr.o hne);have hk1:∀ i,i=g→bK κ w.heap.size .out i=.row:=fun i e=>by rw [e];exact (H1.o.held .row).2
 have H2:=H9 h2;have HT2:=H9 dL
 clear hr2 dL h2 zo;go_wp2_with fail
 refine (HFa.o _).mono ?_;rintro e w3 ⟨rfl,hb3⟩;have h3:=H2.o.stay HLz.o nH.o hb3;have oz:=H9 (Ei w3 (Gt.ny cd) none none 0 0 0 0 (Gt.sN cd) rfl (bS.nil _) rfl (aT.nil _) (h3.pow.stay h3.p8));have H3:=H9 h3;have HB3:=H9 hb3
 clear h3 hb3;go_wp2_with fail
 refine oz.o.mono ?_;rintro e w4 ⟨⟨rX,cap4,n4,rfl,Gb,hB4⟩,hb4⟩;have h4:=H3.o.stay HLz.o nH.o hb4;have h5:=(h4.head k Rq.hd0 none 0 (iT.nil _ _)).nobody k;rw [lD,lD,bA,bA] at h5;have HFin:Hid (sW w0 κ g gs c z o k w ⟨s,Rq.hd0,[],Gt.textOf (Gt.ny cd)⟩ (.returned (.slice rX n4 cap4)) w4):=by
  have hza:=HZa.o;refine ⟨⟨rX,cap4,n4,rfl,Gb,hB4⟩,⟨_,upd x k { gp:=(x k).gp,fo:=none,au:=0,bo:=none,aj:=0 },?_,((Ext.refl κ w.heap.size).bK (Nat.le_refl _) .out).bK (m:=(w.alloc (.cells #[.int .i64 4,.string ⟨#[]⟩,.string ⟨#[]⟩,.int .i64 0,.slice fo nf au,.int .i64 0,.slice bo nb aj,.string ⟨#[]⟩,.string ⟨#[]⟩,.string ⟨#[]⟩,.slice po np bY,.int .i64 (cd:Int)] 72)).heap.size) (by omega) .row⟩,?_⟩
  · rw [zi];exact h5
  · refine ((Turns.of_below YE.o).trans HT2.o (fun i e hi=>Or.inl ?_)).trans (Turns.of_below (S:=fun _=>False) (then_ HB3.o hb4)) (fun _ e _=>e.elim);have:=hk1 i e;rw [bJ hi] at this;exact this
 clear h4 h5 hb4 hB4 hk1 Gb;go_wp2;go_ret;exact HFin.o
end
def VH (ao:Option Addr) (cap:Nat) (es:List aZ):Ob:=fun w S=>jh w S 72 ao cap es
theorem VH.law (ao:Option Addr) (cap:Nat) (es:List aZ):gF (VH ao cap es):=⟨fun h ht hs=>jh.turns h ht hs,fun h hs=>jh.mono h hs⟩
def YN (ao:Option Addr) (cap:Nat) (l:List UInt8):Ob:=fun w S=>aI w S 5 ao cap l
theorem YN.law (ao:Option Addr) (cap:Nat) (l:List UInt8):gF (YN ao cap l):=⟨fun h ht hs=>aI.turns h ht hs,fun h hs=>aI.mono h hs⟩
def U7 (k:Nat) (b:Ob):Nat→Ob:=fun j w S=>j=k→b w S
theorem U7.law {k:Nat} {b:Ob} (hb:gF b):∀ j,gF (U7 k b j):=fun _=>⟨fun h ht hs e=>hb.turns (h e) ht hs,fun h hs e=>hb.mono (h e) hs⟩
theorem jh.lit {w:World} {S:Nat→Prop} {tE:Nat} {ao:Option Addr} {cap:Nat} {es:List aZ} (h:jh w S tE ao cap es) (h0:0<es.length):∃ b o,ao=some ⟨b,o,none⟩∧∀ j (hj:j<es.length),∃ s,(∀ i u,(es[j].cells s)[i]? = some u→w.cell? ⟨b,o+j*12+i,none⟩=some u)∧sD w S es[j] s:=by
 obtain ⟨ps,rfl,hO,_,hI⟩:=h;have hv:=hO.jg;obtain ⟨b,o,rfl,hc⟩:=hv.lit (by rw [iH];rw [List.length_map] at h0;omega);refine ⟨b,o,rfl,fun j hj=>?_⟩;have hj':j<ps.length:=by simpa using hj
 refine ⟨ps[j].2,fun i u hi=>?_,?_⟩
 · rw [List.getElem_map] at hi;have hl:i<12:=(List.getElem?_eq_some_iff.1 hi).1;rw [←l7 _ j hj' i hl] at hi;have:=hc _ _ hi;rw [Nat.add_assoc];exact this
 · rw [List.getElem_map];exact (hI _ (List.getElem_mem hj')).mono (fun _ _ e=>e.1)
section
variable {w0 w w':World} {κ:Nat→Ar} {g gs:Nat} {s:Sr.Sh} {v:Nat→List Value} {c:Nat→Gt.Cn} {x:Nat→OQ} {z:Nat→Ob} {o o':Ob} {k:Nat}
theorem fQ.answered (Lz:∀ k,gF (z k)) (Lo:gF o) (Lo':gF o') (h:fQ w0 κ g gs s v c x z o w) {T N:Nat→Prop} (ht:Turns T w w') (hT:∀ k,T k→κ k=.ret) (hY:o' w' N) (hN:∀ k,N k→κ k=.ret∨w.heap.size≤k):fQ w0 (bK κ w.heap.size .ret) g gs s v c x z o' w' :=
 ⟨h.held.act (jD Lz Lo) ht hT (X':=Cu g gs s v 4 c x z o') Lo' hY hN (fun d hd=>by cases d <;> first | rfl | exact absurd rfl hd),h.pow,h.p8.trans (ht.below (fun k e=>h.far k (by rw [hT k e];intro h;cases h)) h.p8.size),Ml h.far h.p8.size⟩
theorem aat (c:Nat→Gt.Cn) (x:Nat→OQ) (k:Nat) (r:Rq.St):Aq (upd c k { c k with rq:=r }) x=Aq c x:=by
 funext i;unfold Aq upd;split
 · next h=>subst h;rfl
 · rfl
theorem fQ.fed (h:fQ w0 κ g gs s v c x noZ Ie w) (hk:k<4) {l:List UInt8} {e:Ending} (hF:Mk w (fun i=>κ i=.rq k) (x k).gp (c k).rq l e w'):∃ ao cap n F7,e=.returned (.slice ao n cap)∧n=(Rq.join (Rq.outs (c k).rq l)).length∧fQ w0 F7 g gs s v (upd c k { c k with rq:=Rq.fold (c k).rq l }) x (U7 k (VH ao cap ((Rq.join (Rq.outs (c k).rq l)).map Rq.Ev.d))) Ie w'∧Turns (fun i=>κ i=.rq k) w w'∧∀ i,i<w.heap.size→F7 i=κ i∨κ i≠.out:=by
 obtain ⟨ao,cap,n,S',So',he,hn,hR,hO,hd,hS,hSo,hT⟩:=hF;obtain ⟨F7,h1,h2,h3⟩:=h.held.split (jD (fun _=>gF.iU) gF.iU) (p:=.rq k) (e:=.fl k) (by intro h;cases h) (X':=Cu g gs s v 4 (upd c k { c k with rq:=Rq.fold (c k).rq l }) x (U7 k (VH ao cap ((Rq.join (Rq.outs (c k).rq l)).map Rq.Ev.d))) Ie) hT (fun _ e=>e) (P:=S') (E:=So') (fun _=>by rw [bA];exact hR) (jD (U7.law (VH.law _ _ _)) gF.iU _) hd hS hSo
  (fun S hX hs1 hs2=>⟨fun hk=>by rw [bA];exact (hX.1 hk).mono (fun i _ e=>hs1 i e),fun _=>hO.all.mono (fun i _ e=>hs2 i e)⟩)
  (fun d h1 h2 => by
   cases d with
   | row=>rfl
   | dI=>rfl
   | rq j =>
     have e:j≠k:=fun e=>h1 (by rw [e]);simp only [Cu];rw [upd_ne _ _ e]
   | fl j =>
     have e:j≠k:=fun e=>h2 (by rw [e]);simp only [Cu];rw [upd_ne _ _ e];funext W S;unfold U7;simp [e]
   | bd j =>
     by_cases e:j=k
     · subst e;simp only [Cu,bA]
     · simp only [Cu];rw [upd_ne _ _ e]
   | ret=>rfl
   | out=>rfl)
 refine ⟨ao,cap,n,F7,he,hn,⟨h1,h.pow,h.p8.trans (hT.below (fun i e=>h.far i (by rw [e];intro h;cases h)) h.p8.size),fun i hi=>?_⟩,hT,fun i hi=>?_⟩
 · rcases Nat.lt_or_ge i w.heap.size with hl | hl
   · rcases h2 i hl with e | e
     · exact h.far i (by rw [←e];exact hi)
     · exact h.far i (by rw [e.1];intro h;cases h)
   · have:=h.p8.size;omega
 · rcases h2 i hi with e | e
   · exact Or.inl e
   · exact Or.inr (by rw [e.1];intro h;cases h)
end
structure NN (S:Nat→Prop) (w:World) (g gs:Nat) (c:Nat→Gt.Cn) (k:Nat) (r:Sr.Sh×Gt.Cn×List UInt8) (code:Int) (e:Ending) (w':World):Prop where
 ret:∃ (ao:Option Addr) (cap n:Nat),e=.returned (.tuple #[.slice ao n cap,.int .i64 code])∧n=r.2.2.length∧aT w' ao cap r.2.2
 at_:cu w' (av S w) g gs r.1 (upd c k r.2.1)
 turns:Turns S w w'
section
variable {w0 w:World} {S:Nat→Prop} {g gs:Nat} {s:Sr.Sh} {c:Nat→Gt.Cn}
theorem U8 {κ:Nat→Ar} {x:Nat→OQ} {z:Nat→Ob} {o:Ob} {k:Nat} (Lz:∀ k,gF (z k)) (Lo:gF o) (h:fQ w0 κ g gs s (Aq c x) c x z o w) (hk:k<4) (ok:Sr.Ok s) (hc:Gt.sH (c k)) (ev:Rq.Ev) (es:EvS) (hE:sD w (fun i=>κ i=.fl k) ev.d es) (hl:(c k).body.length+ev.d.bytes.length≤20000) :
 Calls prog 35 #[.pointer (some ⟨g,0,none⟩),.pointer (some ⟨g,1+k*7,none⟩),.agg #[.int .i64 ev.d.kind,.string ev.d.method,.string ev.d.target,.int .i64 ev.d.minor,.slice es.fo ev.d.fields.length es.au,.int .i64 ev.d.length,.slice es.bo ev.d.bytes.length es.aj,.string ev.d.fG,.string ev.d.eG,.string ev.d.ptype,.slice es.po ev.d.aL.length es.bY,.int .i64 ev.d.code]] w fun e w'=>sW w0 κ g gs c z o k w (Gt.ev Tu.aS ⟨s,(c k).hd,(c k).body,[]⟩ ev) e w':=by
 cases ev with
 | head hd=>exact QI Lz Lo h hk hd (Rq.fF _).symm hE.fields
 | body b=>exact QJ Lz Lo h hk b rfl hE.bytes.is (by have:(Rq.Ev.body b).d.bytes.length=b.length:=rfl;omega)
 | fin=>exact U6 Lz Lo h hk ok hc (by omega)
 | fail cd=>exact QK Lz Lo h hk cd
theorem Gt.U9 (s:Sr.Sh) (hd:Rq.Hd) (body out:List UInt8) (e:Rq.Ev):Gt.ev Tu.aS ⟨s,hd,body,out⟩ e={ Gt.ev Tu.aS ⟨s,hd,body,[]⟩ e with out:=out++(Gt.ev Tu.aS ⟨s,hd,body,[]⟩ e).out }:=by
 have:=Gt.SC Tu.aS ⟨s,hd,body,[]⟩ out e;rw [show ({ (⟨s,hd,body,[]⟩:Gt.Gs) with out:=out++[] }:Gt.Gs)=⟨s,hd,body,out⟩ from by rw [List.append_nil]] at this;exact this
structure Jv (w0:World) (S:Nat→Prop) (w:World) (g gs:Nat) (c:Nat→Gt.Cn) (k:Nat) (ro:Rq.St) (eo:Option Addr) (ec:Nat) (es:List Rq.Ev) (G:Gt.Gs) (ao:Option Addr) (cap:Nat) (wr:World):Prop where
 at_:∃ κ x,fQ w0 κ g gs G.s (Aq (upd c k ⟨ro,G.hd,G.body⟩) x) (upd c k ⟨ro,G.hd,G.body⟩) x (U7 k (VH eo ec (es.map Rq.Ev.d))) (YN ao cap G.out) wr∧∀ i,κ i≠.out→av S w i
 turns:Turns S w wr
 ok:Sr.Ok G.s
 hd:Rq.iV G.hd
theorem YO:∀ {s:Sr.Sh},Sr.Ok s→∀ m t l body,Sr.Ok (Tu.aS s m t l body).1:=fun h m t l b=>Tu.Nb h m t l b
theorem XE {κ:Nat→Ar} {k:Nat} {ro:Rq.St} {eo:Option Addr} {ec:Nat} {es:List Rq.Ev} {G G':Gt.Gs} {ao:Option Addr} {cap:Nat} {wb w5:World} {e:Ending} (hS:∀ i,κ i≠.out→av S w i) (hT:Turns S w wb) (hM:sW w0 κ g gs (upd c k ⟨ro,G.hd,G.body⟩) (U7 k (VH eo ec (es.map Rq.Ev.d))) (YN ao cap G.out) k wb G' e w5) (ok:Sr.Ok G'.s) (hhd:Rq.iV G'.hd) :
 ∃ (yP:Option Addr) (cap5 n5:Nat) (B:Nat→Prop),e=.returned (.slice yP n5 cap5)∧n5=G'.out.length∧aT w5 yP cap5 G'.out∧aI w5 B 5 ao cap G.out∧∀ Jw cap6 w6,aI w6 (fun i=>dB G.out ao=some i∨w5.heap.size≤i) 5 Jw cap6 (G.out++G'.out)→Turns (fun i=>dB G.out ao=some i) w5 w6→Jv w0 S w g gs c k ro eo ec es { G' with out:=G.out++G'.out } Jw cap6 w6:=by
 obtain ⟨yP,cap5,n5,he,hn,hB⟩:=hM.ret;obtain ⟨κ5,x5,h5,hE⟩:=hM.at_;have hz5:=hM.turns.size;have hzb:=hT.size;rw [lD,bA] at h5;have mU:aI w5 (fun i=>κ5 i=.ret) 5 ao cap G.out:=h5.held .ret;have hin:∀ i,dB G.out ao=some i→κ5 i=.ret:=fun i e=>by
  unfold dB at e;split at e
  · cases e
  · rename_i hne;rcases mU with ⟨_,_,h3⟩ | ⟨h1,_⟩
    · cases l8:ao with
      | none=>rw [l8] at e;cases e
      | some a=>rw [l8] at e;injection e with e;rw [←e];exact h3 a l8
    · exact absurd h1 hne
 have hS5:∀ i,κ5 i≠.out→av S w i:=fun i hi=>by
  rcases Nat.lt_or_ge i wb.heap.size with hl | hl
  · exact hS i (by rw [←hE i hl];exact hi)
  · exact Or.inr (by omega)
 refine ⟨yP,cap5,n5,_,he,hn,hB,mU,fun Jw cap6 w6 KZ lY=>⟨⟨bK κ5 w5.heap.size .ret,x5,h5.answered (U7.law (VH.law _ _ _)) (YN.law _ _ _) (YN.law _ _ _) lY hin KZ (fun i e=>?_),fun i hi=>?_⟩,(hT.trans hM.turns (fun i e hi=>?_)).trans lY (fun i e hi=>?_),ok,hhd⟩⟩
 · rcases e with e | e
   · exact Or.inl (hin i e)
   · exact Or.inr e
 · rcases Nat.lt_or_ge i w5.heap.size with hl | hl
   · rw [bJ hl] at hi;exact hS5 i hi
   · exact Or.inr (by omega)
 · have hn:κ i≠.out:=by rcases e with e | e | e <;> (rw [e];intro h;cases h)
   rcases hS i hn with h | h
   · exact h
   · omega
 · rcases hS5 i (by rw [hin i e];intro h;cases h) with h | h
   · exact h
   · omega
theorem Jv.done {k:Nat} {ro:Rq.St} {eo:Option Addr} {ec:Nat} {es:List Rq.Ev} {G:Gt.Gs} {ao:Option Addr} {cap:Nat} {wr:World} (h:Jv w0 S w g gs c k ro eo ec es G ao cap wr):aT wr ao cap G.out∧cu wr (av S w) g gs G.s (upd c k ⟨ro,G.hd,G.body⟩)∧Turns S w wr:=by
 obtain ⟨κ,x,hG,hS⟩:=h.at_;have hr:aI wr (fun i=>κ i=.ret) 5 ao cap G.out:=hG.held .ret;refine ⟨hr.q8,⟨κ,x,fun d=>?_,hS⟩,h.turns⟩;have hd:=hG.held d;cases d with
 | fl j=>exact ⟨hd.1,trivial⟩
 | ret=>trivial
 | row=>exact hd
 | dI=>exact hd
 | rq j=>exact hd
 | bd j=>exact hd
 | out=>trivial
end
section
variable {w0 w:World} {S:Nat→Prop} {g gs:Nat} {s:Sr.Sh} {c:Nat→Gt.Cn}
theorem Jy (k:Int) (hk:k<0∨4≤k) (bo:Option Addr) (aj n:Nat) (w:World) :
 Calls prog 13 #[.pointer (some ⟨g,0,none⟩),.int .i64 k,.slice bo n aj] w fun e w'=>e=.returned (.tuple #[.slice none 0 0,.int .i64 1])∧w'=w:=by
 have HI:=H9 (fun W=>o9 k W);rw [show (decide (0≤k)&&decide (k<4))=false from by rcases hk with h | h <;> simp <;> omega] at HI;go_enter func13,ntmps13;go_wp2_with fail
 refine (HI.o _).mono ?_;rintro e w1 ⟨rfl,hw⟩;subst hw;go_wp2;go_ret2;exact ⟨rfl,rfl⟩
theorem xB (hP:iO w0) (hW:Below w0.heap.size w0 w) (hF:∀ i,S i→w0.heap.size≤i) (h:cu w S g gs s c) (ok:Sr.Ok s) (k:Nat) (hk:k<4) (hc:Gt.sH (c k)) (l:List UInt8) {bo:Option Addr} {aj n:Nat} (hB:aT w bo aj l) (l8:l≠[]→∀ a,bo=some a→¬ S a.block) (hn:l.length=n) (hl:(c k).body.length+n≤20000) :
 Calls prog 13 #[.pointer (some ⟨g,0,none⟩),.int .i64 (k:Int),.slice bo n aj] w fun e w'=>NN S w g gs c k (Gt.feed Tu.aS s (c k) l) (if (c k).rq.ph=4 then 18 else 0) e w':=by
 have HI:=H9 (fun W=>o9 (k:Int) W);rw [show (decide ((0:Int)≤(k:Int))&&decide ((k:Int)<4))=true from by simp;omega] at HI;obtain ⟨κ,x,hH,hS⟩:=h;have hG0:fQ w0 κ g gs s (Aq c x) c x noZ Ie w:=⟨hH,hP,hW,fun i e=>hF i (hS i e)⟩;have cg:w.cell? ⟨g,1+k*7,none⟩=some (.pointer (some ⟨(x k).gp,0,none⟩)):=hG0.YM.at_ hk (j:=0) (u:=.pointer (some ⟨(x k).gp,0,none⟩)) (by decide) rfl;have HD:=H9 (Ak w (fun i=>κ i=.rq k) (x k).gp (c k).rq (hH (.rq k) hk));have k0:(0:Int)≤(k:Int):=by omega
 have k4:(k:Int)<4:=by omega
 by_cases h4:(c k).rq.ph=4
 · rw [if_pos h4];rw [decide_eq_true h4] at HD;have ZK:Gt.feed Tu.aS s (c k) l=(s,c k,[]):=by
    have:=Rq.gH l (c k).rq h4;unfold Gt.feed Gt.Ab;rw [this.1,this.2];rfl
   rw [ZK];have HFin:Hid (NN S w g gs c k (s,c k,[]) 18 (.returned (.tuple #[.slice none 0 0,.int .i64 18])) w):=⟨⟨none,0,0,rfl,rfl,aT.nil _⟩,by rw [upd_same];exact cu.mono ⟨κ,x,hH,hS⟩ (fun i _ e=>Or.inl e),Turns.refl _ _⟩;clear hH hS hG0 ZK h4 hB l8 hc ok;go_enter func13,ntmps13;go_wp2_with fail
   refine (HI.o _).mono ?_;rintro e w1 ⟨rfl,hw⟩;rw [hw];clear hw;go_wp2_with fail
   refine HD.o.mono ?_;rintro e w1 ⟨rfl,hw⟩;rw [hw];clear hw;go_wp2;go_ret2;exact HFin.o
 · rw [if_neg h4];rw [decide_eq_false h4] at HD;have HFe:=H9 (Ju w (fun i=>κ i=.rq k) (x k).gp (c k).rq l bo aj n (hH (.rq k) hk) hc.rq hB (fun hne a e e2=>l8 hne a e (hS _ (by rw [e2];intro h;cases h))) hn (by omega));have HG0:=H9 hG0;have HS:=H9 hS
   clear hH hS hG0 hB l8 h4;go_enter func13,ntmps13;go_wp2_with fail
   refine (HI.o _).mono ?_;rintro e w1 ⟨rfl,hw⟩;rw [hw];clear hw;go_wp2_with fail
   refine HD.o.mono ?_;rintro e w1 ⟨rfl,hw⟩;rw [hw];clear hw;go_wp2_with fail
   refine HFe.o.mono ?_;rintro e w1 hFr;obtain ⟨eo,ec,ne,κ1,rfl,hne,hG1,hT1,hE1⟩:=HG0.o.fed hk hFr;have hS1:∀ i,κ1 i≠.out→av S w i:=fun i hi=>by
    rcases Nat.lt_or_ge i w.heap.size with hl | hl
    · rcases hE1 i hl with e | e
      · exact Or.inl (HS.o i (by rw [←e];exact hi))
      · exact Or.inl (HS.o i e)
    · exact Or.inr hl
   rw [←aat c x k (Rq.fold (c k).rq l)] at hG1;have je:=Rq.Nc (c k).rq l;obtain ⟨es,hes⟩:∃ es,es=Rq.join (Rq.outs (c k).rq l):=⟨_,rfl⟩;have YP:∀ e∈es,e.oK:=by rw [hes];exact Rq.jP _ (Rq.lT l hc.rq)
   have jW:Hid (Gt.feed Tu.aS s (c k) l=((Gt.evs Tu.aS ⟨s,(c k).hd,(c k).body,[]⟩ es).s,⟨Rq.fold (c k).rq l,(Gt.evs Tu.aS ⟨s,(c k).hd,(c k).body,[]⟩ es).hd,(Gt.evs Tu.aS ⟨s,(c k).hd,(c k).body,[]⟩ es).body⟩,(Gt.evs Tu.aS ⟨s,(c k).hd,(c k).body,[]⟩ es).out)):=by rw [hes,Gt.qy];rfl
   rw [←hes] at hne hG1 je;have hR0:Jv w0 S w g gs c k (Rq.fold (c k).rq l) eo ec es ⟨s,(c k).hd,(c k).body,[]⟩ none 0 w1:=⟨⟨κ1,x,⟨fun d=>by
    have hd:=hG1.held d;cases d with
    | ret =>
      show aI w1 (fun i=>κ1 i=.ret) 5 none 0 [];exact aI.nil _ _ _
    | fl j=>exact hd
    | row=>exact hd
    | dI=>exact hd
    | rq j=>exact hd
    | bd j=>exact hd
    | out=>trivial,hG1.pow,hG1.p8,hG1.far⟩,hS1⟩,hT1.mono (fun i e=>HS.o i (by rw [e];intro h;cases h)),ok,hc.hd⟩
   have hbd:∀ i (hi:i<es.length),(Gt.evs Tu.aS ⟨s,(c k).hd,(c k).body,[]⟩ (es.take i)).body.length+es[i].d.bytes.length≤20000:=fun i hi=>by
    have h1:=Gt.Az Tu.aS (es.take i) ⟨s,(c k).hd,(c k).body,[]⟩;have h2:Rq.cK (es.take i)+es[i].d.bytes.length≤Rq.cK es:=by
     conv=>rhs;rw [←List.take_append_drop i es,Rq.iy,List.drop_eq_getElem_cons hi]
     generalize es[i]=e;cases e with
     | body b=>show _+b.length≤_+(b.length+_);omega
     | head _=>exact Nat.add_le_add_left (Nat.zero_le _) _
     | fin=>exact Nat.add_le_add_left (Nat.zero_le _) _
     | fail _=>exact Nat.add_le_add_left (Nat.zero_le _) _
    have h3:=je.2.1;have h4:(⟨s,(c k).hd,(c k).body,[]⟩:Gt.Gs).body.length=(c k).body.length:=rfl;omega
   have hol:∀ i,i≤es.length→(Gt.evs Tu.aS ⟨s,(c k).hd,(c k).body,[]⟩ (es.take i)).out.length≤6000*40000:=fun i hi=>by
    have h1:=Gt.qH (es.take i) (g:=⟨s,(c k).hd,(c k).body,[]⟩) ok;rw [List.length_take] at h1;have h3:=je.1;have h4:(⟨s,(c k).hd,(c k).body,[]⟩:Gt.Gs).out.length=0:=rfl;omega
   have hlen:es.length≤40000:=by have:=je.1;omega
   have acX:Rq.Good (Rq.fold (c k).rq l):=hc.rq.fold l;have F8:=H9 hR0;have AV:=H9 hbd;have HOl:=H9 hol;have Cm:=H9 YP;have HRo:=H9 acX
   obtain ⟨j0,hj0,hy0,hy1,hy2⟩:=info_parts dD;have Hj:=H9 hj0;have JL:=H9 hy0;have JM:=H9 hy1;have JN:=H9 hy2
   subst hne;clear hG1 hT1 hE1 hS1 je YP hes hR0 hbd hol acX HG0 HFe HI HD hFr cg hj0 hy0 hy1 hy2;generalize Rq.fold (c k).rq l=ro at *;generalize agw:(⟨s,(c k).hd,(c k).body,[]⟩:Gt.Gs)=G0 at *;go_wp2;go_loopw [9,37] (fun vo vi wr=>∃ (i m:Nat) (ao:Option Addr) (cap:Nat),i≤es.length∧vi=.int .i64 i∧vo=.slice ao m cap∧m=(Gt.evs Tu.aS G0 (es.take i)).out.length∧Jv w0 S w g gs c k ro eo ec es (Gt.evs Tu.aS G0 (es.take i)) ao cap wr) (fun _ vi _=>es.length - (intOf vi).toNat)
   case atStart=>exact ⟨0,0,none,0,Nat.zero_le _,rfl,rfl,by rw [←agw];rfl,F8.o⟩
   case round =>
    obtain ⟨i,m,ao,cap,hi,rfl,rfl,hm,hR⟩:=hrel;by_cases hlt:i<es.length
    · have hlt':(i:Int)<es.length:=by omega
      have LG:Gt.evs Tu.aS G0 (es.take (i+1))=Gt.ev Tu.aS (Gt.evs Tu.aS G0 (es.take i)) es[i]:=by rw [List.take_succ_eq_append_getElem hlt,Gt.Aa];rfl
      have hbi:=AV.o i hlt;have hoi:=HOl.o (i+1) (by omega);have agx:=HOl.o i (by omega);have hfi:=Cm.o es[i] (List.getElem_mem hlt);obtain ⟨κ,x2,hG,hS2⟩:=hR.at_;have hEv:jh wr (fun j=>κ j=.fl k) 72 eo ec (es.map Rq.Ev.d):=(hG.held (.fl k)).2 rfl;have hcap:es.length≤ec:=by have:=hEv.YV.1;rw [List.length_map] at this;exact this
      obtain ⟨b,o,rfl,acY⟩:=hEv.lit (by rw [List.length_map];omega);obtain ⟨sl,hcl,hIn⟩:=acY i (by rw [List.length_map];exact hlt);rw [List.getElem_map] at hcl hIn;generalize Gt.evs Tu.aS G0 (es.take i)=G at *;rw [LG] at hoi;generalize hev:es[i]=ev at *;have bT:=(Below.refl _ wr).alloc (Nat.le_refl _) (.cells #[.int .i64 ev.d.kind,.string ev.d.method,.string ev.d.target,.int .i64 ev.d.minor,.slice sl.fo ev.d.fields.length sl.au,.int .i64 ev.d.length,.slice sl.bo ev.d.bytes.length sl.aj,.string ev.d.fG,.string ev.d.eG,.string ev.d.ptype,.slice sl.po ev.d.aL.length sl.bY,.int .i64 ev.d.code] 72);have hGA:=hG.stay (U7.law (VH.law _ _ _)) (YN.law _ _ _) bT;have acZ:=hIn.turns (Turns.of_below (S:=fun _=>False) bT) (fun _ _ e=>e);have HMt:=H9 (U8 (U7.law (VH.law _ _ _)) (YN.law _ _ _) hGA hk hR.ok (by rw [bA];exact ⟨HRo.o,hR.hd⟩) ev sl acZ (by rw [bA];exact hbi));rw [bA] at HMt;have hNx:=fun (w5:World) (e5:Ending)=>XE (e:=e5) (w5:=w5) (G:=G) (G':=Gt.ev Tu.aS ⟨G.s,G.hd,G.body,[]⟩ ev) (κ:=κ) (es:=es) (eo:=some ⟨b,o,none⟩) (ec:=ec) (ao:=ao) (cap:=cap) (ro:=ro) (k:=k) (c:=c) (g:=g) (gs:=gs) (w0:=w0) hS2 (hR.turns.trans (Turns.of_below (S:=fun _=>False) bT) (fun _ e _=>e.elim));have hfr:Gt.ev Tu.aS G ev={ Gt.ev Tu.aS ⟨G.s,G.hd,G.body,[]⟩ ev with out:=G.out++(Gt.ev Tu.aS ⟨G.s,G.hd,G.body,[]⟩ ev).out }:=Gt.U9 G.s G.hd G.body G.out ev;have hok':Sr.Ok (Gt.ev Tu.aS ⟨G.s,G.hd,G.body,[]⟩ ev).s:=Gt.SF Tu.aS YO (g:=⟨G.s,G.hd,G.body,[]⟩) hR.ok ev;have ac0:Rq.iV (Gt.ev Tu.aS ⟨G.s,G.hd,G.body,[]⟩ ev).hd:=Gt.Yb Tu.aS (g:=⟨G.s,G.hd,G.body,[]⟩) hR.hd hfi;have hsum:G.out.length+(Gt.ev Tu.aS ⟨G.s,G.hd,G.body,[]⟩ ev).out.length≤6000*40000:=by rw [←List.length_append];rw [hfr] at hoi;exact hoi
      have c0:wr.cell? ⟨b,o+i*12,none⟩=some (.int .i64 ev.d.kind):=hcl 0 _ rfl;have c1:wr.cell? ⟨b,o+i*12+1,none⟩=some (.string ev.d.method):=hcl 1 _ rfl;have c2:wr.cell? ⟨b,o+i*12+2,none⟩=some (.string ev.d.target):=hcl 2 _ rfl;have c3:wr.cell? ⟨b,o+i*12+3,none⟩=some (.int .i64 ev.d.minor):=hcl 3 _ rfl;have c4:wr.cell? ⟨b,o+i*12+4,none⟩=some (.slice sl.fo ev.d.fields.length sl.au):=hcl 4 _ rfl;have c5:wr.cell? ⟨b,o+i*12+5,none⟩=some (.int .i64 ev.d.length):=hcl 5 _ rfl;have c6:wr.cell? ⟨b,o+i*12+6,none⟩=some (.slice sl.bo ev.d.bytes.length sl.aj):=hcl 6 _ rfl;have c7:wr.cell? ⟨b,o+i*12+7,none⟩=some (.string ev.d.fG):=hcl 7 _ rfl;have c8:wr.cell? ⟨b,o+i*12+8,none⟩=some (.string ev.d.eG):=hcl 8 _ rfl;have c9:wr.cell? ⟨b,o+i*12+9,none⟩=some (.string ev.d.ptype):=hcl 9 _ rfl;have c10:wr.cell? ⟨b,o+i*12+10,none⟩=some (.slice sl.po ev.d.aL.length sl.bY):=hcl 10 _ rfl;have c11:wr.cell? ⟨b,o+i*12+11,none⟩=some (.int .i64 ev.d.code):=hcl 11 _ rfl;have Li:=H9 hNx;have nO:=H9 LG;have HFr:=H9 hfr;have FZ:=H9 hok';have agz:=H9 ac0;have HM:=H9 hm
      clear hR hG hS2 hEv acY hcl hIn bT hGA acZ hNx LG hfr hok' ac0 hbi hoi agx hfi hm;generalize ev.d=ed at *;generalize Gt.ev Tu.aS ⟨G.s,G.hd,G.body,[]⟩ ev=G' at *;go_wp2_with fail
      refine HMt.o.mono ?_;rintro e w5 hMt;obtain ⟨yP,cap5,n5,B,rfl,Ro,wT,ac1,hfin⟩:=Li.o w5 e hMt FZ.o agz.o;have lX:=H9 wT;have ZM:=H9 ac1;have KY:=H9 hfin;have HN5:=H9 Ro.symm;have Rm:=H9 HM.o.symm
      have hml:m+n5≤240000000:=by rw [Ro,HM.o];exact hsum
      clear hMt wT ac1 hfin Ro HMt Li hsum;go_wp2_with (at_builtin;refine iR rfl (.tmp 41) (.tmp 45) 31 rfl 5 j0 underlying31 Hj.o JL.o JM.o JN.o rfl rfl ZM.o Rm.o lX.o HN5.o (by omega) ?_;intro Jw cap6 w6 pU lY;have HF6:=H9 (KY.o Jw cap6 w6 pU lY);clear pU lY)
      go_roundw
      case rel=>exact ⟨i+1,m+n5,Jw,cap6,by omega,by go_num,rfl,by rw [nO.o,HFr.o];show _=(G.out++G'.out).length;rw [List.length_append,HM.o,HN5.o],by rw [nO.o,HFr.o];exact HF6.o⟩
      case measure=>simp [intOf];omega
    · obtain rfl:i=es.length:=by omega
      rw [List.take_length] at hm hR;obtain ⟨jG,hG9,mX⟩:=hR.done;have HFin:Hid (NN S w g gs c k (Gt.feed Tu.aS s (c k) l) 0 (.returned (.tuple #[.slice ao m cap,.int .i64 0])) wr):=by
       rw [jW.o];exact ⟨⟨ao,cap,m,rfl,hm,jG⟩,hG9,mX⟩
      clear hm hR jG hG9 mX;go_wp2;go_ret2;exact HFin.o
end
section
variable {w0 w:World} {S:Nat→Prop} {g gs:Nat} {s:Sr.Sh} {c:Nat→Gt.Cn}
theorem QL (h:cu w S g gs s c) (k:Nat) (hk:k<4) :
 Calls prog 20 #[.pointer (some ⟨g,0,none⟩),.int .i64 (k:Int)] w fun e w'=>e=.returned (.bool (Rq.busy (c k).rq))∧w'=w:=by
 have HI:=H9 (fun W=>o9 (k:Int) W);rw [show (decide ((0:Int)≤(k:Int))&&decide ((k:Int)<4))=true from by simp;omega] at HI;obtain ⟨κ,x,hH,hS⟩:=h;have cg:w.cell? ⟨g,1+k*7,none⟩=some (.pointer (some ⟨(x k).gp,0,none⟩)):=(hH .row).1.at_ hk (j:=0) (by decide) rfl;have HB:=H9 (Va w (fun i=>κ i=.rq k) (x k).gp (c k).rq (hH (.rq k) hk));have k0:(0:Int)≤(k:Int):=by omega
 have k4:(k:Int)<4:=by omega
 clear hH hS;generalize Rq.busy (c k).rq=bb at *;go_enter func20,ntmps20;go_wp2_with fail
 refine (HI.o _).mono ?_;rintro e w1 ⟨rfl,hw⟩;rw [hw];clear hw;go_wp2_with fail
 refine HB.o.mono ?_;rintro e w1 ⟨rfl,hw⟩;rw [hw];clear hw;go_wp2;go_ret;exact ⟨rfl,rfl⟩
def XF (gp:Nat):OQ:=⟨gp,none,0,none,0⟩
structure BP (S:Nat→Prop) (w:World) (g gs:Nat) (s:Sr.Sh) (n:Nat) (wr:World):Prop where
 at_:∃ κ v x,Held (Cu g gs s v n (fun _=>Gt.lg) x noZ Ie) κ wr∧(∀ k,k<n→v k=WE Gt.lg (x k))∧∀ i,κ i≠.out→av S w i
 turns:Turns S w wr
theorem fA.aau {v:Nat→List Value} (h:fA w g gs v) {k:Nat} (hk:k<4) (y0 y1 y2 y3 y4 y5 y6:Value) :
 fA (((((((w.setCell ⟨g,1+k*7,none⟩ y0).setCell ⟨g,1+k*7+1,none⟩ y1).setCell ⟨g,1+k*7+2,none⟩ y2).setCell ⟨g,1+k*7+3,none⟩ y3).setCell ⟨g,1+k*7+4,none⟩ y4).setCell ⟨g,1+k*7+5,none⟩ y5).setCell ⟨g,1+k*7+6,none⟩ y6) g gs (upd v k [y0,y1,y2,y3,y4,y5,y6])∧Turns (fun i=>i=g) w (((((((w.setCell ⟨g,1+k*7,none⟩ y0).setCell ⟨g,1+k*7+1,none⟩ y1).setCell ⟨g,1+k*7+2,none⟩ y2).setCell ⟨g,1+k*7+3,none⟩ y3).setCell ⟨g,1+k*7+4,none⟩ y4).setCell ⟨g,1+k*7+5,none⟩ y5).setCell ⟨g,1+k*7+6,none⟩ y6):=by
 refine ⟨?_,aJ g [y0,y1,y2,y3,y4,y5,y6] (1+k*7) w⟩;have:=((((((h.set hk (j:=0) (by decide) y0).set hk (j:=1) (by decide) y1).set hk (j:=2) (by decide) y2).set hk (j:=3) (by decide) y3).set hk (j:=4) (by decide) y4).set hk (j:=5) (by decide) y5).set hk (j:=6) (by decide) y6;obtain ⟨a0,a1,a2,a3,a4,a5,a6,hv⟩:=Go.Proofs.YtjmndjmhjleabaaGreatDoor.seven (h.seven k hk);simp only [lD,bA,hv] at this;exact this
theorem BP.step {n gp:Nat} {wr w1:World} (h:BP S w g gs s n wr) (hR:dn w1 (fun k=>wr.heap.size≤k) gp Rq.start) (hb:Below wr.heap.size wr w1):∃ v,fA w1 g gs v∧∀ wf,fA wf g gs (upd v n (WE Gt.lg (XF gp)))→Turns (fun i=>i=g) w1 wf→BP S w g gs s (n+1) wf:=by
 obtain ⟨⟨κ,v,x,hH,hv,hS⟩,hT⟩:=h;have hlt:=(hH .row).1.lt;have hz:=hT.size;refine ⟨v,⟨(hb.block g hlt).trans (hH .row).1.row,(hH .row).1.seven⟩,fun wf hrf hTf=>?_⟩;have key:∀ d,d≠.row→Cu g gs s v n (fun _=>Gt.lg) x noZ Ie d wf (fun i=>bK κ wr.heap.size (.rq n) i=d):=fun d hd=>by
  have L:gF (Cu g gs s v n (fun _=>Gt.lg) x noZ Ie d):=jD (fun _=>gF.iU) gF.iU d;have h1:=L.mono (hH d) (S':=fun i=>κ i=d∧i<wr.heap.size) (fun i hi e=>⟨e,hi⟩);have h2:=L.turns (L.turns h1 (Turns.of_below (S:=fun _=>False) hb) (fun _ _ e=>e)) hTf (fun i e e2=>hd (by rw [←e.1,e2];exact (hH .row).2));exact L.mono h2 (fun i _ e=>(bJ e.2).trans e.1)
 refine ⟨⟨bK κ wr.heap.size (.rq n),upd v n (WE Gt.lg (XF gp)),upd x n (XF gp),fun d=>?_,fun j hj=>?_,fun i hi=>?_⟩,(hT.trans (Turns.of_below (S:=fun _=>False) hb) (fun _ e _=>e.elim)).trans hTf (fun i e hi=>?_)⟩
 · cases d with
   | row=>exact ⟨hrf,(bJ hlt).trans (hH .row).2⟩
   | dI=>exact key .dI (by intro h;cases h)
   | rq j =>
     intro hj;by_cases e:j=n
     · subst e;rw [bA];exact (hR.turns hTf (fun i e e2=>by omega)).mono (fun i _ e=>lM e)
     · rw [upd_ne _ _ e];exact key (.rq j) (by intro h;cases h) (by omega)
   | fl j =>
     refine ⟨fun hj=>?_,trivial⟩;by_cases e:j=n
     · subst e;rw [bA];exact iT.nil _ _
     · rw [upd_ne _ _ e];exact (key (.fl j) (by intro h;cases h)).1 (by omega)
   | bd j =>
     intro hj;by_cases e:j=n
     · subst e;rw [bA];exact aI.nil _ _ _
     · rw [upd_ne _ _ e];exact key (.bd j) (by intro h;cases h) (by omega)
   | ret=>trivial
   | out=>trivial
 · by_cases e:j=n
   · subst e;rw [bA,bA]
   · rw [upd_ne _ _ e,upd_ne _ _ e];exact hv j (by omega)
 · rcases Nat.lt_or_ge i wr.heap.size with hl | hl
   · rw [bJ hl] at hi;exact hS i hi
   · exact Or.inr (by omega)
 · rcases hS i (by rw [e,(hH .row).2];intro h;cases h) with h | h
   · exact h
   · omega
theorem BP.done {wr:World} (h:BP S w g gs s 4 wr):cu wr (av S w) g gs s (fun _=>Gt.lg)∧Turns S w wr:=by
 obtain ⟨⟨κ,v,x,hH,hv,hS⟩,hT⟩:=h;refine ⟨⟨κ,x,fun d=>?_,hS⟩,hT⟩;have hd:=hH d;cases d with
 | row =>
   refine ⟨⟨?_,fun k hk=>rfl⟩,hd.2⟩;have:=hd.1.row;unfold Na at this ⊢;rw [hv 0 (by omega),hv 1 (by omega),hv 2 (by omega),hv 3 (by omega)] at this;exact this
 | dI=>exact hd
 | rq j=>exact hd
 | fl j=>exact hd
 | bd j=>exact hd
 | ret=>trivial
 | out=>trivial
theorem Mq (h:BP S w g gs s 0 w) :
 Calls prog 24 #[.pointer (some ⟨g,0,none⟩)] w fun e w'=>e=.returned (.tuple #[])∧cu w' (av S w) g gs s (fun _=>Gt.lg)∧Turns S w w':=by
 have HNc:=H9 (fun W=>yw W);have HR:=H9 h;clear h;go_enter func24,ntmps24;go_wp2;go_loopw [3] (fun vi wr=>∃ i:Nat,i≤4∧vi=.int .i64 i∧BP S w g gs s i wr) (fun vi _=>4 - (intOf vi).toNat)
 case atStart=>exact ⟨0,Nat.zero_le _,rfl,HR.o⟩
 case round =>
  obtain ⟨i,hi,rfl,hG⟩:=hrel;have HG:=H9 hG;clear hG;by_cases hlt:i<4
  · have hlt':(i:Int)<4:=by omega
    have hi0:(0:Int)≤(i:Int):=by omega
    have PY:Hid (BP S w g gs s i wr.drew):=by
     obtain ⟨⟨κ,v,x,hH,hv,hS⟩,hT⟩:=HG.o;exact ⟨⟨κ,v,x,hH.stay (jD (fun _=>gF.iU) gF.iU) (aA _ _),hv,hS⟩,hT.trans (Turns.drewN (fun _=>False) wr 1) (fun _ e _=>e.elim)⟩
    go_upto_region 3 with fail
    go_region_law ((go_simp;go_at_call 28;refine (HNc.o _).mono ?_;rintro e w1 ⟨gp,rfl,oD,hb1⟩;obtain ⟨v,hr1,hst⟩:=PY.o.step oD hb1;obtain ⟨a0,a1,a2,a3,a4,a5,a6,hv⟩:=Go.Proofs.YtjmndjmhjleabaaGreatDoor.seven (hr1.seven i hlt);have c0:w1.cell? ⟨g,1+i*7,none⟩=some a0:=hr1.at_ hlt (j:=0) (by decide) (by rw [hv];rfl);have c1:=hr1.at_ hlt (j:=1) (by decide) (u:=a1) (by rw [hv];rfl);have c2:=hr1.at_ hlt (j:=2) (by decide) (u:=a2) (by rw [hv];rfl);have c3:=hr1.at_ hlt (j:=3) (by decide) (u:=a3) (by rw [hv];rfl);have c4:=hr1.at_ hlt (j:=4) (by decide) (u:=a4) (by rw [hv];rfl);have c5:=hr1.at_ hlt (j:=5) (by decide) (u:=a5) (by rw [hv];rfl);have c6:=hr1.at_ hlt (j:=6) (by decide) (u:=a6) (by rw [hv];rfl);have fz:=fun j=>hr1.fz j;have vW:=H9 (hst _ (hr1.aau hlt (.pointer (some ⟨gp,0,none⟩)) (.string ⟨#[]⟩) (.string ⟨#[]⟩) (.int .i64 0) (.slice none 0 0) (.int .i64 0) (.slice none 0 0)).1 (hr1.aau hlt (.pointer (some ⟨gp,0,none⟩)) (.string ⟨#[]⟩) (.string ⟨#[]⟩) (.int .i64 0) (.slice none 0 0) (.int .i64 0) (.slice none 0 0)).2);clear oD hb1 hst hv))
    all_goals
     go_wp2;go_roundw
     case rel=>exact ⟨i+1,by omega,by go_num,vW.o⟩
     case measure=>simp [intOf];omega
  · obtain rfl:i=4:=by omega
    have HDn:=H9 HG.o.done;go_wp2;go_end0
    exact ⟨rfl,HDn.o⟩
end
section
variable {w0 w:World} {S:Nat→Prop} {g gs:Nat} {s:Sr.Sh} {c:Nat→Gt.Cn}
def Jz:List Value:=[.pointer none,.string ⟨#[]⟩,.string ⟨#[]⟩,.int .i64 0,.slice none 0 0,.int .i64 0,.slice none 0 0]
theorem BP.begin_ (h:aU w S gs s):BP (fun k=>(S k∧k<w.heap.size)∨k=w.heap.size) (w.alloc (.cells (Na gs (fun _=>Jz)).toArray 80)) w.heap.size gs s 0 (w.alloc (.cells (Na gs (fun _=>Jz)).toArray 80)):=by
 have hb:=(Below.refl _ w).alloc (Nat.le_refl _) (.cells (Na gs (fun _=>Jz)).toArray 80);classical
 refine ⟨⟨fun k=>if k=w.heap.size then .row else if S k∧k<w.heap.size then .dI else .out,fun _=>Jz,fun _=>XF 0,fun d=>?_,fun k hk=>absurd hk (Nat.not_lt_zero k),fun k hk=>?_⟩,Turns.refl _ _⟩
 · cases d with
   | row=>exact ⟨⟨heap_alloc_new w _,fun _ _=>rfl⟩,if_pos rfl⟩
   | dI=>exact aU.mono ((aU.mono h (S':=fun k=>S k∧k<w.heap.size) (fun k hk e=>⟨e,hk⟩)).stay hb) (fun k _ e=>by
    show (if k=w.heap.size then Ar.row else if S k∧k<w.heap.size then .dI else .out)=.dI;rw [if_neg (by have:=e.2;omega),if_pos e])
   | rq j=>exact fun hj=>absurd hj (Nat.not_lt_zero j)
   | fl j=>exact ⟨fun hj=>absurd hj (Nat.not_lt_zero j),trivial⟩
   | bd j=>exact fun hj=>absurd hj (Nat.not_lt_zero j)
   | ret=>trivial
   | out=>trivial
 · simp only at hk;by_cases h1:k=w.heap.size
   · exact Or.inl (Or.inr h1)
   · rw [if_neg h1] at hk;by_cases h2:S k∧k<w.heap.size
     · exact Or.inl (Or.inl h2)
     · rw [if_neg h2] at hk;exact absurd rfl hk
theorem BQ (h:aU w S gs s) :
 Calls prog 9 #[.pointer (some ⟨gs,0,none⟩)] w fun e w'=>e=.returned (.pointer (some ⟨w.heap.size,0,none⟩))∧cu w' (av S w) w.heap.size gs s (fun _=>Gt.lg)∧Turns S w w':=by
 have HR:=H9 (Mq (BP.begin_ h));have hb:=(Below.refl _ w).alloc (Nat.le_refl _) (.cells (Na gs (fun _=>Jz)).toArray 80);have HB:=H9 hb;clear hb h;go_enter func9,ntmps9;go_wp2_with fail
 refine HR.o.mono ?_;rintro e w1 ⟨rfl,hG,hT⟩;have HFin:Hid (cu w1 (av S w) w.heap.size gs s (fun _=>Gt.lg)∧Turns S w w1):=by
  have hz:=HB.o.size;refine ⟨hG.mono (fun k _ e=>?_),(Turns.of_below HB.o).trans hT (fun k e hk=>?_)⟩
  · rcases e with (e | e) | e
    · exact Or.inl e.1
    · exact Or.inr (by omega)
    · exact Or.inr (by omega)
  · rcases e with e | e
    · exact e.1
    · omega
 clear hG hT;go_wp2;go_ret;exact ⟨rfl,HFin.o⟩
theorem Mr (h:cu w S g gs s c) (k:Nat) (hk:k<4) (hb0:(c k).body=[]) (ht:(c k).hd.target.length≤100000) :
 Calls prog 11 #[.pointer (some ⟨g,0,none⟩),.int .i64 (k:Int)] w fun e w'=>e=.returned (.int .i64 0)∧Turns S w w':=by
 have HI:=H9 (fun W=>o9 (k:Int) W);rw [show (decide ((0:Int)≤(k:Int))&&decide ((k:Int)<4))=true from by simp;omega] at HI;obtain ⟨κ,x,hH,hS⟩:=h;have hg:=(hH .row).1;have HSg:Hid (S g):=hS g (by rw [(hH .row).2];intro h;cases h);have zo:=H9 (wU hg hk (rfl:Aq c x k=[.pointer (some ⟨(x k).gp,0,none⟩),.string ⟨(c k).hd.method.toArray⟩,.string ⟨(c k).hd.target.toArray⟩,.int .i64 ((c k).hd.minor:Int),.slice (x k).fo (c k).hd.fields.length (x k).au,.int .i64 (c k).hd.length,.slice (x k).bo (c k).body.length (x k).aj]));rw [hb0] at zo;simp only [List.length_nil] at zo;have HNc:=H9 (fun W=>yw W);have HIp:=H9 (fun W=>IE ⟨(c k).hd.method.toArray⟩ ⟨(c k).hd.target.toArray⟩ ((c k).hd.minor:Int) (c k).hd.length (x k).fo (x k).bo (c k).hd.fields.length (x k).au 0 (x k).aj W (by show (c k).hd.target.toArray.size≤_;rw [List.size_toArray];exact ht));have k0:(0:Int)≤(k:Int):=by omega
 have k4:(k:Int)<4:=by omega
 clear hH hS hg hb0;generalize (decide ((⟨(c k).hd.method.toArray⟩:ByteArray)=Gt.Kn)&&Gt.EU ⟨(c k).hd.target.toArray⟩)=bp at *;go_enter func11,ntmps11;go_wp2_with fail
 refine (HI.o _).mono ?_;rintro e w1 ⟨rfl,hw⟩;rw [hw];clear hw;go_wp2_with fail
 refine zo.o.mono ?_;rintro e w2 ⟨rfl,hr2,dL⟩;have hbx:=(Below.refl _ w2).alloc (Nat.le_refl _) (.cells #[.string ⟨(c k).hd.method.toArray⟩,.string ⟨(c k).hd.target.toArray⟩,.int .i64 ((c k).hd.minor:Int),.slice (x k).fo (c k).hd.fields.length (x k).au,.int .i64 (c k).hd.length,.slice (x k).bo 0 (x k).aj] 75);have hrow2:=heap_alloc_new w2 (.cells #[.string ⟨(c k).hd.method.toArray⟩,.string ⟨(c k).hd.target.toArray⟩,.int .i64 ((c k).hd.minor:Int),.slice (x k).fo (c k).hd.fields.length (x k).au,.int .i64 (c k).hd.length,.slice (x k).bo 0 (x k).aj] 75);have HR3:Hid (∀ W,Below (w2.alloc (.cells #[.string ⟨(c k).hd.method.toArray⟩,.string ⟨(c k).hd.target.toArray⟩,.int .i64 ((c k).hd.minor:Int),.slice (x k).fo (c k).hd.fields.length (x k).au,.int .i64 (c k).hd.length,.slice (x k).bo 0 (x k).aj] 75)).heap.size (w2.alloc (.cells #[.string ⟨(c k).hd.method.toArray⟩,.string ⟨(c k).hd.target.toArray⟩,.int .i64 ((c k).hd.minor:Int),.slice (x k).fo (c k).hd.fields.length (x k).au,.int .i64 (c k).hd.length,.slice (x k).bo 0 (x k).aj] 75)) W→fA W g gs _):=fun W hW=>⟨(hW.block g (Nat.lt_of_lt_of_le hr2.lt hbx.size)).trans ((hbx.block g hr2.lt).trans hr2.row),hr2.seven⟩;have HBx:Hid (∀ W wf,Below (w2.alloc (.cells #[.string ⟨(c k).hd.method.toArray⟩,.string ⟨(c k).hd.target.toArray⟩,.int .i64 ((c k).hd.minor:Int),.slice (x k).fo (c k).hd.fields.length (x k).au,.int .i64 (c k).hd.length,.slice (x k).bo 0 (x k).aj] 75)).heap.size (w2.alloc (.cells #[.string ⟨(c k).hd.method.toArray⟩,.string ⟨(c k).hd.target.toArray⟩,.int .i64 ((c k).hd.minor:Int),.slice (x k).fo (c k).hd.fields.length (x k).au,.int .i64 (c k).hd.length,.slice (x k).bo 0 (x k).aj] 75)) W→Turns (fun i=>i=g) W wf→wf.heap[w2.heap.size]? = some (.cells #[.string ⟨(c k).hd.method.toArray⟩,.string ⟨(c k).hd.target.toArray⟩,.int .i64 ((c k).hd.minor:Int),.slice (x k).fo (c k).hd.fields.length (x k).au,.int .i64 (c k).hd.length,.slice (x k).bo 0 (x k).aj] 75 (0,0))∧Turns S w wf):=fun W wf hW hTf=>by
  have hlt:=hr2.lt;refine ⟨hTf.row ((hW.block w2.heap.size (by rw [World.size_alloc];omega)).trans hrow2) (by omega),((dL.mono (fun i e=>by rw [e];exact HSg.o)).trans (Turns.of_below (S:=fun _=>False) (then_ hbx hW)) (fun _ e _=>e.elim)).trans hTf (fun i e _=>by rw [e];exact HSg.o)⟩
 clear hr2 dL hbx hrow2 zo HI;go_upto_region 4 with fail
 generalize (w2.alloc (.cells #[.string ⟨(c k).hd.method.toArray⟩,.string ⟨(c k).hd.target.toArray⟩,.int .i64 ((c k).hd.minor:Int),.slice (x k).fo (c k).hd.fields.length (x k).au,.int .i64 (c k).hd.length,.slice (x k).bo 0 (x k).aj] 75))=W2 at *;go_cut [] (fun wd=>wd.heap[w2.heap.size]? = some (.cells #[.string ⟨(c k).hd.method.toArray⟩,.string ⟨(c k).hd.target.toArray⟩,.int .i64 ((c k).hd.minor:Int),.slice (x k).fo (c k).hd.fields.length (x k).au,.int .i64 (c k).hd.length,.slice (x k).bo 0 (x k).aj] 75 (0,0))∧Turns S w wd)
 case first =>
  go_region_law ((go_simp;go_at_call 28;refine (HNc.o _).mono ?_;rintro e w3 ⟨gp,rfl,Qg,hb3⟩;have hbw:Below W2.heap.size W2 w3:=then_ (aA _ _) hb3;have hr1:=HR3.o w3 hbw;obtain ⟨a0,a1,a2,a3,a4,a5,a6,hv⟩:=Go.Proofs.YtjmndjmhjleabaaGreatDoor.seven (hr1.seven k hk);have c0:w3.cell? ⟨g,1+k*7,none⟩=some a0:=hr1.at_ hk (j:=0) (by decide) (by rw [hv];rfl);have c1:=hr1.at_ hk (j:=1) (by decide) (u:=a1) (by rw [hv];rfl);have c2:=hr1.at_ hk (j:=2) (by decide) (u:=a2) (by rw [hv];rfl);have c3:=hr1.at_ hk (j:=3) (by decide) (u:=a3) (by rw [hv];rfl);have c4:=hr1.at_ hk (j:=4) (by decide) (u:=a4) (by rw [hv];rfl);have c5:=hr1.at_ hk (j:=5) (by decide) (u:=a5) (by rw [hv];rfl);have c6:=hr1.at_ hk (j:=6) (by decide) (u:=a6) (by rw [hv];rfl);have fz:=fun j=>hr1.fz j;have vW:=H9 (HBx.o w3 _ hbw (hr1.aau hk (.pointer (some ⟨gp,0,none⟩)) (.string ⟨#[]⟩) (.string ⟨#[]⟩) (.int .i64 0) (.slice none 0 0) (.int .i64 0) (.slice none 0 0)).2);clear Qg hb3 hv hbw hr1))
  all_goals
   go_wp2;go_meet;exact vW.o
 case rest =>
  obtain ⟨hrw,hTw⟩:=hcut;have b0:wc.cell? ⟨w2.heap.size,0,none⟩=some (.string ⟨(c k).hd.method.toArray⟩):=cell_of_row wc _ 0 _ _ _ hrw;have b1:wc.cell? ⟨w2.heap.size,1,none⟩=some (.string ⟨(c k).hd.target.toArray⟩):=cell_of_row wc _ 1 _ _ _ hrw;have b2:wc.cell? ⟨w2.heap.size,2,none⟩=some (.int .i64 ((c k).hd.minor:Int)):=cell_of_row wc _ 2 _ _ _ hrw;have b3:wc.cell? ⟨w2.heap.size,3,none⟩=some (.slice (x k).fo (c k).hd.fields.length (x k).au):=cell_of_row wc _ 3 _ _ _ hrw;have b4:wc.cell? ⟨w2.heap.size,4,none⟩=some (.int .i64 (c k).hd.length):=cell_of_row wc _ 4 _ _ _ hrw;have b5:wc.cell? ⟨w2.heap.size,5,none⟩=some (.slice (x k).bo 0 (x k).aj):=cell_of_row wc _ 5 _ _ _ hrw;have HTw:=H9 hTw;have agA:=(Array.getElem?_eq_some_iff.1 hrw).1;have HRw:=H9 hrw
  clear hrw hTw;go_wp2_with fail
  refine (HIp.o _).mono ?_;rintro e w5 ⟨rfl,hb5⟩;have Uq:Hid (Turns S w w5):=HTw.o.trans (Turns.of_below (S:=fun _=>False) hb5) (fun _ e _=>e.elim);have b6:w5.cell? ⟨w2.heap.size,5,none⟩=some (.slice (x k).bo 0 (x k).aj):=(hb5.cell (p:=⟨w2.heap.size,5,none⟩) agA).trans b5;clear hb5;cases bp
  · go_wp2;go_ret;exact ⟨rfl,Uq.o⟩
  · go_wp2;go_ret;exact ⟨rfl,Uq.o⟩
end
end Go.Proofs.YtjmndjmhjleabaaGreatDoor