/- Small texts, one behind the other: GaJ, GaK, GaL, GaM, GaN, GaO, GaP. -/
import Derived.Test.YtjmndjmhjleabaaGreatDoorPk50
import Derived.Test.YtjmndjmhjleabaaGreatDoorPk46
import Derived.Deep.RegionHeldLaw
import Derived.Test.YtjmndjmhjleabaaGreatDoorPk33
import Derived.Test.YtjmndjmhjleabaaGreatDoorPk48
set_option maxHeartbeats 3200000
set_option maxRecDepth 100000
open Go.Proofs.Tryz
namespace Go.Proofs.YtjmndjmhjleabaaGreatDoor
open Go.RowKit
structure eY (w0:World)(κ:Nat->yh)(g gs:Nat)(s:Sr.Sh)(v:Nat->List Value)(c:Nat->Gt.Cn)(x:Nat->KS)(z:Nat->Ob)(o:Ob)(w:World):Prop where
 held:Held (zM g gs s v 4 c x z o) κ w
 pow:gU w0
 nR:Below w0.heap.size w0 w
 far:∀i,κ i≠.out->w0.heap.size<=i
section
variable {w0 w w':World} {κ:Nat->yh} {g gs:Nat} {s s':Sr.Sh} {v v':Nat->List Value} {c c':Nat->Gt.Cn} {x x':Nat->KS} {z:Nat->Ob} {o:Ob}
theorem I4 {n:Nat}{d:yh}(hf:∀i,κ i≠.out->w0.heap.size<=i)(hn:w0.heap.size<=n):∀i,bE κ n d i≠.out->w0.heap.size<=i:=fun i hi=>by
 rcases Nat.lt_or_ge i n with hl | hl
 . rw[bD hl] at hi;exact hf i hi
 . omega
theorem eY.act (Lz:∀k,fI (z k))(Lo:fI o)(h:eY w0 κ g gs s v c x z o w){T N:Nat->Prop}(d:yh)(hd:d≠.out)(ht:Turns T w w')(hT:∀k,T k->κ k=d)(hY:zM g gs s' v' 4 c' x' z o d w' N)(hN:∀k,N k->κ k=d∨w.heap.size<=k)(hX:∀e,e≠d->zM g gs s' v' 4 c' x' z o e=zM g gs s v 4 c x z o e):eY w0 (bE κ w.heap.size d) g gs s' v' c' x' z o w' :=
 ⟨h.held.act (iV Lz Lo) ht hT (X':=zM g gs s' v' 4 c' x' z o) (iV Lz Lo d) hY hN hX,h.pow,h.nR.trans (ht.below (fun k e=>h.far k (by rw[hT k e];exact hd)) h.nR.size),I4 h.far h.nR.size⟩
theorem eY.stay (Lz:∀k,fI (z k))(Lo:fI o)(h:eY w0 κ g gs s v c x z o w)(hb:Below w.heap.size w w'):eY w0 κ g gs s v c x z o w':=⟨h.held.stay (iV Lz Lo) hb,h.pow,then_ h.nR hb,h.far⟩
theorem eY.trim (Lz:∀k,fI (z k))(Lo:fI o)(h:eY w0 κ g gs s v c x z o w):eY w0 (bE κ w.heap.size .out) g gs s v c x z o w:=by
 refine⟨fun d=>?_,h.pow,h.nR,I4 h.far h.nR.size⟩;exact(iV Lz Lo d).mono (h.held d) (fun k hk e=>(bD hk).trans e)
theorem eY.row (Lz:∀k,fI (z k))(Lo:fI o)(h:eY w0 κ g gs s v c x z o w)(hr:dS w' g gs v')(hT:Turns (fun i=>i=g) w w'):eY w0 (bE κ w.heap.size .row) g gs s v' c x z o w' :=
 h.act Lz Lo .row (by intro h;cases h) hT (fun k e=>by rw[e];exact(h.held .row).2) (N:=fun k=>k=g) ⟨hr,rfl⟩ (fun k e=>Or.inl (by rw[e];exact(h.held .row).2)) (fun d hd=>by cases d <;> first | rfl | exact absurd rfl hd)
theorem eY.dn (Lz:∀k,fI (z k))(Lo:fI o)(h:eY w0 κ g gs s v c x z o w)(hA:aN w' (av (fun k=>κ k=.dn) w) gs s')(hT:Turns (fun k=>κ k=.dn) w w'):eY w0 (bE κ w.heap.size .dn) g gs s' v c x z o w' :=
 h.act Lz Lo .dn (by intro h;cases h) hT (fun _ e=>e) hA (fun _ e=>e) (fun d hd=>by cases d <;> first | rfl | exact absurd rfl hd)
theorem eY.Uo (h:eY w0 κ g gs s v c x z o w):dS w g gs v:=(h.held .row).1
theorem eY.head (h:eY w0 κ g gs s v c x z o w)(k:Nat)(hd:Rq.Hd)(fo:Option Addr)(ak:Nat)(hF:iJ w (fun i=>κ i=.fl k) fo ak hd.fields.length (aB (Rq.iH hd.fields))):eY w0 κ g gs s v (upd c k { c k with hd:=hd }) (upd x k { x k with fo:=fo,ak:=ak }) z o w:=by
 refine⟨fun d=>?_,h.pow,h.nR,h.far⟩;have hh:=h.held d;cases d with
 | row=>exact hh
 | dn=>exact hh
 | rq j =>
   intro hj;by_cases e:j=k
   . subst e;rw[aY,aY];exact hh hj
   . rw[upd_ne _ _ e,upd_ne _ _ e];exact hh hj
 | fl j =>
   refine⟨fun hj=>?_,hh.2⟩;by_cases e:j=k
   . subst e;rw[aY,aY];exact hF
   . rw[upd_ne _ _ e,upd_ne _ _ e];exact hh.1 hj
 | bd j =>
   intro hj;by_cases e:j=k
   . subst e;rw[aY,aY];exact hh hj
   . rw[upd_ne _ _ e,upd_ne _ _ e];exact hh hj
 | ret=>exact hh
 | out=>trivial
theorem eY.nobody (h:eY w0 κ g gs s v c x z o w)(k:Nat):eY w0 κ g gs s v (upd c k { c k with body:=[] }) (upd x k { x k with bo:=none,aj:=0 }) z o w:=by
 refine⟨fun d=>?_,h.pow,h.nR,h.far⟩;have hh:=h.held d;cases d with
 | row=>exact hh
 | dn=>exact hh
 | rq j =>
   intro hj;by_cases e:j=k
   . subst e;rw[aY,aY];exact hh hj
   . rw[upd_ne _ _ e,upd_ne _ _ e];exact hh hj
 | fl j =>
   refine⟨fun hj=>?_,hh.2⟩;by_cases e:j=k
   . subst e;rw[aY,aY];exact hh.1 hj
   . rw[upd_ne _ _ e,upd_ne _ _ e];exact hh.1 hj
 | bd j =>
   intro hj;by_cases e:j=k
   . subst e;rw[aY,aY];exact aF.nil _ _ _
   . rw[upd_ne _ _ e,upd_ne _ _ e];exact hh hj
 | ret=>exact hh
 | out=>trivial
theorem eY.grow (Lz:∀k,fI (z k))(Lo:fI o)(h:eY w0 κ g gs s v c x z o w)(k:Nat)(hk:k<4){iZ:Option Addr}{dK:Nat}{b:List UInt8}(hG:aF w' (fun i=>cK (c k).body (x k).bo=some i∨w.heap.size<=i) 5 iZ dK ((c k).body++b))(hT:Turns (fun i=>cK (c k).body (x k).bo=some i) w w'):eY w0 (bE κ w.heap.size (.bd k)) g gs s v (upd c k { c k with body:=(c k).body++b }) (upd x k { x k with bo:=iZ,aj:=dK }) z o w':=by
 have hin:∀i,cK (c k).body (x k).bo=some i->κ i=.bd k:=fun i e=>by
  unfold cK at e;split at e
  . cases e
  . rename_i hne;rcases h.held (.bd k) hk with ⟨_,_,h3⟩ | ⟨h1,_⟩
    . cases kH:(x k).bo with
      | none=>rw[kH] at e;cases e
      | some a=>rw[kH] at e;injection e with e;rw[<-e];exact h3 a kH
    . exact absurd h1 hne
 refine h.act Lz Lo (.bd k) (by intro h;cases h) hT hin (N:=fun i=>cK (c k).body (x k).bo=some i∨w.heap.size<=i) ?_ (fun i e=>?_) (fun d hd=>?_)
 . intro _;rw[aY,aY];exact hG
 . rcases e with e | e
   . exact Or.inl (hin i e)
   . exact Or.inr e
 . cases d with
   | row=>rfl
   | dn=>rfl
   | rq j =>
     by_cases e:j=k
     . subst e;simp only[zM,aY]
     . simp only[zM];rw[upd_ne _ _ e,upd_ne _ _ e]
   | fl j =>
     by_cases e:j=k
     . subst e;simp only[zM,aY]
     . simp only[zM];rw[upd_ne _ _ e,upd_ne _ _ e]
   | bd j =>
     have e:j≠k:=fun e=>hd (by rw[e]);simp only[zM];rw[upd_ne _ _ e,upd_ne _ _ e]
   | ret=>rfl
   | out=>rfl
end
theorem dS.aaV {w:World}{g gs:Nat}{v:Nat->List Value}(h:dS w g gs v){k:Nat}(hk:k<4){a0 a1 a2 a3 a4 a5 a6:Value}(hv:v k=[a0,a1,a2,a3,a4,a5,a6]){o:Nat}(ho:1+k*7=o)(y1 y2 y3 y4 y5:Value):
 dS (((((w.setCell ⟨g,o+1,none⟩ y1).setCell ⟨g,o+2,none⟩ y2).setCell ⟨g,o+3,none⟩ y3).setCell ⟨g,o+4,none⟩ y4).setCell ⟨g,o+5,none⟩ y5) g gs (upd v k [a0,y1,y2,y3,y4,y5,a6])∧Turns (fun i=>i=g) w (((((w.setCell ⟨g,o+1,none⟩ y1).setCell ⟨g,o+2,none⟩ y2).setCell ⟨g,o+3,none⟩ y3).setCell ⟨g,o+4,none⟩ y4).setCell ⟨g,o+5,none⟩ y5):=by
 subst ho;refine⟨?_,aM g [y1,y2,y3,y4,y5] (1+k*7+1) w⟩;have:=((((h.set hk (j:=1) (by decide) y1).set hk (j:=2) (by decide) y2).set hk (j:=3) (by decide) y3).set hk (j:=4) (by decide) y4).set hk (j:=5) (by decide) y5;simp only[jT,aY,hv] at this;exact this
def Ext {C:Type}(κ CV:Nat->C)(n:Nat):Prop:=∀i,i<n->CV i=κ i
theorem Ext.bE {C:Type}{κ CV:Nat->C}{n m:Nat}(h:Ext κ CV n)(hm:n<=m)(d:C):Ext κ (bE CV m d) n:=fun i hi=>by rw[bD (by omega)];exact h i hi
theorem Ext.refl {C:Type}(κ:Nat->C)(n:Nat):Ext κ κ n:=fun _ _=>rfl
structure qD (w0:World)(κ:Nat->yh)(g gs:Nat)(c:Nat->Gt.Cn)(z:Nat->Ob)(o:Ob)(k:Nat)(w:World)(G:Gt.Gs)(e:Ending)(w':World):Prop where
 ret:∃(ao:Option Addr) (cap n:Nat),e=.returned (.slice ao n cap)∧n=G.out.length∧aU w' ao cap G.out
 at_:∃CV x',eY w0 CV g gs G.s (yg (upd c k ⟨(c k).rq,G.hd,G.body⟩) x') (upd c k ⟨(c k).rq,G.hd,G.body⟩) x' z o w'∧Ext κ CV w.heap.size
 turns:Turns (fun i=>κ i=.row∨κ i=.dn∨κ i=.bd k) w w'
section
variable {w0 w:World} {κ:Nat->yh} {g gs:Nat} {s:Sr.Sh} {c:Nat->Gt.Cn} {x:Nat->KS} {z:Nat->Ob} {o:Ob} {k:Nat}
theorem Yx {hd:Rq.Hd}(h:Rq.jE hd){fo:Option Addr}{ak:Nat}(hF:cu w fo ak hd.fields.length (aB (Rq.iH hd.fields))):jI w (Gt.iH hd.fields) fo ak hd.fields.length :=
 ⟨hF, by rw[show Gt.iH hd.fields = Rq.iH hd.fields from rfl]; exact Rq.kN _, by have := h.many; omega, fun p hp => by
  obtain⟨f,hf,rfl⟩:=List.mem_map.1 hp;have:=h.fields f hf;refine⟨?_,?_⟩
  . show f.1.toArray.size<=_;rw[List.size_toArray];omega
  . show f.2.toArray.size<=_;rw[List.size_toArray];omega⟩
theorem MQ (Lz:∀k,fI (z k))(Lo:fI o)(h:eY w0 κ g gs s (yg c x) c x z o w)(hk:k<4)(hd:Rq.Hd){fo bo po:Option Addr}{ak nf nb aj np bS:Nat}(hn:hd.fields.length=nf)(hF:iJ w (fun i=>κ i=.fl k) fo ak nf (aB (Rq.iH hd.fields))):
 Calls prog 35 #[.pointer (some ⟨g,0,none⟩),.pointer (some ⟨g,1+k*7,none⟩),.agg #[.int .i64 1,.string ⟨hd.method.toArray⟩,.string ⟨hd.target.toArray⟩,.int .i64 (hd.minor:Int),.slice fo nf ak,.int .i64 hd.length,.slice bo nb aj,.string ⟨#[]⟩,.string ⟨#[]⟩,.string ⟨#[]⟩,.slice po np bS,.int .i64 0]] w fun e w'=>qD w0 κ g gs c z o k w ⟨s,hd,(c k).body,[]⟩ e w':=by
 have hb:=(Below.refl _ w).alloc (Nat.le_refl _) (.cells #[.int .i64 1,.string ⟨hd.method.toArray⟩,.string ⟨hd.target.toArray⟩,.int .i64 (hd.minor:Int),.slice fo nf ak,.int .i64 hd.length,.slice bo nb aj,.string ⟨#[]⟩,.string ⟨#[]⟩,.string ⟨#[]⟩,.slice po np bS,.int .i64 0] 72);have h1:=h.stay Lz Lo hb;have hg:=h1.Uo;have hv:yg c x k=[.pointer (some ⟨(x k).gp,0,none⟩),.string ⟨(c k).hd.method.toArray⟩,.string ⟨(c k).hd.target.toArray⟩,.int .i64 ((c k).hd.minor:Int),.slice (x k).fo (c k).hd.fields.length (x k).ak,.int .i64 (c k).hd.length,.slice (x k).bo (c k).body.length (x k).aj]:=rfl;have c1:=hg.at_ hk (j:=1) (by decide) (by rw[hv];rfl);have c2:=hg.at_ hk (j:=2) (by decide) (by rw[hv];rfl);have c3:=hg.at_ hk (j:=3) (by decide) (by rw[hv];rfl);have c4:=hg.at_ hk (j:=4) (by decide) (by rw[hv];rfl);have c5:=hg.at_ hk (j:=5) (by decide) (by rw[hv];rfl);have f1:=hg.fz (1+k*7+1);have f2:=hg.fz (1+k*7+2);have f3:=hg.fz (1+k*7+3);have f4:=hg.fz (1+k*7+4);have f5:=hg.fz (1+k*7+5)
 obtain⟨q,hq⟩:∃q,1+k*7=q:=⟨_,rfl⟩;have hS:=hg.aaV hk hv hq (.string ⟨hd.method.toArray⟩) (.string ⟨hd.target.toArray⟩) (.int .i64 (hd.minor:Int)) (.slice fo nf ak) (.int .i64 hd.length);rw[hq] at c1 c2 c3 c4 c5 f1 f2 f3 f4 f5 ⊢;have hF1:=hF.turns (Turns.of_below (S:=fun _=>False) hb) (fun _ _ e=>e);have HFin:Hid (∀wf,dS wf g gs (upd (yg c x) k [.pointer (some ⟨(x k).gp,0,none⟩),.string ⟨hd.method.toArray⟩,.string ⟨hd.target.toArray⟩,.int .i64 (hd.minor:Int),.slice fo nf ak,.int .i64 hd.length,.slice (x k).bo (c k).body.length (x k).aj])->Turns (fun i=>i=g) (w.alloc (.cells #[.int .i64 1,.string ⟨hd.method.toArray⟩,.string ⟨hd.target.toArray⟩,.int .i64 (hd.minor:Int),.slice fo nf ak,.int .i64 hd.length,.slice bo nb aj,.string ⟨#[]⟩,.string ⟨#[]⟩,.string ⟨#[]⟩,.slice po np bS,.int .i64 0] 72)) wf->qD w0 κ g gs c z o k w ⟨s,hd,(c k).body,[]⟩ (.returned (.slice none 0 0)) wf):=fun wf hr hT=>by
  have h2:=h1.head k hd fo ak (by rw[hn];exact hF1);have h3:=h2.row Lz Lo hr hT;refine⟨⟨none,0,0,rfl,rfl,aU.nil _⟩,⟨_,upd x k { x k with fo:=fo,ak:=ak },?_,(Ext.refl κ _).bE hb.size .row⟩,(Turns.of_below hb).trans hT (fun i e _=>Or.inl (by rw[e];exact(h.held .row).2))⟩;rw[wK];have:RG ⟨(c k).rq,hd,(c k).body⟩ { x k with fo:=fo,ak:=ak }=[.pointer (some ⟨(x k).gp,0,none⟩),.string ⟨hd.method.toArray⟩,.string ⟨hd.target.toArray⟩,.int .i64 (hd.minor:Int),.slice fo nf ak,.int .i64 hd.length,.slice (x k).bo (c k).body.length (x k).aj]:=by unfold RG;rw[hn]
  rw[this];exact h3
 have HS:=H9 hS;clear h h1 hg hv hF hF1 hS hb hq hn;go_enter func35,ntmps35;go_wp2;go_ret;exact HFin.o _ HS.o.1 HS.o.2
theorem MR (Lz:∀k,fI (z k))(Lo:fI o)(h:eY w0 κ g gs s (yg c x) c x z o w)(hk:k<4)(b:List UInt8){fo bo po:Option Addr}{ak nf nb aj np bS:Nat}(hn:b.length=nb)(hB:aU w bo aj b)(hl:(c k).body.length+nb<=100000):
 Calls prog 35 #[.pointer (some ⟨g,0,none⟩),.pointer (some ⟨g,1+k*7,none⟩),.agg #[.int .i64 2,.string ⟨#[]⟩,.string ⟨#[]⟩,.int .i64 0,.slice fo nf ak,.int .i64 0,.slice bo nb aj,.string ⟨#[]⟩,.string ⟨#[]⟩,.string ⟨#[]⟩,.slice po np bS,.int .i64 0]] w fun e w'=>qD w0 κ g gs c z o k w ⟨s,(c k).hd,(c k).body++b,[]⟩ e w':=by
 have hb:=(Below.refl _ w).alloc (Nat.le_refl _) (.cells #[.int .i64 2,.string ⟨#[]⟩,.string ⟨#[]⟩,.int .i64 0,.slice fo nf ak,.int .i64 0,.slice bo nb aj,.string ⟨#[]⟩,.string ⟨#[]⟩,.string ⟨#[]⟩,.slice po np bS,.int .i64 0] 72);have h1:=(h.stay Lz Lo hb).stay Lz Lo (aA _ _);have hg:=h1.Uo;have hv:yg c x k=[.pointer (some ⟨(x k).gp,0,none⟩),.string ⟨(c k).hd.method.toArray⟩,.string ⟨(c k).hd.target.toArray⟩,.int .i64 ((c k).hd.minor:Int),.slice (x k).fo (c k).hd.fields.length (x k).ak,.int .i64 (c k).hd.length,.slice (x k).bo (c k).body.length (x k).aj]:=rfl;have c6:=hg.at_ hk (j:=6) (by decide) (by rw[hv];rfl);have Vr:=H9 (h1.held (.bd k) hk);have HB:=H9 ((hB.stay hb).stay (aA _ _));obtain⟨j0,hj0,hy0,hy1,hy2⟩:=info_parts dQ;have Hj:=H9 hj0;have M9:=H9 hy0;have Na:=H9 hy1;have Nb:=H9 hy2
 obtain⟨q,hq⟩:∃q,1+k*7=q:=⟨_,rfl⟩;have sZ:Hid (∀iZ dK w5,aF w5 (fun i=>cK (c k).body (x k).bo=some i∨(w.alloc (.cells #[.int .i64 2,.string ⟨#[]⟩,.string ⟨#[]⟩,.int .i64 0,.slice fo nf ak,.int .i64 0,.slice bo nb aj,.string ⟨#[]⟩,.string ⟨#[]⟩,.string ⟨#[]⟩,.slice po np bS,.int .i64 0] 72)).drew.heap.size<=i) 5 iZ dK ((c k).body++b)->Turns (fun i=>cK (c k).body (x k).bo=some i) (w.alloc (.cells #[.int .i64 2,.string ⟨#[]⟩,.string ⟨#[]⟩,.int .i64 0,.slice fo nf ak,.int .i64 0,.slice bo nb aj,.string ⟨#[]⟩,.string ⟨#[]⟩,.string ⟨#[]⟩,.slice po np bS,.int .i64 0] 72)).drew w5->(w5.cell? ⟨g,q+6,none⟩=some (.slice (x k).bo (c k).body.length (x k).aj)∧w5.frozen? ⟨g,q+6,none⟩=false)∧qD w0 κ g gs c z o k w ⟨s,(c k).hd,(c k).body++b,[]⟩ (.returned (.slice none 0 0)) (w5.setCell ⟨g,q+6,none⟩ (.slice iZ ((c k).body.length+nb) dK))):=fun iZ dK w5 Ez nD=>by
  have h5:=h1.grow Lz Lo k hk Ez nD;have hg5:=h5.Uo;have hr:=hg5.set hk (j:=6) (by decide) (.slice iZ ((c k).body.length+nb) dK);have hTs:Turns (fun i=>i=g) w5 (w5.setCell ⟨g,1+k*7+6,none⟩ (.slice iZ ((c k).body.length+nb) dK)):=Turns.setCell _ _ _ _ rfl;have h6:=h5.row Lz Lo hr hTs;rw[hq] at h6 hTs;have cc6:=hg5.at_ hk (j:=6) (by decide) (by rw[hv];rfl);have ff6:=hg5.fz (1+k*7+6);rw[hq] at cc6 ff6;have hz5:=nD.size;have hza:(w.alloc (.cells #[.int .i64 2,.string ⟨#[]⟩,.string ⟨#[]⟩,.int .i64 0,.slice fo nf ak,.int .i64 0,.slice bo nb aj,.string ⟨#[]⟩,.string ⟨#[]⟩,.string ⟨#[]⟩,.slice po np bS,.int .i64 0] 72)).drew.heap.size=w.heap.size+1:=by show(w.alloc _).heap.size=_;rw[World.size_alloc]
  refine⟨⟨cc6,ff6⟩,⟨⟨none,0,0,rfl,rfl,aU.nil _⟩,⟨bE (bE κ (w.alloc (.cells #[.int .i64 2,.string ⟨#[]⟩,.string ⟨#[]⟩,.int .i64 0,.slice fo nf ak,.int .i64 0,.slice bo nb aj,.string ⟨#[]⟩,.string ⟨#[]⟩,.string ⟨#[]⟩,.slice po np bS,.int .i64 0] 72)).drew.heap.size (.bd k)) w5.heap.size .row,upd x k { x k with bo:=iZ,aj:=dK },?_,((Ext.refl κ _).bE (by omega) _).bE (by omega) _⟩,((Turns.of_below (then_ hb (aA _ _))).trans nD (fun i e _=>?_)).trans hTs (fun i e _=>Or.inl (by rw[e];exact(h.held .row).2))⟩⟩
  . rw[wK];have:RG ⟨(c k).rq,(c k).hd,(c k).body++b⟩ { x k with bo:=iZ,aj:=dK }=(yg c x k).set 6 (.slice iZ ((c k).body.length+nb) dK):=by unfold RG yg;rw[List.length_append,hn];rfl
    rw[this];exact h6
  . have hne:(c k).body≠[]:=fun e2=>by unfold cK at e;rw[if_pos e2] at e;cases e
    rcases h.held (.bd k) hk with ⟨_,_,h3⟩ | ⟨h3,_⟩
    . unfold cK at e;rw[if_neg hne] at e;cases kH:(x k).bo with
      | none=>rw[kH] at e;cases e
      | some a=>rw[kH] at e;injection e with e;rw[<-e];exact Or.inr (Or.inr (h3 a kH))
    . exact absurd h3 hne
 rw[hq] at c6 ⊢;clear h h1 hg hv hB hb hq hj0 hy0 hy1 hy2;generalize hbl:(c k).body.length=nl at *;have TS:=H9 hbl;clear hbl;have HHn:=H9 hn;clear hn;go_enter func35,ntmps35;go_upto_region 5 with fail
 go_region_law ((refine iR (by rfl) (.tmp 24) (.tmp 26) 31 (by rfl) 5 j0 underlying31 Hj.o M9.o Na.o Nb.o (by rfl) (by rfl) Vr.o TS.o HB.o HHn.o (by omega) ?_;intro bo5 cap5 w5 yH nD;obtain⟨⟨d6,e6⟩,hm⟩:=sZ.o bo5 cap5 w5 yH nD;have HM:=H9 hm;clear yH nD hm))
 all_goals
  go_wp2;go_ret;exact HM.o
theorem QC (Lz:∀k,fI (z k))(Lo:fI o)(h:eY w0 κ g gs s (yg c x) c x z o w)(hk:k<4)(ok:Sr.Ok s)(hc:Gt.rZ (c k)){fo bo po:Option Addr}{ak nf nb aj np bS:Nat}(hl:(c k).body.length<=20000):
 Calls prog 35 #[.pointer (some ⟨g,0,none⟩),.pointer (some ⟨g,1+k*7,none⟩),.agg #[.int .i64 3,.string ⟨#[]⟩,.string ⟨#[]⟩,.int .i64 0,.slice fo nf ak,.int .i64 0,.slice bo nb aj,.string ⟨#[]⟩,.string ⟨#[]⟩,.string ⟨#[]⟩,.slice po np bS,.int .i64 0]] w fun e w'=>qD w0 κ g gs c z o k w (Gt.ev Tu.aO ⟨s,(c k).hd,(c k).body,[]⟩ .fin) e w':=by
 have hb:=(Below.refl _ w).alloc (Nat.le_refl _) (.cells #[.int .i64 3,.string ⟨#[]⟩,.string ⟨#[]⟩,.int .i64 0,.slice fo nf ak,.int .i64 0,.slice bo nb aj,.string ⟨#[]⟩,.string ⟨#[]⟩,.string ⟨#[]⟩,.slice po np bS,.int .i64 0] 72);have hza:(w.alloc (.cells #[.int .i64 3,.string ⟨#[]⟩,.string ⟨#[]⟩,.int .i64 0,.slice fo nf ak,.int .i64 0,.slice bo nb aj,.string ⟨#[]⟩,.string ⟨#[]⟩,.string ⟨#[]⟩,.slice po np bS,.int .i64 0] 72)).heap.size=w.heap.size+1:=World.size_alloc ..;have h0:=h.trim Lz Lo;have h1:=h0.stay Lz Lo hb;have wO:=H9 (uy h1.Uo hk (rfl:yg c x k=[.pointer (some ⟨(x k).gp,0,none⟩),.string ⟨(c k).hd.method.toArray⟩,.string ⟨(c k).hd.target.toArray⟩,.int .i64 ((c k).hd.minor:Int),.slice (x k).fo (c k).hd.fields.length (x k).ak,.int .i64 (c k).hd.length,.slice (x k).bo (c k).body.length (x k).aj]));have H0:=H9 h;have H1:=H9 h1;have V4:=H9 Lz;have sW:=H9 Lo;have HCk:=H9 hc;have lg:=H9 ok
 have HZa:=H9 hza;have Ug:=H9 hb;obtain⟨R,hR⟩:∃R,R=Gt.over Tu.aO s (c k).hd (c k).body:=⟨_,rfl⟩;have HG:Hid (Gt.ev Tu.aO ⟨s,(c k).hd,(c k).body,[]⟩ .fin=⟨R.1,Rq.hd0,[],Gt.textOf R.2⟩):=by rw[hR];rfl
 have VP:=H9 hR;rw[HG.o];clear h h0 h1 hza hb hR HG Lz Lo hc ok;go_enter func35,ntmps35;go_wp2_with fail
 refine wO.o.mono ?_;rintro e w2 ⟨rfl,hr2,dx⟩;have h2:=H1.o.row V4.o sW.o hr2 dx;have hz2:=dx.size;have hk1:∀i,i=g->bE κ w.heap.size .out i=.row:=fun i e=>by rw[e];exact(H1.o.held .row).2
 have hfl:cu w2 (x k).fo (x k).ak (c k).hd.fields.length (aB (Rq.iH (c k).hd.fields)):=((h2.held (.fl k)).1 hk).is;have hby:aU w2 (x k).bo (x k).aj (c k).body:=aF.qc (h2.held (.bd k) hk);have uG:=H9 (IB (g:=g) (w:=w2) (m:=⟨(c k).hd.method.toArray⟩) (t:=⟨(c k).hd.target.toArray⟩) (mi:=((c k).hd.minor:Int)) (ln:=(c k).hd.length) ⟨h2.pow,h2.nR,fun i e=>h2.far i (by rw[e];intro h;cases h)⟩ (h2.held .dn) lg.o h2.Uo.store (Yx HCk.o.hd hfl) (c k).body rfl hby hl (by show(c k).hd.target.toArray.size<=_;rw[List.size_toArray];have:=HCk.o.hd.target;omega));have H2:=H9 h2;have HT2:=H9 dx
 clear hr2 dx h2 hfl hby wO;go_wp2_with fail
 refine uG.o.mono ?_;rintro e w3 ⟨⟨fo3,Yy,nf3,Vb,Yz,nb3,rfl,WQ,QZ,hm3,hB3,_,_⟩,dJ,jw⟩;rw[show Gt.answer Tu.aO s ⟨(c k).hd.method.toArray⟩ ⟨(c k).hd.target.toArray⟩ (Gt.iH (c k).hd.fields) (c k).body=R from VP.o.symm] at WQ QZ hm3 hB3 dJ;rw[show Gt.answer Tu.aO s ⟨(c k).hd.method.toArray⟩ ⟨(c k).hd.target.toArray⟩ (Gt.iH (c k).hd.fields) (c k).body=R from VP.o.symm];have h3:=H2.o.dn V4.o sW.o dJ jw;have hz3:=jw.size;have hsm:Gt.Small R.2:=by rw[VP.o];exact Gt.rY lg.o _ _ _ _
 have qg:=H9 (Ba w3 R.2 fo3 Vb nf3 Yy nb3 Yz hsm WQ QZ hm3 hB3 (h3.pow.stay h3.nR));have H3:=H9 h3;have HT3:=H9 jw
 clear WQ QZ hm3 hB3 dJ jw h3 hsm uG;go_wp2_with fail
 refine qg.o.mono ?_;rintro e w4 ⟨⟨pX,cap4,n4,rfl,IG,hB4⟩,hb4⟩;have h4:=H3.o.stay V4.o sW.o hb4;have h5:=(h4.head k Rq.hd0 none 0 (iJ.nil _ _)).nobody k;rw[jT,jT,aY,aY] at h5;have HFin:Hid (qD w0 κ g gs c z o k w ⟨R.1,Rq.hd0,[],Gt.textOf R.2⟩ (.returned (.slice pX n4 cap4)) w4):=by
  have hza:=HZa.o;refine⟨⟨pX,cap4,n4,rfl,IG,hB4⟩,⟨_,upd x k { gp:=(x k).gp,fo:=none,ak:=0,bo:=none,aj:=0 },?_,(((Ext.refl κ w.heap.size).bE (Nat.le_refl _) .out).bE (m:=(w.alloc (.cells #[.int .i64 3,.string ⟨#[]⟩,.string ⟨#[]⟩,.int .i64 0,.slice fo nf ak,.int .i64 0,.slice bo nb aj,.string ⟨#[]⟩,.string ⟨#[]⟩,.string ⟨#[]⟩,.slice po np bS,.int .i64 0] 72)).heap.size) (by omega) .row).bE (m:=w2.heap.size) (by omega) .dn⟩,?_⟩
  . rw[wK];exact h5
  . refine(((Turns.of_below Ug.o).trans HT2.o (fun i e hi=>Or.inl ?_)).trans HT3.o (fun i e hi=>Or.inr (Or.inl ?_))).trans (Turns.of_below (S:=fun _=>False) hb4) (fun _ e _=>e.elim)
    . have:=hk1 i e;rw[bD hi] at this;exact this
    . have e:bE (bE κ w.heap.size .out) (w.alloc (.cells #[.int .i64 3,.string ⟨#[]⟩,.string ⟨#[]⟩,.int .i64 0,.slice fo nf ak,.int .i64 0,.slice bo nb aj,.string ⟨#[]⟩,.string ⟨#[]⟩,.string ⟨#[]⟩,.slice po np bS,.int .i64 0] 72)).heap.size .row i=.dn:=e;rw[bD (by omega),bD hi] at e;exact e
 clear h4 h5 hb4 hB4 hk1 IG;go_wp2;go_ret;exact HFin.o
theorem MS (Lz:∀k,fI (z k))(Lo:fI o)(h:eY w0 κ g gs s (yg c x) c x z o w)(hk:k<4)(cd:Nat){fo bo po:Option Addr}{ak nf nb aj np bS:Nat}:
 Calls prog 35 #[.pointer (some ⟨g,0,none⟩),.pointer (some ⟨g,1+k*7,none⟩),.agg #[.int .i64 4,.string ⟨#[]⟩,.string ⟨#[]⟩,.int .i64 0,.slice fo nf ak,.int .i64 0,.slice bo nb aj,.string ⟨#[]⟩,.string ⟨#[]⟩,.string ⟨#[]⟩,.slice po np bS,.int .i64 (cd:Int)]] w fun e w'=>qD w0 κ g gs c z o k w ⟨s,Rq.hd0,[],Gt.textOf (Gt.lC cd)⟩ e w':=by
 have hb:=(Below.refl _ w).alloc (Nat.le_refl _) (.cells #[.int .i64 4,.string ⟨#[]⟩,.string ⟨#[]⟩,.int .i64 0,.slice fo nf ak,.int .i64 0,.slice bo nb aj,.string ⟨#[]⟩,.string ⟨#[]⟩,.string ⟨#[]⟩,.slice po np bS,.int .i64 (cd:Int)] 72);have hza:(w.alloc (.cells #[.int .i64 4,.string ⟨#[]⟩,.string ⟨#[]⟩,.int .i64 0,.slice fo nf ak,.int .i64 0,.slice bo nb aj,.string ⟨#[]⟩,.string ⟨#[]⟩,.string ⟨#[]⟩,.slice po np bS,.int .i64 (cd:Int)] 72)).heap.size=w.heap.size+1:=World.size_alloc ..;have h0:=h.trim Lz Lo;have h1:=h0.stay Lz Lo hb;have wO:=H9 (uy h1.Uo hk (rfl:yg c x k=[.pointer (some ⟨(x k).gp,0,none⟩),.string ⟨(c k).hd.method.toArray⟩,.string ⟨(c k).hd.target.toArray⟩,.int .i64 ((c k).hd.minor:Int),.slice (x k).fo (c k).hd.fields.length (x k).ak,.int .i64 (c k).hd.length,.slice (x k).bo (c k).body.length (x k).aj]));have hne:w.heap.size≠g:=by have:=h.Uo.lt;omega
 have H1:=H9 h1;have V4:=H9 Lz;have sW:=H9 Lo
 have HZa:=H9 hza;have Ug:=H9 hb;have Wo:=H9 (fun W=>GZ cd W);have zP:=H9 (heap_alloc_new w (.cells #[.int .i64 4,.string ⟨#[]⟩,.string ⟨#[]⟩,.int .i64 0,.slice fo nf ak,.int .i64 0,.slice bo nb aj,.string ⟨#[]⟩,.string ⟨#[]⟩,.string ⟨#[]⟩,.slice po np bS,.int .i64 (cd:Int)] 72));clear h h0 h1 hza hb Lz Lo;go_enter func35,ntmps35;go_wp2_with fail
 refine wO.o.mono ?_;rintro e w2 ⟨rfl,hr2,dx⟩;have h2:=H1.o.row V4.o sW.o hr2 dx;have hz2:=dx.size;have a11:w2.cell? ⟨w.heap.size,11,none⟩=some (.int .i64 (cd:Int)):=cell_of_row w2 _ 11 _ _ _ (dx.row zP.o hne);have hk1:∀i,i=g->bE κ w.heap.size .out i=.row:=fun i e=>by rw[e];exact(H1.o.held .row).2
 have H2:=H9 h2;have HT2:=H9 dx
 clear hr2 dx h2 wO;go_wp2_with fail
 refine(Wo.o _).mono ?_;rintro e w3 ⟨rfl,hb3⟩;have h3:=H2.o.stay V4.o sW.o hb3;have qg:=H9 (Ba w3 (Gt.lC cd) none none 0 0 0 0 (Gt.qx cd) rfl (cu.nil _) rfl (aU.nil _) (h3.pow.stay h3.nR));have H3:=H9 h3;have HB3:=H9 hb3
 clear h3 hb3;go_wp2_with fail
 refine qg.o.mono ?_;rintro e w4 ⟨⟨pX,cap4,n4,rfl,IG,hB4⟩,hb4⟩;have h4:=H3.o.stay V4.o sW.o hb4;have h5:=(h4.head k Rq.hd0 none 0 (iJ.nil _ _)).nobody k;rw[jT,jT,aY,aY] at h5;have HFin:Hid (qD w0 κ g gs c z o k w ⟨s,Rq.hd0,[],Gt.textOf (Gt.lC cd)⟩ (.returned (.slice pX n4 cap4)) w4):=by
  have hza:=HZa.o;refine⟨⟨pX,cap4,n4,rfl,IG,hB4⟩,⟨_,upd x k { gp:=(x k).gp,fo:=none,ak:=0,bo:=none,aj:=0 },?_,((Ext.refl κ w.heap.size).bE (Nat.le_refl _) .out).bE (m:=(w.alloc (.cells #[.int .i64 4,.string ⟨#[]⟩,.string ⟨#[]⟩,.int .i64 0,.slice fo nf ak,.int .i64 0,.slice bo nb aj,.string ⟨#[]⟩,.string ⟨#[]⟩,.string ⟨#[]⟩,.slice po np bS,.int .i64 (cd:Int)] 72)).heap.size) (by omega) .row⟩,?_⟩
  . rw[wK];exact h5
  . refine((Turns.of_below Ug.o).trans HT2.o (fun i e hi=>Or.inl ?_)).trans (Turns.of_below (S:=fun _=>False) (then_ HB3.o hb4)) (fun _ e _=>e.elim);have:=hk1 i e;rw[bD hi] at this;exact this
 clear h4 h5 hb4 hB4 hk1 IG;go_wp2;go_ret;exact HFin.o
end
def Q6 (ao:Option Addr)(cap:Nat)(es:List aZ):Ob:=fun w S=>iA w S 72 ao cap es
theorem Q6.law (ao:Option Addr)(cap:Nat)(es:List aZ):fI (Q6 ao cap es):=⟨fun h ht hs=>iA.turns h ht hs,fun h hs=>iA.mono h hs⟩
def Uq (ao:Option Addr)(cap:Nat)(l:List UInt8):Ob:=fun w S=>aF w S 5 ao cap l
theorem Uq.law (ao:Option Addr)(cap:Nat)(l:List UInt8):fI (Uq ao cap l):=⟨fun h ht hs=>aF.turns h ht hs,fun h hs=>aF.mono h hs⟩
def QD (k:Nat)(b:Ob):Nat->Ob:=fun j w S=>j=k->b w S
theorem QD.law {k:Nat}{b:Ob}(hb:fI b):∀j,fI (QD k b j):=fun _=>⟨fun h ht hs e=>hb.turns (h e) ht hs,fun h hs e=>hb.mono (h e) hs⟩
theorem iA.lit {w:World}{S:Nat->Prop}{tE:Nat}{ao:Option Addr}{cap:Nat}{es:List aZ}(h:iA w S tE ao cap es)(h0:0<es.length):∃b o,ao=some ⟨b,o,none⟩∧∀j (hj:j<es.length),∃s,(∀i u,(es[j].cells s)[i]? = some u->w.cell? ⟨b,o+j*12+i,none⟩=some u)∧vS w S es[j] s:=by
 obtain⟨ps,rfl,hO,_,hI⟩:=h;have hv:=hO.lQ;obtain⟨b,o,rfl,hc⟩:=hv.lit (by rw[iK];rw[List.length_map] at h0;omega);refine⟨b,o,rfl,fun j hj=>?_⟩;have hj':j<ps.length:=by simpa using hj
 refine⟨ps[j].2,fun i u hi=>?_,?_⟩
 . rw[List.getElem_map] at hi;have hl:i<12:=(List.getElem?_eq_some_iff.1 hi).1;rw[<-lZ _ j hj' i hl] at hi;have:=hc _ _ hi;rw[Nat.add_assoc];exact this
 . rw[List.getElem_map];exact(hI _ (List.getElem_mem hj')).mono (fun _ _ e=>e.1)
section
variable {w0 w w':World} {κ:Nat->yh} {g gs:Nat} {s:Sr.Sh} {v:Nat->List Value} {c:Nat->Gt.Cn} {x:Nat->KS} {z:Nat->Ob} {o o':Ob} {k:Nat}
theorem eY.answered (Lz:∀k,fI (z k))(Lo:fI o)(Lo':fI o')(h:eY w0 κ g gs s v c x z o w){T N:Nat->Prop}(ht:Turns T w w')(hT:∀k,T k->κ k=.ret)(hY:o' w' N)(hN:∀k,N k->κ k=.ret∨w.heap.size<=k):eY w0 (bE κ w.heap.size .ret) g gs s v c x z o' w' :=
 ⟨h.held.act (iV Lz Lo) ht hT (X':=zM g gs s v 4 c x z o') Lo' hY hN (fun d hd=>by cases d <;> first | rfl | exact absurd rfl hd),h.pow,h.nR.trans (ht.below (fun k e=>h.far k (by rw[hT k e];intro h;cases h)) h.nR.size),I4 h.far h.nR.size⟩
theorem V5 (c:Nat->Gt.Cn)(x:Nat->KS)(k:Nat)(r:Rq.St):yg (upd c k { c k with rq:=r }) x=yg c x:=by
 funext i;unfold yg upd;split
 . next h=>subst h;rfl
 . rfl
theorem eY.fed (h:eY w0 κ g gs s v c x Wi Ej w)(hk:k<4){l:List UInt8}{e:Ending}(hF:IZ w (fun i=>κ i=.rq k) (x k).gp (c k).rq l e w'):∃ao cap n CV,e=.returned (.slice ao n cap)∧n=(Rq.join (Rq.outs (c k).rq l)).length∧eY w0 CV g gs s v (upd c k { c k with rq:=Rq.fold (c k).rq l }) x (QD k (Q6 ao cap ((Rq.join (Rq.outs (c k).rq l)).map Rq.Ev.d))) Ej w'∧Turns (fun i=>κ i=.rq k) w w'∧∀i,i<w.heap.size->CV i=κ i∨κ i≠.out:=by
 obtain⟨ao,cap,n,S',So',he,hn,hR,hO,hd,hS,hSo,hT⟩:=hF;obtain⟨CV,h1,h2,h3⟩:=h.held.split (iV (fun _=>fI.gV) fI.gV) (p:=.rq k) (e:=.fl k) (by intro h;cases h) (X':=zM g gs s v 4 (upd c k { c k with rq:=Rq.fold (c k).rq l }) x (QD k (Q6 ao cap ((Rq.join (Rq.outs (c k).rq l)).map Rq.Ev.d))) Ej) hT (fun _ e=>e) (P:=S') (E:=So') (fun _=>by rw[aY];exact hR) (iV (QD.law (Q6.law _ _ _)) fI.gV _) hd hS hSo
  (fun S hX hs1 hs2=>⟨fun hk=>by rw[aY];exact(hX.1 hk).mono (fun i _ e=>hs1 i e),fun _=>hO.all.mono (fun i _ e=>hs2 i e)⟩)
  (fun d h1 h2 => by
   cases d with
   | row=>rfl
   | dn=>rfl
   | rq j =>
     have e:j≠k:=fun e=>h1 (by rw[e]);simp only[zM];rw[upd_ne _ _ e]
   | fl j =>
     have e:j≠k:=fun e=>h2 (by rw[e]);simp only[zM];rw[upd_ne _ _ e];funext W S;unfold QD;simp[e]
   | bd j =>
     by_cases e:j=k
     . subst e;simp only[zM,aY]
     . simp only[zM];rw[upd_ne _ _ e]
   | ret=>rfl
   | out=>rfl)
 refine⟨ao,cap,n,CV,he,hn,⟨h1,h.pow,h.nR.trans (hT.below (fun i e=>h.far i (by rw[e];intro h;cases h)) h.nR.size),fun i hi=>?_⟩,hT,fun i hi=>?_⟩
 . rcases Nat.lt_or_ge i w.heap.size with hl | hl
   . rcases h2 i hl with e | e
     . exact h.far i (by rw[<-e];exact hi)
     . exact h.far i (by rw[e.1];intro h;cases h)
   . have:=h.nR.size;omega
 . rcases h2 i hi with e | e
   . exact Or.inl e
   . exact Or.inr (by rw[e.1];intro h;cases h)
end
structure J7 (S:Nat->Prop)(w:World)(g gs:Nat)(c:Nat->Gt.Cn)(k:Nat)(r:Sr.Sh×Gt.Cn×List UInt8)(code:Int)(e:Ending)(w':World):Prop where
 ret:∃(ao:Option Addr) (cap n:Nat),e=.returned (.tuple #[.slice ao n cap,.int .i64 code])∧n=r.2.2.length∧aU w' ao cap r.2.2
 at_:cZ w' (av S w) g gs r.1 (upd c k r.2.1)
 turns:Turns S w w'
section
variable {w0 w:World} {S:Nat->Prop} {g gs:Nat} {s:Sr.Sh} {c:Nat->Gt.Cn}
theorem QE {κ:Nat->yh}{x:Nat->KS}{z:Nat->Ob}{o:Ob}{k:Nat}(Lz:∀k,fI (z k))(Lo:fI o)(h:eY w0 κ g gs s (yg c x) c x z o w)(hk:k<4)(ok:Sr.Ok s)(hc:Gt.rZ (c k))(ev:Rq.Ev)(es:EvS)(hE:vS w (fun i=>κ i=.fl k) ev.d es)(hl:(c k).body.length+ev.d.bytes.length<=20000):
 Calls prog 35 #[.pointer (some ⟨g,0,none⟩),.pointer (some ⟨g,1+k*7,none⟩),.agg #[.int .i64 ev.d.kind,.string ev.d.method,.string ev.d.target,.int .i64 ev.d.minor,.slice es.fo ev.d.fields.length es.ak,.int .i64 ev.d.length,.slice es.bo ev.d.bytes.length es.aj,.string ev.d.dX,.string ev.d.dO,.string ev.d.ptype,.slice es.po ev.d.aH.length es.bS,.int .i64 ev.d.code]] w fun e w'=>qD w0 κ g gs c z o k w (Gt.ev Tu.aO ⟨s,(c k).hd,(c k).body,[]⟩ ev) e w':=by
 cases ev with
 | head hd=>exact MQ Lz Lo h hk hd (Rq.kN _).symm hE.fields
 | body b=>exact MR Lz Lo h hk b rfl hE.bytes.is (by have:(Rq.Ev.body b).d.bytes.length=b.length:=rfl;omega)
 | fin=>exact QC Lz Lo h hk ok hc (by omega)
 | fail cd=>exact MS Lz Lo h hk cd
theorem Gt.QF (s:Sr.Sh)(hd:Rq.Hd)(body out:List UInt8)(e:Rq.Ev):Gt.ev Tu.aO ⟨s,hd,body,out⟩ e={ Gt.ev Tu.aO ⟨s,hd,body,[]⟩ e with out:=out++(Gt.ev Tu.aO ⟨s,hd,body,[]⟩ e).out }:=by
 have:=Gt.Om Tu.aO ⟨s,hd,body,[]⟩ out e;rw[show({ (⟨s,hd,body,[]⟩:Gt.Gs) with out:=out++[] }:Gt.Gs)=⟨s,hd,body,out⟩ from by rw[List.append_nil]] at this;exact this
structure FH (w0:World)(S:Nat->Prop)(w:World)(g gs:Nat)(c:Nat->Gt.Cn)(k:Nat)(ro:Rq.St)(eo:Option Addr)(ec:Nat)(es:List Rq.Ev)(G:Gt.Gs)(ao:Option Addr)(cap:Nat)(wr:World):Prop where
 at_:∃κ x,eY w0 κ g gs G.s (yg (upd c k ⟨ro,G.hd,G.body⟩) x) (upd c k ⟨ro,G.hd,G.body⟩) x (QD k (Q6 eo ec (es.map Rq.Ev.d))) (Uq ao cap G.out) wr∧∀i,κ i≠.out->av S w i
 turns:Turns S w wr
 ok:Sr.Ok G.s
 hd:Rq.jE G.hd
theorem Ur:∀{s:Sr.Sh},Sr.Ok s->∀m t l body,Sr.Ok (Tu.aO s m t l body).1:=fun h m t l b=>Tu.JA h m t l b
theorem SV {κ:Nat->yh}{k:Nat}{ro:Rq.St}{eo:Option Addr}{ec:Nat}{es:List Rq.Ev}{G G':Gt.Gs}{ao:Option Addr}{cap:Nat}{wb w5:World}{e:Ending}(hS:∀i,κ i≠.out->av S w i)(hT:Turns S w wb)(hM:qD w0 κ g gs (upd c k ⟨ro,G.hd,G.body⟩) (QD k (Q6 eo ec (es.map Rq.Ev.d))) (Uq ao cap G.out) k wb G' e w5)(ok:Sr.Ok G'.s)(hhd:Rq.jE G'.hd):
 ∃(vW:Option Addr) (cap5 n5:Nat) (B:Nat->Prop),e=.returned (.slice vW n5 cap5)∧n5=G'.out.length∧aU w5 vW cap5 G'.out∧aF w5 B 5 ao cap G.out∧∀FX cap6 w6,aF w6 (fun i=>cK G.out ao=some i∨w5.heap.size<=i) 5 FX cap6 (G.out++G'.out)->Turns (fun i=>cK G.out ao=some i) w5 w6->FH w0 S w g gs c k ro eo ec es { G' with out:=G.out++G'.out } FX cap6 w6:=by
 obtain⟨vW,cap5,n5,he,hn,hB⟩:=hM.ret;obtain⟨Zn,x5,h5,hE⟩:=hM.at_;have hz5:=hM.turns.size;have hzb:=hT.size;rw[jT,aY] at h5;have kW:aF w5 (fun i=>Zn i=.ret) 5 ao cap G.out:=h5.held .ret;have hin:∀i,cK G.out ao=some i->Zn i=.ret:=fun i e=>by
  unfold cK at e;split at e
  . cases e
  . rename_i hne;rcases kW with ⟨_,_,h3⟩ | ⟨h1,_⟩
    . cases kH:ao with
      | none=>rw[kH] at e;cases e
      | some a=>rw[kH] at e;injection e with e;rw[<-e];exact h3 a kH
    . exact absurd h1 hne
 have hS5:∀i,Zn i≠.out->av S w i:=fun i hi=>by
  rcases Nat.lt_or_ge i wb.heap.size with hl | hl
  . exact hS i (by rw[<-hE i hl];exact hi)
  . exact Or.inr (by omega)
 refine⟨vW,cap5,n5,_,he,hn,hB,kW,fun FX cap6 w6 Wq kD=>⟨⟨bE Zn w5.heap.size .ret,x5,h5.answered (QD.law (Q6.law _ _ _)) (Uq.law _ _ _) (Uq.law _ _ _) kD hin Wq (fun i e=>?_),fun i hi=>?_⟩,(hT.trans hM.turns (fun i e hi=>?_)).trans kD (fun i e hi=>?_),ok,hhd⟩⟩
 . rcases e with e | e
   . exact Or.inl (hin i e)
   . exact Or.inr e
 . rcases Nat.lt_or_ge i w5.heap.size with hl | hl
   . rw[bD hl] at hi;exact hS5 i hi
   . exact Or.inr (by omega)
 . have hn:κ i≠.out:=by rcases e with e | e | e <;> (rw[e];intro h;cases h)
   rcases hS i hn with h | h
   . exact h
   . omega
 . rcases hS5 i (by rw[hin i e];intro h;cases h) with h | h
   . exact h
   . omega
theorem FH.done {k:Nat}{ro:Rq.St}{eo:Option Addr}{ec:Nat}{es:List Rq.Ev}{G:Gt.Gs}{ao:Option Addr}{cap:Nat}{wr:World}(h:FH w0 S w g gs c k ro eo ec es G ao cap wr):aU wr ao cap G.out∧cZ wr (av S w) g gs G.s (upd c k ⟨ro,G.hd,G.body⟩)∧Turns S w wr:=by
 obtain⟨κ,x,hG,hS⟩:=h.at_;have hr:aF wr (fun i=>κ i=.ret) 5 ao cap G.out:=hG.held .ret;refine⟨hr.qc,⟨κ,x,fun d=>?_,hS⟩,h.turns⟩;have hd:=hG.held d;cases d with
 | fl j=>exact⟨hd.1,trivial⟩
 | ret=>trivial
 | row=>exact hd
 | dn=>exact hd
 | rq j=>exact hd
 | bd j=>exact hd
 | out=>trivial
end
section
variable {w0 w:World} {S:Nat->Prop} {g gs:Nat} {s:Sr.Sh} {c:Nat->Gt.Cn}
theorem FI (k:Int)(hk:k<0∨4<=k)(bo:Option Addr)(aj n:Nat)(w:World):
 Calls prog 13 #[.pointer (some ⟨g,0,none⟩),.int .i64 k,.slice bo n aj] w fun e w'=>e=.returned (.tuple #[.slice none 0 0,.int .i64 1])∧w'=w:=by
 have HI:=H9 (fun W=>nC k W);rw[show(decide (0<=k)&&decide (k<4))=false from by rcases hk with h | h <;> simp <;> omega] at HI;go_enter func13,ntmps13;go_wp2_with fail
 refine(HI.o _).mono ?_;rintro e w1 ⟨rfl,hw⟩;subst hw;go_wp2;go_ret2;exact⟨rfl,rfl⟩
theorem uN (hP:gU w0)(hW:Below w0.heap.size w0 w)(hF:∀i,S i->w0.heap.size<=i)(h:cZ w S g gs s c)(ok:Sr.Ok s)(k:Nat)(hk:k<4)(hc:Gt.rZ (c k))(l:List UInt8){bo:Option Addr}{aj n:Nat}(hB:aU w bo aj l)(kH:l≠[]->∀a,bo=some a->¬S a.block)(hn:l.length=n)(hl:(c k).body.length+n<=20000):
 Calls prog 13 #[.pointer (some ⟨g,0,none⟩),.int .i64 (k:Int),.slice bo n aj] w fun e w'=>J7 S w g gs c k (Gt.feed Tu.aO s (c k) l) (if (c k).rq.ph=4 then 18 else 0) e w':=by
 have HI:=H9 (fun W=>nC (k:Int) W);rw[show(decide ((0:Int)<=(k:Int))&&decide ((k:Int)<4))=true from by simp;omega] at HI;obtain⟨κ,x,hH,hS⟩:=h;have hG0:eY w0 κ g gs s (yg c x) c x Wi Ej w:=⟨hH,hP,hW,fun i e=>hF i (hS i e)⟩;have cg:w.cell? ⟨g,1+k*7,none⟩=some (.pointer (some ⟨(x k).gp,0,none⟩)):=hG0.Uo.at_ hk (j:=0) (u:=.pointer (some ⟨(x k).gp,0,none⟩)) (by decide) rfl;have HD:=H9 (xV w (fun i=>κ i=.rq k) (x k).gp (c k).rq (hH (.rq k) hk));have k0:(0:Int)<=(k:Int):=by omega
 have k4:(k:Int)<4:=by omega
 by_cases h4:(c k).rq.ph=4
 . rw[if_pos h4];rw[decide_eq_true h4] at HD;have Vp:Gt.feed Tu.aO s (c k) l=(s,c k,[]):=by
    have:=Rq.l6 l (c k).rq h4;unfold Gt.feed Gt.xL;rw[this.1,this.2];rfl
   rw[Vp];have HFin:Hid (J7 S w g gs c k (s,c k,[]) 18 (.returned (.tuple #[.slice none 0 0,.int .i64 18])) w):=⟨⟨none,0,0,rfl,rfl,aU.nil _⟩,by rw[upd_same];exact cZ.mono ⟨κ,x,hH,hS⟩ (fun i _ e=>Or.inl e),Turns.refl _ _⟩;clear hH hS hG0 Vp h4 hB kH hc ok;go_enter func13,ntmps13;go_wp2_with fail
   refine(HI.o _).mono ?_;rintro e w1 ⟨rfl,hw⟩;rw[hw];clear hw;go_wp2_with fail
   refine HD.o.mono ?_;rintro e w1 ⟨rfl,hw⟩;rw[hw];clear hw;go_wp2;go_ret2;exact HFin.o
 . rw[if_neg h4];rw[decide_eq_false h4] at HD;have Zo:=H9 (FE w (fun i=>κ i=.rq k) (x k).gp (c k).rq l bo aj n (hH (.rq k) hk) hc.rq hB (fun hne a e e2=>kH hne a e (hS _ (by rw[e2];intro h;cases h))) hn (by omega));have HG0:=H9 hG0;have HS:=H9 hS
   clear hH hS hG0 hB kH h4;go_enter func13,ntmps13;go_wp2_with fail
   refine(HI.o _).mono ?_;rintro e w1 ⟨rfl,hw⟩;rw[hw];clear hw;go_wp2_with fail
   refine HD.o.mono ?_;rintro e w1 ⟨rfl,hw⟩;rw[hw];clear hw;go_wp2_with fail
   refine Zo.o.mono ?_;rintro e w1 hFr;obtain⟨eo,ec,ne,κ1,rfl,hne,hG1,hT1,hE1⟩:=HG0.o.fed hk hFr;have hS1:∀i,κ1 i≠.out->av S w i:=fun i hi=>by
    rcases Nat.lt_or_ge i w.heap.size with hl | hl
    . rcases hE1 i hl with e | e
      . exact Or.inl (HS.o i (by rw[<-e];exact hi))
      . exact Or.inl (HS.o i e)
    . exact Or.inr hl
   rw[<-V5 c x k (Rq.fold (c k).rq l)] at hG1;have iw:=Rq.JB (c k).rq l;obtain⟨es,hes⟩:∃es,es=Rq.join (Rq.outs (c k).rq l):=⟨_,rfl⟩;have Us:∀e∈es,e.mR:=by rw[hes];exact Rq.je _ (Rq.ko l hc.rq)
   have oV:Hid (Gt.feed Tu.aO s (c k) l=((Gt.evs Tu.aO ⟨s,(c k).hd,(c k).body,[]⟩ es).s,⟨Rq.fold (c k).rq l,(Gt.evs Tu.aO ⟨s,(c k).hd,(c k).body,[]⟩ es).hd,(Gt.evs Tu.aO ⟨s,(c k).hd,(c k).body,[]⟩ es).body⟩,(Gt.evs Tu.aO ⟨s,(c k).hd,(c k).body,[]⟩ es).out)):=by rw[hes,Gt.oh];rfl
   rw[<-hes] at hne hG1 iw;have hR0:FH w0 S w g gs c k (Rq.fold (c k).rq l) eo ec es ⟨s,(c k).hd,(c k).body,[]⟩ none 0 w1:=⟨⟨κ1,x,⟨fun d=>by
    have hd:=hG1.held d;cases d with
    | ret =>
      show aF w1 (fun i=>κ1 i=.ret) 5 none 0 [];exact aF.nil _ _ _
    | fl j=>exact hd
    | row=>exact hd
    | dn=>exact hd
    | rq j=>exact hd
    | bd j=>exact hd
    | out=>trivial,hG1.pow,hG1.nR,hG1.far⟩,hS1⟩,hT1.mono (fun i e=>HS.o i (by rw[e];intro h;cases h)),ok,hc.hd⟩
   have hbd:∀i (hi:i<es.length),(Gt.evs Tu.aO ⟨s,(c k).hd,(c k).body,[]⟩ (es.take i)).body.length+es[i].d.bytes.length<=20000:=fun i hi=>by
    have h1:=Gt.yx Tu.aO (es.take i) ⟨s,(c k).hd,(c k).body,[]⟩;have h2:Rq.bV (es.take i)+es[i].d.bytes.length<=Rq.bV es:=by
     conv=>rhs;rw[<-List.take_append_drop i es,Rq.gD,List.drop_eq_getElem_cons hi]
     generalize es[i]=e;cases e with
     | body b=>show _+b.length<=_+(b.length+_);omega
     | head _=>exact Nat.add_le_add_left (Nat.zero_le _) _
     | fin=>exact Nat.add_le_add_left (Nat.zero_le _) _
     | fail _=>exact Nat.add_le_add_left (Nat.zero_le _) _
    have h3:=iw.2.1;have h4:(⟨s,(c k).hd,(c k).body,[]⟩:Gt.Gs).body.length=(c k).body.length:=rfl;omega
   have hol:∀i,i<=es.length->(Gt.evs Tu.aO ⟨s,(c k).hd,(c k).body,[]⟩ (es.take i)).out.length<=6000*40000:=fun i hi=>by
    have h1:=Gt.oC (es.take i) (g:=⟨s,(c k).hd,(c k).body,[]⟩) ok;rw[List.length_take] at h1;have h3:=iw.1;have h4:(⟨s,(c k).hd,(c k).body,[]⟩:Gt.Gs).out.length=0:=rfl;omega
   have hlen:es.length<=40000:=by have:=iw.1;omega
   have YA:Rq.Good (Rq.fold (c k).rq l):=hc.rq.fold l;have CW:=H9 hR0;have yJ:=H9 hbd;have HOl:=H9 hol;have HFi:=H9 Us;have Yb:=H9 YA
   obtain⟨j0,hj0,hy0,hy1,hy2⟩:=info_parts dQ;have Hj:=H9 hj0;have M9:=H9 hy0;have Na:=H9 hy1;have Nb:=H9 hy2
   subst hne;clear hG1 hT1 hE1 hS1 iw Us hes hR0 hbd hol YA HG0 Zo HI HD hFr cg hj0 hy0 hy1 hy2;generalize Rq.fold (c k).rq l=ro at *;generalize aaZ:(⟨s,(c k).hd,(c k).body,[]⟩:Gt.Gs)=G0 at *;go_wp2;go_loopw [9,37] (fun vo vi wr=>∃(i m:Nat) (ao:Option Addr) (cap:Nat),i<=es.length∧vi=.int .i64 i∧vo=.slice ao m cap∧m=(Gt.evs Tu.aO G0 (es.take i)).out.length∧FH w0 S w g gs c k ro eo ec es (Gt.evs Tu.aO G0 (es.take i)) ao cap wr) (fun _ vi _=>es.length-(intOf vi).toNat)
   case atStart=>exact⟨0,0,none,0,Nat.zero_le _,rfl,rfl,by rw[<-aaZ];rfl,CW.o⟩
   case round =>
    obtain⟨i,m,ao,cap,hi,rfl,rfl,hm,hR⟩:=hrel;by_cases hlt:i<es.length
    . have hlt':(i:Int)<es.length:=by omega
      have Im:Gt.evs Tu.aO G0 (es.take (i+1))=Gt.ev Tu.aO (Gt.evs Tu.aO G0 (es.take i)) es[i]:=by rw[List.take_succ_eq_append_getElem hlt,Gt.xK];rfl
      have hbi:=yJ.o i hlt;have hoi:=HOl.o (i+1) (by omega);have aa0:=HOl.o i (by omega);have hfi:=HFi.o es[i] (List.getElem_mem hlt);obtain⟨κ,x2,hG,hS2⟩:=hR.at_;have hEv:iA wr (fun j=>κ j=.fl k) 72 eo ec (es.map Rq.Ev.d):=(hG.held (.fl k)).2 rfl;have hcap:es.length<=ec:=by have:=hEv.Zw.1;rw[List.length_map] at this;exact this
      obtain⟨b,o,rfl,YB⟩:=hEv.lit (by rw[List.length_map];omega);obtain⟨sl,hcl,hIn⟩:=YB i (by rw[List.length_map];exact hlt);rw[List.getElem_map] at hcl hIn;generalize Gt.evs Tu.aO G0 (es.take i)=G at *;rw[Im] at hoi;generalize hev:es[i]=ev at *;have bQ:=(Below.refl _ wr).alloc (Nat.le_refl _) (.cells #[.int .i64 ev.d.kind,.string ev.d.method,.string ev.d.target,.int .i64 ev.d.minor,.slice sl.fo ev.d.fields.length sl.ak,.int .i64 ev.d.length,.slice sl.bo ev.d.bytes.length sl.aj,.string ev.d.dX,.string ev.d.dO,.string ev.d.ptype,.slice sl.po ev.d.aH.length sl.bS,.int .i64 ev.d.code] 72);have hGA:=hG.stay (QD.law (Q6.law _ _ _)) (Uq.law _ _ _) bQ;have YC:=hIn.turns (Turns.of_below (S:=fun _=>False) bQ) (fun _ _ e=>e);have Ww:=H9 (QE (QD.law (Q6.law _ _ _)) (Uq.law _ _ _) hGA hk hR.ok (by rw[aY];exact⟨Yb.o,hR.hd⟩) ev sl YC (by rw[aY];exact hbi));rw[aY] at Ww;have Yv:=fun(w5:World) (e5:Ending)=>SV (e:=e5) (w5:=w5) (G:=G) (G':=Gt.ev Tu.aO ⟨G.s,G.hd,G.body,[]⟩ ev) (κ:=κ) (es:=es) (eo:=some ⟨b,o,none⟩) (ec:=ec) (ao:=ao) (cap:=cap) (ro:=ro) (k:=k) (c:=c) (g:=g) (gs:=gs) (w0:=w0) hS2 (hR.turns.trans (Turns.of_below (S:=fun _=>False) bQ) (fun _ e _=>e.elim));have hfr:Gt.ev Tu.aO G ev={ Gt.ev Tu.aO ⟨G.s,G.hd,G.body,[]⟩ ev with out:=G.out++(Gt.ev Tu.aO ⟨G.s,G.hd,G.body,[]⟩ ev).out }:=Gt.QF G.s G.hd G.body G.out ev;have hok':Sr.Ok (Gt.ev Tu.aO ⟨G.s,G.hd,G.body,[]⟩ ev).s:=Gt.Oq Tu.aO Ur (g:=⟨G.s,G.hd,G.body,[]⟩) hR.ok ev;have YD:Rq.jE (Gt.ev Tu.aO ⟨G.s,G.hd,G.body,[]⟩ ev).hd:=Gt.Tw Tu.aO (g:=⟨G.s,G.hd,G.body,[]⟩) hR.hd hfi;have hsum:G.out.length+(Gt.ev Tu.aO ⟨G.s,G.hd,G.body,[]⟩ ev).out.length<=6000*40000:=by rw[<-List.length_append];rw[hfr] at hoi;exact hoi
      have c0:wr.cell? ⟨b,o+i*12,none⟩=some (.int .i64 ev.d.kind):=hcl 0 _ rfl;have c1:wr.cell? ⟨b,o+i*12+1,none⟩=some (.string ev.d.method):=hcl 1 _ rfl;have c2:wr.cell? ⟨b,o+i*12+2,none⟩=some (.string ev.d.target):=hcl 2 _ rfl;have c3:wr.cell? ⟨b,o+i*12+3,none⟩=some (.int .i64 ev.d.minor):=hcl 3 _ rfl;have c4:wr.cell? ⟨b,o+i*12+4,none⟩=some (.slice sl.fo ev.d.fields.length sl.ak):=hcl 4 _ rfl;have c5:wr.cell? ⟨b,o+i*12+5,none⟩=some (.int .i64 ev.d.length):=hcl 5 _ rfl;have c6:wr.cell? ⟨b,o+i*12+6,none⟩=some (.slice sl.bo ev.d.bytes.length sl.aj):=hcl 6 _ rfl;have c7:wr.cell? ⟨b,o+i*12+7,none⟩=some (.string ev.d.dX):=hcl 7 _ rfl;have c8:wr.cell? ⟨b,o+i*12+8,none⟩=some (.string ev.d.dO):=hcl 8 _ rfl;have c9:wr.cell? ⟨b,o+i*12+9,none⟩=some (.string ev.d.ptype):=hcl 9 _ rfl;have c10:wr.cell? ⟨b,o+i*12+10,none⟩=some (.slice sl.po ev.d.aH.length sl.bS):=hcl 10 _ rfl;have c11:wr.cell? ⟨b,o+i*12+11,none⟩=some (.int .i64 ev.d.code):=hcl 11 _ rfl;have Ht:=H9 Yv;have pQ:=H9 Im;have HFr:=H9 hfr;have aa2:=H9 hok';have aa3:=H9 YD;have HM:=H9 hm
      clear hR hG hS2 hEv YB hcl hIn bQ hGA YC Yv Im hfr hok' YD hbi hoi aa0 hfi hm;generalize ev.d=ed at *;generalize Gt.ev Tu.aO ⟨G.s,G.hd,G.body,[]⟩ ev=G' at *;go_wp2_with fail
      refine Ww.o.mono ?_;rintro e w5 hMt;obtain⟨vW,cap5,n5,B,rfl,Nn,wN,YE,hfin⟩:=Ht.o w5 e hMt aa2.o aa3.o;have kU:=H9 wN;have Vr:=H9 YE;have Lc:=H9 hfin;have SS:=H9 Nn.symm;have Mc:=H9 HM.o.symm
      have hml:m+n5<=240000000:=by rw[Nn,HM.o];exact hsum
      clear hMt wN YE hfin Nn Ww Ht hsum;go_wp2_with (at_builtin;refine dZ rfl (.tmp 41) (.tmp 45) 31 rfl 5 j0 underlying31 Hj.o M9.o Na.o Nb.o rfl rfl Vr.o Mc.o kU.o SS.o (by omega) ?_;intro FX cap6 w6 vF kD;have VD:=H9 (Lc.o FX cap6 w6 vF kD);clear vF kD)
      go_roundw
      case rel=>exact⟨i+1,m+n5,FX,cap6,by omega,by go_num,rfl,by rw[pQ.o,HFr.o];show _=(G.out++G'.out).length;rw[List.length_append,HM.o,SS.o],by rw[pQ.o,HFr.o];exact VD.o⟩
      case measure=>simp[intOf];omega
    . obtain rfl:i=es.length:=by omega
      rw[List.take_length] at hm hR;obtain⟨iX,hG9,kZ⟩:=hR.done;have HFin:Hid (J7 S w g gs c k (Gt.feed Tu.aO s (c k) l) 0 (.returned (.tuple #[.slice ao m cap,.int .i64 0])) wr):=by
       rw[oV.o];exact⟨⟨ao,cap,m,rfl,hm,iX⟩,hG9,kZ⟩
      clear hm hR iX hG9 kZ;go_wp2;go_ret2;exact HFin.o
end
section
variable {w0 w:World} {S:Nat->Prop} {g gs:Nat} {s:Sr.Sh} {c:Nat->Gt.Cn}
theorem uO (h:cZ w S g gs s c)(k:Nat)(hk:k<4):
 Calls prog 20 #[.pointer (some ⟨g,0,none⟩),.int .i64 (k:Int)] w fun e w'=>e=.returned (.bool (Rq.busy (c k).rq))∧w'=w:=by
 have HI:=H9 (fun W=>nC (k:Int) W);rw[show(decide ((0:Int)<=(k:Int))&&decide ((k:Int)<4))=true from by simp;omega] at HI;obtain⟨κ,x,hH,hS⟩:=h;have cg:w.cell? ⟨g,1+k*7,none⟩=some (.pointer (some ⟨(x k).gp,0,none⟩)):=(hH .row).1.at_ hk (j:=0) (by decide) rfl;have HB:=H9 (QG w (fun i=>κ i=.rq k) (x k).gp (c k).rq (hH (.rq k) hk));have k0:(0:Int)<=(k:Int):=by omega
 have k4:(k:Int)<4:=by omega
 clear hH hS;generalize Rq.busy (c k).rq=bb at *;go_enter func20,ntmps20;go_wp2_with fail
 refine(HI.o _).mono ?_;rintro e w1 ⟨rfl,hw⟩;rw[hw];clear hw;go_wp2_with fail
 refine HB.o.mono ?_;rintro e w1 ⟨rfl,hw⟩;rw[hw];clear hw;go_wp2;go_ret;exact⟨rfl,rfl⟩
def SX (gp:Nat):KS:=⟨gp,none,0,none,0⟩
structure zB (S:Nat->Prop)(w:World)(g gs:Nat)(s:Sr.Sh)(n:Nat)(wr:World):Prop where
 at_:∃κ v x,Held (zM g gs s v n (fun _=>Gt.mV) x Wi Ej) κ wr∧(∀k,k<n->v k=RG Gt.mV (x k))∧∀i,κ i≠.out->av S w i
 turns:Turns S w wr
theorem dS.V6 {v:Nat->List Value}(h:dS w g gs v){k:Nat}(hk:k<4)(y0 y1 y2 y3 y4 y5 y6:Value):
 dS (((((((w.setCell ⟨g,1+k*7,none⟩ y0).setCell ⟨g,1+k*7+1,none⟩ y1).setCell ⟨g,1+k*7+2,none⟩ y2).setCell ⟨g,1+k*7+3,none⟩ y3).setCell ⟨g,1+k*7+4,none⟩ y4).setCell ⟨g,1+k*7+5,none⟩ y5).setCell ⟨g,1+k*7+6,none⟩ y6) g gs (upd v k [y0,y1,y2,y3,y4,y5,y6])∧Turns (fun i=>i=g) w (((((((w.setCell ⟨g,1+k*7,none⟩ y0).setCell ⟨g,1+k*7+1,none⟩ y1).setCell ⟨g,1+k*7+2,none⟩ y2).setCell ⟨g,1+k*7+3,none⟩ y3).setCell ⟨g,1+k*7+4,none⟩ y4).setCell ⟨g,1+k*7+5,none⟩ y5).setCell ⟨g,1+k*7+6,none⟩ y6):=by
 refine⟨?_,aM g [y0,y1,y2,y3,y4,y5,y6] (1+k*7) w⟩;have:=((((((h.set hk (j:=0) (by decide) y0).set hk (j:=1) (by decide) y1).set hk (j:=2) (by decide) y2).set hk (j:=3) (by decide) y3).set hk (j:=4) (by decide) y4).set hk (j:=5) (by decide) y5).set hk (j:=6) (by decide) y6;obtain⟨a0,a1,a2,a3,a4,a5,a6,hv⟩:=Go.Proofs.YtjmndjmhjleabaaGreatDoor.seven (h.seven k hk);simp only[jT,aY,hv] at this;exact this
theorem zB.step {n gp:Nat}{wr w1:World}(h:zB S w g gs s n wr)(hR:bZ w1 (fun k=>wr.heap.size<=k) gp Rq.start)(hb:Below wr.heap.size wr w1):∃v,dS w1 g gs v∧∀wf,dS wf g gs (upd v n (RG Gt.mV (SX gp)))->Turns (fun i=>i=g) w1 wf->zB S w g gs s (n+1) wf:=by
 obtain⟨⟨κ,v,x,hH,hv,hS⟩,hT⟩:=h;have hlt:=(hH .row).1.lt;have hz:=hT.size;refine⟨v,⟨(hb.block g hlt).trans (hH .row).1.row,(hH .row).1.seven⟩,fun wf hrf WR=>?_⟩;have key:∀d,d≠.row->zM g gs s v n (fun _=>Gt.mV) x Wi Ej d wf (fun i=>bE κ wr.heap.size (.rq n) i=d):=fun d hd=>by
  have L:fI (zM g gs s v n (fun _=>Gt.mV) x Wi Ej d):=iV (fun _=>fI.gV) fI.gV d;have h1:=L.mono (hH d) (S':=fun i=>κ i=d∧i<wr.heap.size) (fun i hi e=>⟨e,hi⟩);have h2:=L.turns (L.turns h1 (Turns.of_below (S:=fun _=>False) hb) (fun _ _ e=>e)) WR (fun i e e2=>hd (by rw[<-e.1,e2];exact(hH .row).2));exact L.mono h2 (fun i _ e=>(bD e.2).trans e.1)
 refine⟨⟨bE κ wr.heap.size (.rq n),upd v n (RG Gt.mV (SX gp)),upd x n (SX gp),fun d=>?_,fun j hj=>?_,fun i hi=>?_⟩,(hT.trans (Turns.of_below (S:=fun _=>False) hb) (fun _ e _=>e.elim)).trans WR (fun i e hi=>?_)⟩
 . cases d with
   | row=>exact⟨hrf,(bD hlt).trans (hH .row).2⟩
   | dn=>exact key .dn (by intro h;cases h)
   | rq j =>
     intro hj;by_cases e:j=n
     . subst e;rw[aY];exact(hR.turns WR (fun i e e2=>by omega)).mono (fun i _ e=>j4 e)
     . rw[upd_ne _ _ e];exact key (.rq j) (by intro h;cases h) (by omega)
   | fl j =>
     refine⟨fun hj=>?_,trivial⟩;by_cases e:j=n
     . subst e;rw[aY];exact iJ.nil _ _
     . rw[upd_ne _ _ e];exact(key (.fl j) (by intro h;cases h)).1 (by omega)
   | bd j =>
     intro hj;by_cases e:j=n
     . subst e;rw[aY];exact aF.nil _ _ _
     . rw[upd_ne _ _ e];exact key (.bd j) (by intro h;cases h) (by omega)
   | ret=>trivial
   | out=>trivial
 . by_cases e:j=n
   . subst e;rw[aY,aY]
   . rw[upd_ne _ _ e,upd_ne _ _ e];exact hv j (by omega)
 . rcases Nat.lt_or_ge i wr.heap.size with hl | hl
   . rw[bD hl] at hi;exact hS i hi
   . exact Or.inr (by omega)
 . rcases hS i (by rw[e,(hH .row).2];intro h;cases h) with h | h
   . exact h
   . omega
theorem zB.done {wr:World}(h:zB S w g gs s 4 wr):cZ wr (av S w) g gs s (fun _=>Gt.mV)∧Turns S w wr:=by
 obtain⟨⟨κ,v,x,hH,hv,hS⟩,hT⟩:=h;refine⟨⟨κ,x,fun d=>?_,hS⟩,hT⟩;have hd:=hH d;cases d with
 | row =>
   refine⟨⟨?_,fun k hk=>rfl⟩,hd.2⟩;have:=hd.1.row;unfold Jz at this ⊢;rw[hv 0 (by omega),hv 1 (by omega),hv 2 (by omega),hv 3 (by omega)] at this;exact this
 | dn=>exact hd
 | rq j=>exact hd
 | fl j=>exact hd
 | bd j=>exact hd
 | ret=>trivial
 | out=>trivial
theorem I5 (h:zB S w g gs s 0 w):
 Calls prog 24 #[.pointer (some ⟨g,0,none⟩)] w fun e w'=>e=.returned (.tuple #[])∧cZ w' (av S w) g gs s (fun _=>Gt.mV)∧Turns S w w':=by
 have YF:=H9 (fun W=>vI W);have HR:=H9 h;clear h;go_enter func24,ntmps24;go_wp2;go_loopw [3] (fun vi wr=>∃i:Nat,i<=4∧vi=.int .i64 i∧zB S w g gs s i wr) (fun vi _=>4-(intOf vi).toNat)
 case atStart=>exact⟨0,Nat.zero_le _,rfl,HR.o⟩
 case round =>
  obtain⟨i,hi,rfl,hG⟩:=hrel;have HG:=H9 hG;clear hG;by_cases hlt:i<4
  . have hlt':(i:Int)<4:=by omega
    have hi0:(0:Int)<=(i:Int):=by omega
    have QX:Hid (zB S w g gs s i wr.drew):=by
     obtain⟨⟨κ,v,x,hH,hv,hS⟩,hT⟩:=HG.o;exact⟨⟨κ,v,x,hH.stay (iV (fun _=>fI.gV) fI.gV) (aA _ _),hv,hS⟩,hT.trans (Turns.drewN (fun _=>False) wr 1) (fun _ e _=>e.elim)⟩
    go_upto_region 3 with fail
    go_region_law ((go_simp;go_at_call 28;refine(YF.o _).mono ?_;rintro e w1 ⟨gp,rfl,mH,hb1⟩;obtain⟨v,hr1,hst⟩:=QX.o.step mH hb1;obtain⟨a0,a1,a2,a3,a4,a5,a6,hv⟩:=Go.Proofs.YtjmndjmhjleabaaGreatDoor.seven (hr1.seven i hlt);have c0:w1.cell? ⟨g,1+i*7,none⟩=some a0:=hr1.at_ hlt (j:=0) (by decide) (by rw[hv];rfl);have c1:=hr1.at_ hlt (j:=1) (by decide) (u:=a1) (by rw[hv];rfl);have c2:=hr1.at_ hlt (j:=2) (by decide) (u:=a2) (by rw[hv];rfl);have c3:=hr1.at_ hlt (j:=3) (by decide) (u:=a3) (by rw[hv];rfl);have c4:=hr1.at_ hlt (j:=4) (by decide) (u:=a4) (by rw[hv];rfl);have c5:=hr1.at_ hlt (j:=5) (by decide) (u:=a5) (by rw[hv];rfl);have c6:=hr1.at_ hlt (j:=6) (by decide) (u:=a6) (by rw[hv];rfl);have fz:=fun j=>hr1.fz j;have sZ:=H9 (hst _ (hr1.V6 hlt (.pointer (some ⟨gp,0,none⟩)) (.string ⟨#[]⟩) (.string ⟨#[]⟩) (.int .i64 0) (.slice none 0 0) (.int .i64 0) (.slice none 0 0)).1 (hr1.V6 hlt (.pointer (some ⟨gp,0,none⟩)) (.string ⟨#[]⟩) (.string ⟨#[]⟩) (.int .i64 0) (.slice none 0 0) (.int .i64 0) (.slice none 0 0)).2);clear mH hb1 hst hv))
    all_goals
     go_wp2;go_roundw
     case rel=>exact⟨i+1,by omega,by go_num,sZ.o⟩
     case measure=>simp[intOf];omega
  . obtain rfl:i=4:=by omega
    have HDn:=H9 HG.o.done;go_wp2;go_end0
    exact⟨rfl,HDn.o⟩
end
section
variable {w0 w:World} {S:Nat->Prop} {g gs:Nat} {s:Sr.Sh} {c:Nat->Gt.Cn}
def FJ:List Value:=[.pointer none,.string ⟨#[]⟩,.string ⟨#[]⟩,.int .i64 0,.slice none 0 0,.int .i64 0,.slice none 0 0]
theorem zB.begin_ (h:aN w S gs s):zB (fun k=>(S k∧k<w.heap.size)∨k=w.heap.size) (w.alloc (.cells (Jz gs (fun _=>FJ)).toArray 80)) w.heap.size gs s 0 (w.alloc (.cells (Jz gs (fun _=>FJ)).toArray 80)):=by
 have hb:=(Below.refl _ w).alloc (Nat.le_refl _) (.cells (Jz gs (fun _=>FJ)).toArray 80);classical
 refine⟨⟨fun k=>if k=w.heap.size then .row else if S k∧k<w.heap.size then .dn else .out,fun _=>FJ,fun _=>SX 0,fun d=>?_,fun k hk=>absurd hk (Nat.not_lt_zero k),fun k hk=>?_⟩,Turns.refl _ _⟩
 . cases d with
   | row=>exact⟨⟨heap_alloc_new w _,fun _ _=>rfl⟩,if_pos rfl⟩
   | dn=>exact aN.mono ((aN.mono h (S':=fun k=>S k∧k<w.heap.size) (fun k hk e=>⟨e,hk⟩)).stay hb) (fun k _ e=>by
    show(if k=w.heap.size then yh.row else if S k∧k<w.heap.size then .dn else .out)=.dn;rw[if_neg (by have:=e.2;omega),if_pos e])
   | rq j=>exact fun hj=>absurd hj (Nat.not_lt_zero j)
   | fl j=>exact⟨fun hj=>absurd hj (Nat.not_lt_zero j),trivial⟩
   | bd j=>exact fun hj=>absurd hj (Nat.not_lt_zero j)
   | ret=>trivial
   | out=>trivial
 . simp only at hk;by_cases h1:k=w.heap.size
   . exact Or.inl (Or.inr h1)
   . rw[if_neg h1] at hk;by_cases h2:S k∧k<w.heap.size
     . exact Or.inl (Or.inl h2)
     . rw[if_neg h2] at hk;exact absurd rfl hk
theorem zC (h:aN w S gs s):
 Calls prog 9 #[.pointer (some ⟨gs,0,none⟩)] w fun e w'=>e=.returned (.pointer (some ⟨w.heap.size,0,none⟩))∧cZ w' (av S w) w.heap.size gs s (fun _=>Gt.mV)∧Turns S w w':=by
 have HR:=H9 (I5 (zB.begin_ h));have hb:=(Below.refl _ w).alloc (Nat.le_refl _) (.cells (Jz gs (fun _=>FJ)).toArray 80);have HB:=H9 hb;clear hb h;go_enter func9,ntmps9;go_wp2_with fail
 refine HR.o.mono ?_;rintro e w1 ⟨rfl,hG,hT⟩;have HFin:Hid (cZ w1 (av S w) w.heap.size gs s (fun _=>Gt.mV)∧Turns S w w1):=by
  have hz:=HB.o.size;refine⟨hG.mono (fun k _ e=>?_),(Turns.of_below HB.o).trans hT (fun k e hk=>?_)⟩
  . rcases e with (e | e) | e
    . exact Or.inl e.1
    . exact Or.inr (by omega)
    . exact Or.inr (by omega)
  . rcases e with e | e
    . exact e.1
    . omega
 clear hG hT;go_wp2;go_ret;exact⟨rfl,HFin.o⟩
theorem I6 (h:cZ w S g gs s c)(k:Nat)(hk:k<4)(hb0:(c k).body=[])(ht:(c k).hd.target.length<=100000):
 Calls prog 11 #[.pointer (some ⟨g,0,none⟩),.int .i64 (k:Int)] w fun e w'=>e=.returned (.int .i64 0)∧Turns S w w':=by
 have HI:=H9 (fun W=>nC (k:Int) W);rw[show(decide ((0:Int)<=(k:Int))&&decide ((k:Int)<4))=true from by simp;omega] at HI;obtain⟨κ,x,hH,hS⟩:=h;have hg:=(hH .row).1;have HSg:Hid (S g):=hS g (by rw[(hH .row).2];intro h;cases h);have wO:=H9 (uy hg hk (rfl:yg c x k=[.pointer (some ⟨(x k).gp,0,none⟩),.string ⟨(c k).hd.method.toArray⟩,.string ⟨(c k).hd.target.toArray⟩,.int .i64 ((c k).hd.minor:Int),.slice (x k).fo (c k).hd.fields.length (x k).ak,.int .i64 (c k).hd.length,.slice (x k).bo (c k).body.length (x k).aj]));rw[hb0] at wO;simp only[List.length_nil] at wO;have YF:=H9 (fun W=>vI W);have HIp:=H9 (fun W=>EF ⟨(c k).hd.method.toArray⟩ ⟨(c k).hd.target.toArray⟩ ((c k).hd.minor:Int) (c k).hd.length (x k).fo (x k).bo (c k).hd.fields.length (x k).ak 0 (x k).aj W (by show(c k).hd.target.toArray.size<=_;rw[List.size_toArray];exact ht));have k0:(0:Int)<=(k:Int):=by omega
 have k4:(k:Int)<4:=by omega
 clear hH hS hg hb0;generalize (decide ((⟨(c k).hd.method.toArray⟩:ByteArray)=Gt.Gj)&&Gt.BL ⟨(c k).hd.target.toArray⟩)=bp at *;go_enter func11,ntmps11;go_wp2_with fail
 refine(HI.o _).mono ?_;rintro e w1 ⟨rfl,hw⟩;rw[hw];clear hw;go_wp2_with fail
 refine wO.o.mono ?_;rintro e w2 ⟨rfl,hr2,dx⟩;have hbx:=(Below.refl _ w2).alloc (Nat.le_refl _) (.cells #[.string ⟨(c k).hd.method.toArray⟩,.string ⟨(c k).hd.target.toArray⟩,.int .i64 ((c k).hd.minor:Int),.slice (x k).fo (c k).hd.fields.length (x k).ak,.int .i64 (c k).hd.length,.slice (x k).bo 0 (x k).aj] 75);have hrow2:=heap_alloc_new w2 (.cells #[.string ⟨(c k).hd.method.toArray⟩,.string ⟨(c k).hd.target.toArray⟩,.int .i64 ((c k).hd.minor:Int),.slice (x k).fo (c k).hd.fields.length (x k).ak,.int .i64 (c k).hd.length,.slice (x k).bo 0 (x k).aj] 75);have HR3:Hid (∀W,Below (w2.alloc (.cells #[.string ⟨(c k).hd.method.toArray⟩,.string ⟨(c k).hd.target.toArray⟩,.int .i64 ((c k).hd.minor:Int),.slice (x k).fo (c k).hd.fields.length (x k).ak,.int .i64 (c k).hd.length,.slice (x k).bo 0 (x k).aj] 75)).heap.size (w2.alloc (.cells #[.string ⟨(c k).hd.method.toArray⟩,.string ⟨(c k).hd.target.toArray⟩,.int .i64 ((c k).hd.minor:Int),.slice (x k).fo (c k).hd.fields.length (x k).ak,.int .i64 (c k).hd.length,.slice (x k).bo 0 (x k).aj] 75)) W->dS W g gs _):=fun W hW=>⟨(hW.block g (Nat.lt_of_lt_of_le hr2.lt hbx.size)).trans ((hbx.block g hr2.lt).trans hr2.row),hr2.seven⟩;have Y3:Hid (∀W wf,Below (w2.alloc (.cells #[.string ⟨(c k).hd.method.toArray⟩,.string ⟨(c k).hd.target.toArray⟩,.int .i64 ((c k).hd.minor:Int),.slice (x k).fo (c k).hd.fields.length (x k).ak,.int .i64 (c k).hd.length,.slice (x k).bo 0 (x k).aj] 75)).heap.size (w2.alloc (.cells #[.string ⟨(c k).hd.method.toArray⟩,.string ⟨(c k).hd.target.toArray⟩,.int .i64 ((c k).hd.minor:Int),.slice (x k).fo (c k).hd.fields.length (x k).ak,.int .i64 (c k).hd.length,.slice (x k).bo 0 (x k).aj] 75)) W->Turns (fun i=>i=g) W wf->wf.heap[w2.heap.size]? = some (.cells #[.string ⟨(c k).hd.method.toArray⟩,.string ⟨(c k).hd.target.toArray⟩,.int .i64 ((c k).hd.minor:Int),.slice (x k).fo (c k).hd.fields.length (x k).ak,.int .i64 (c k).hd.length,.slice (x k).bo 0 (x k).aj] 75 (0,0))∧Turns S w wf):=fun W wf hW WR=>by
  have hlt:=hr2.lt;refine⟨WR.row ((hW.block w2.heap.size (by rw[World.size_alloc];omega)).trans hrow2) (by omega),((dx.mono (fun i e=>by rw[e];exact HSg.o)).trans (Turns.of_below (S:=fun _=>False) (then_ hbx hW)) (fun _ e _=>e.elim)).trans WR (fun i e _=>by rw[e];exact HSg.o)⟩
 clear hr2 dx hbx hrow2 wO HI;go_upto_region 4 with fail
 generalize (w2.alloc (.cells #[.string ⟨(c k).hd.method.toArray⟩,.string ⟨(c k).hd.target.toArray⟩,.int .i64 ((c k).hd.minor:Int),.slice (x k).fo (c k).hd.fields.length (x k).ak,.int .i64 (c k).hd.length,.slice (x k).bo 0 (x k).aj] 75))=W2 at *;go_cut [] (fun wd=>wd.heap[w2.heap.size]? = some (.cells #[.string ⟨(c k).hd.method.toArray⟩,.string ⟨(c k).hd.target.toArray⟩,.int .i64 ((c k).hd.minor:Int),.slice (x k).fo (c k).hd.fields.length (x k).ak,.int .i64 (c k).hd.length,.slice (x k).bo 0 (x k).aj] 75 (0,0))∧Turns S w wd)
 case first =>
  go_region_law ((go_simp;go_at_call 28;refine(YF.o _).mono ?_;rintro e w3 ⟨gp,rfl,XM,hb3⟩;have hbw:Below W2.heap.size W2 w3:=then_ (aA _ _) hb3;have hr1:=HR3.o w3 hbw;obtain⟨a0,a1,a2,a3,a4,a5,a6,hv⟩:=Go.Proofs.YtjmndjmhjleabaaGreatDoor.seven (hr1.seven k hk);have c0:w3.cell? ⟨g,1+k*7,none⟩=some a0:=hr1.at_ hk (j:=0) (by decide) (by rw[hv];rfl);have c1:=hr1.at_ hk (j:=1) (by decide) (u:=a1) (by rw[hv];rfl);have c2:=hr1.at_ hk (j:=2) (by decide) (u:=a2) (by rw[hv];rfl);have c3:=hr1.at_ hk (j:=3) (by decide) (u:=a3) (by rw[hv];rfl);have c4:=hr1.at_ hk (j:=4) (by decide) (u:=a4) (by rw[hv];rfl);have c5:=hr1.at_ hk (j:=5) (by decide) (u:=a5) (by rw[hv];rfl);have c6:=hr1.at_ hk (j:=6) (by decide) (u:=a6) (by rw[hv];rfl);have fz:=fun j=>hr1.fz j;have sZ:=H9 (Y3.o w3 _ hbw (hr1.V6 hk (.pointer (some ⟨gp,0,none⟩)) (.string ⟨#[]⟩) (.string ⟨#[]⟩) (.int .i64 0) (.slice none 0 0) (.int .i64 0) (.slice none 0 0)).2);clear XM hb3 hv hbw hr1))
  all_goals
   go_wp2;go_meet;exact sZ.o
 case rest =>
  obtain⟨hrw,hTw⟩:=hcut;have b0:wc.cell? ⟨w2.heap.size,0,none⟩=some (.string ⟨(c k).hd.method.toArray⟩):=cell_of_row wc _ 0 _ _ _ hrw;have b1:wc.cell? ⟨w2.heap.size,1,none⟩=some (.string ⟨(c k).hd.target.toArray⟩):=cell_of_row wc _ 1 _ _ _ hrw;have b2:wc.cell? ⟨w2.heap.size,2,none⟩=some (.int .i64 ((c k).hd.minor:Int)):=cell_of_row wc _ 2 _ _ _ hrw;have b3:wc.cell? ⟨w2.heap.size,3,none⟩=some (.slice (x k).fo (c k).hd.fields.length (x k).ak):=cell_of_row wc _ 3 _ _ _ hrw;have b4:wc.cell? ⟨w2.heap.size,4,none⟩=some (.int .i64 (c k).hd.length):=cell_of_row wc _ 4 _ _ _ hrw;have b5:wc.cell? ⟨w2.heap.size,5,none⟩=some (.slice (x k).bo 0 (x k).aj):=cell_of_row wc _ 5 _ _ _ hrw;have HTw:=H9 hTw;have aa4:=(Array.getElem?_eq_some_iff.1 hrw).1;have HRw:=H9 hrw
  clear hrw hTw;go_wp2_with fail
  refine(HIp.o _).mono ?_;rintro e w5 ⟨rfl,hb5⟩;have PW:Hid (Turns S w w5):=HTw.o.trans (Turns.of_below (S:=fun _=>False) hb5) (fun _ e _=>e.elim);have b6:w5.cell? ⟨w2.heap.size,5,none⟩=some (.slice (x k).bo 0 (x k).aj):=(hb5.cell (p:=⟨w2.heap.size,5,none⟩) aa4).trans b5;clear hb5;cases bp
  . go_wp2;go_ret;exact⟨rfl,PW.o⟩
  . go_wp2;go_ret;exact⟨rfl,PW.o⟩
end
end Go.Proofs.YtjmndjmhjleabaaGreatDoor