/- Small texts, one behind the other: MemK, TuNu, RfWord, FsB, PtA, PtB, TwoBl. -/
import Derived.Test.YtjmndjmhjleabaaGreatDoorAl
import Derived.Test.YtjmndjmhjleabaaGreatDoorAm
import Derived.Test.YtjmndjmhjleabaaGreatDoorPk14
import Derived.Test.YtjmndjmhjleabaaGreatDoorBase
import Derived.Test.YtjmndjmhjleabaaGreatDoorPk12
import Derived.Test.YtjmndjmhjleabaaGreatDoorPk17
import Derived.Test.YtjmndjmhjleabaaGreatDoorPk5
import Derived.Test.YtjmndjmhjleabaaGreatDoorPk4
import Derived.Test.YtjmndjmhjleabaaGreatDoorProg
import Derived.Test.YtjmndjmhjleabaaGreatDoorPk16
import Derived.Test.YtjmndjmhjleabaaGreatDoorPk10
import Derived.Test.YtjmndjmhjleabaaGreatDoorPk11
open Go.Proofs.Tryz
namespace Go.Proofs.YtjmndjmhjleabaaGreatDoor
open Go.RowKit
structure jJ (w:World)(cs:Array Value)(t:Nat)(W:World):Prop where
 one:W.heap[w.heap.size]? = some (.cells cs t (0,0))
 below:aj w W
section
variable {w W W':World} {cs:Array Value} {t:Nat}
theorem jJ.stay (h:jJ w cs t W)(hb:aj W W'):jJ w cs t W':=⟨(hb.block _ (aL.1 h.one).1).trans h.one,then_ h.below hb⟩
theorem jJ.turns {S:Nat->Prop}(h:jJ w cs t W)(ht:Turns S W W')(hs:∀k,S k->w.heap.size<k):jJ w cs t W':=⟨ht.row h.one (fun e=>by have:=hs _ e;omega),h.below.trans (ht.below (fun k e=>by have:=hs k e;omega) h.below.size)⟩
theorem jJ.made (w:World)(cs:Array Value)(t:Nat):jJ w cs t (w.alloc (.cells cs t)):=⟨fI w _,(fJ _ _).alloc (aM _) _⟩
theorem jJ.cell (h:jJ w cs t W)(j:Nat):W.cell? ⟨w.heap.size,j,none⟩=cs[j]?:=fK W w.heap.size j _ _ _ h.one
theorem jJ.fz (h:jJ w cs t W)(j:Nat):W.frozen? ⟨w.heap.size,j,none⟩=false:=fM W w.heap.size j _ _ h.one
theorem jJ.put (h:jJ w cs t W)(j:Nat)(v:Value):jJ w (cs.setIfInBounds j v) t (W.setCell ⟨w.heap.size,j,none⟩ v):=by
 have hT:Turns (fun k=>k=w.heap.size) W (W.setCell ⟨w.heap.size,j,none⟩ v):=ig w.heap.size [v] j W;exact⟨by rw[fO W w.heap.size j _ _ _ h.one],h.below.trans (hT.below (fun k e=>by omega) h.below.size)⟩
theorem jJ.lt (h:jJ w cs t W):w.heap.size<W.heap.size:=(aL.1 h.one).1
end
theorem Tu.QB (n:ay)(l:au):Fd.vals n l=Tu.vals n l:=rfl
theorem Tu.Wp (vs:List ay):Fd.one vs=Tu.one vs:=by
 rcases vs with _ | ⟨v,_ | ⟨v2,t⟩⟩ <;> rfl
theorem Tu.Wq (l:au)(n:ay)(B:Nat)(h:∀p∈l,p.2.size<=B):(Tu.one (Tu.vals n l)).1.length<=B:=by
 have hv:∀v∈Tu.vals n l,v.size<=B:=fun v hv=>by
  unfold Tu.vals at hv;obtain⟨p,hp,rfl⟩:=aN.1 hv;exact h p (List.mem_filter.1 hp).1
 unfold Tu.one;split
 . simp
 . rename_i v hq;have:=hv v (by rw[hq];simp);rw[aO];exact this
 . simp
theorem Buf.set {w:World}{base g cap:Nat}{l:av}(h:Buf w base g cap l)(j:Nat)(c:UInt8):Buf (w.setCell ⟨g,j,none⟩ (.int .u8 (c.toNat:Int))) base g cap (l.set j c)∧Turns (fun k=>k=g) w (w.setCell ⟨g,j,none⟩ (.int .u8 (c.toNat:Int))):=by
 refine⟨⟨h.Ie,by simpa using h.lt,by rw[aP];exact h.le,h.max,fun i u hu=>?_,fun i hi=>?_⟩,Turns.setCell (fun k=>k=g) w ⟨g,j,none⟩ _ rfl⟩
 . have hil:i<l.length:=by
    have:=(aQ.1 hu).1;rwa[iq,aP] at this
   rw[lS _ i (by rw[aP];exact hil)] at hu;by_cases e:i=j
   . subst e;have hs:=h.holds i _ (lS l i hil);rw[fP w _ _ hs,<-hu,List.getElem_set_self]
   . rw[fQ (h:=by intro e2;injection e2 with _ e2;exact e e2.symm),<-hu];rw[List.getElem_set_ne (fun e2=>e e2.symm)];exact h.holds i _ (lS l i hil)
 . obtain⟨h1,h2⟩:=h.there i hi;refine⟨?_,by rw[World.frozen?_setCell];exact h2⟩;by_cases e:i=j
   . subst e;obtain⟨v,hv⟩:=Option.isSome_iff_exists.1 h1;rw[fP w _ _ hv];rfl
   . rw[fQ (h:=by intro e2;injection e2 with _ e2;exact e e2.symm)];exact h1
theorem SI {l:av}{a b:Int}(ha:Bb 47 l a)(hb:Bb 92 l b):-1<=max a b∧max a b<l.length∧l.drop (max a b+1).toNat=Fm.tail l:=by
 have hs:∀c:UInt8,Fm.stroke c=false<->c≠47∧c≠92:=fun c=>by
  unfold Fm.stroke;rw[aR,aS,aS]
 have ht:∀c:UInt8,(c=47∨c=92)->Fm.stroke c=true:=fun c h=>by
  unfold Fm.stroke;rw[Bool.or_eq_true,aT,aT];exact h
 rcases ha with ⟨ha,na⟩ | ⟨i,hi,ha,ca,na⟩
 . rcases hb with ⟨hb,nb⟩ | ⟨k,hk,hb,cb,nb⟩
   . have e:max a b=-1:=by omega
     rw[e];exact⟨by omega,by omega,(Fm.tail_at (p:=0) (aA _) (fun j hj _=>(hs _).2 ⟨na j hj,nb j hj⟩) (Or.inl rfl)).symm⟩
   . have e:max a b=k:=by omega
     rw[e];refine⟨by omega,by omega,?_⟩;rw[show((k:Int)+1).toNat=k+1 by omega];exact(Fm.tail_at (p:=k+1) hk (fun j hj h=>(hs _).2 ⟨na j hj,nb j hj h⟩) (Or.inr ⟨by simpa using hk,by omega,ht _ (Or.inr (by simpa using cb))⟩)).symm
 . rcases hb with ⟨hb,nb⟩ | ⟨k,hk,hb,cb,nb⟩
   . have e:max a b=i:=by omega
     rw[e];refine⟨by omega,by omega,?_⟩;rw[show((i:Int)+1).toNat=i+1 by omega];exact(Fm.tail_at (p:=i+1) hi (fun j hj h=>(hs _).2 ⟨na j hj h,nb j hj⟩) (Or.inr ⟨by simpa using hi,by omega,ht _ (Or.inl (by simpa using ca))⟩)).symm
   . rcases aU i k with h | h
     . have e:max a b=k:=by omega
       rw[e];refine⟨by omega,by omega,?_⟩;rw[show((k:Int)+1).toNat=k+1 by omega];exact(Fm.tail_at (p:=k+1) hk (fun j hj h2=>(hs _).2 ⟨na j hj (by omega),nb j hj h2⟩) (Or.inr ⟨by simpa using hk,by omega,ht _ (Or.inr (by simpa using cb))⟩)).symm
     . have e:max a b=i:=by omega
       rw[e];refine⟨by omega,by omega,?_⟩;rw[show((i:Int)+1).toNat=i+1 by omega];exact(Fm.tail_at (p:=i+1) hi (fun j hj h2=>(hs _).2 ⟨na j hj h2,nb j hj (by omega)⟩) (Or.inr ⟨by simpa using hi,by omega,ht _ (Or.inl (by simpa using ca))⟩)).symm
theorem SS:(prog.info? 70).map (fun i=>(i.zero,i.size,i.bytes))=some (some (.agg #[.string ⟨#[]⟩,.string ⟨#[]⟩,.string ⟨#[]⟩,.slice none 0 0]),4,72):=by kernel_rfl
structure UQ where
 bo:ak
 gK:Nat
def SV (p:Fm.Pt)(s:UQ):List Value:=[.string p.name,.string p.file,.string p.type,.slice s.bo p.bytes.length s.gK]
def uq (ps:List (Fm.Pt×UQ)):List Value:=ps.flatMap fun p=>SV p.1 p.2
theorem wQ (a b:List (Fm.Pt×UQ)):uq (a++b)=uq a++uq b:=by simp[uq]
theorem EH (p:Fm.Pt)(s:UQ):uq [(p,s)]=SV p s:=by simp[uq]
theorem qc (ps:List (Fm.Pt×UQ)):(uq ps).length=ps.length*4:=by
 induction ps with
 | nil=>rfl
 | cons p t ih =>
   have e:(SV p.1 p.2).length=4:=rfl;simp only[uq,aV,aW,aX] at ih ⊢;rw[ih,e];omega
theorem pE:∀(ps:List (Fm.Pt×UQ)) (i:Nat) (hi:i<ps.length) (j:Nat),j<4->(uq ps)[i*4+j]? = (SV ps[i].1 ps[i].2)[j]?
 | p :: t, 0, _, j, hj => by
   show(SV p.1 p.2++uq t)[0*4+j]? = _;rw[aY (by rw[show(SV p.1 p.2).length=4 from rfl];omega),aZ,bq];rfl
 | p :: t, i + 1, hi, j, hj => by
   show(SV p.1 p.2++uq t)[(i+1)*4+j]? = _;rw[bA (by rw[show(SV p.1 p.2).length=4 from rfl];omega),show(SV p.1 p.2).length=4 from rfl,show(i+1)*4+j-4=i*4+j by omega];exact pE t i (by simpa using hi) j hj
structure qd (w:World)(D:Nat->Prop)(ps:List Fm.Pt)(ao:ak)(cap n:Nat)(wr:World):Prop where
 own:∃qs:List (Fm.Pt×UQ),qs.map (·.1)=ps∧gV wr w.heap.size 70 4 ao cap n (uq qs)∧∀q∈qs,ko w D q.2.bo q.2.gK q.1.bytes
 len:n=ps.length
 below:aj w wr
theorem qd.start (w:World)(D:Nat->Prop):qd w D [] none 0 0 w:=⟨⟨[],rfl,gV.nil _ _ _ _,fun q hq=>(by cases hq)⟩,rfl,fJ _ _⟩
theorem qd.stay {D:Nat->Prop}{w wr w':World}{ps:List Fm.Pt}{ao:ak}{cap n:Nat}(h:qd w D ps ao cap n wr)(hb:aj wr w'):qd w D ps ao cap n w':=by
 obtain⟨qs,h1,h2,h3⟩:=h.own;exact⟨⟨qs,h1,h2.stay hb,h3⟩,h.len,then_ h.below hb⟩
theorem qd.push {D:Nat->Prop}{w W:World}{ps:List Fm.Pt}{ao:ak}{cap n:Nat}(h:qd w D ps ao cap n W):∃xs,gV W w.heap.size 70 4 ao cap n xs ∧
 ∀gW cap' w' (p:Fm.Pt) (s:UQ),ko w D s.bo s.gK p.bytes->gV w' w.heap.size 70 4 gW cap' (n+1) (xs++SV p s)->W.grownBy w' (gL ao)->qd w D (ps++[p]) gW cap' (n+1) w':=by
 obtain⟨qs,h1,h2,h3⟩:=h.own;refine⟨uq qs,h2,fun gW cap' w' p s hB hO hG=>⟨⟨qs++[(p,s)],by simp[h1],by rw[wQ,EH];exact hO,fun q hq=>?_⟩,by rw[aW,h.len];rfl,h.below.grown hG h.below.size (fun k e=>?_)⟩⟩
 . rcases bB.1 hq with hq | hq
   . exact h3 q hq
   . rw[bC.1 hq];exact hB
 . cases ao with
   | none=>cases e
   | some a=>injection e with e;subst e;exact(h2.block a rfl).1
theorem qd.bytes {D:Nat->Prop}{w wr:World}{qs:List Fm.Pt}{p:Fm.Pt}{ao:ak}{cap n:Nat}(h:qd w D (qs++[p]) ao cap (n+1) wr):∃g,ao=some ⟨g,0,none⟩∧(∃v,wr.cell? ⟨g,n*4+3,none⟩=some v)∧wr.frozen? ⟨g,n*4+3,none⟩=false∧n+1<=cap ∧
 ∀(l:av) (bo:ak) (bc m:Nat),ko w D bo bc l->m=l.length->qd w D (qs++[{ p with bytes:=l }]) ao cap (n+1) (wr.setCell ⟨g,n*4+3,none⟩ (.slice bo m bc)):=by
 obtain⟨rs,h1,h2,h3⟩:=h.own;have hn:n=qs.length:=by have:=h.len;rw[aW] at this;simpa using this
 obtain⟨rs',ps,rfl,hrs,hps⟩:∃rs' ps,rs=rs'++[ps]∧rs'.map (·.1)=qs∧ps.1=p:=by
  rcases bD rs with rfl | ⟨q,x,rfl⟩
  . have:=bE List.length h1;simp at this
  . rw[bF,bG] at h1;obtain⟨e1,e2⟩:=bH h1 rfl;exact⟨q,x,by rw[bF],e1,by simpa using e2⟩
 obtain⟨pp,ss⟩:=ps;have hps:pp=p:=hps;subst hps;have hl:rs'.length=n:=by have:=bE List.length hrs;rw[aF] at this;omega
 have hv:=h2.nQ;have hpos:0<(uq (rs'++[(pp,ss)])).length:=by rw[qc,aW];simp
 obtain⟨a,rfl⟩:∃a,ao=some a:=by
  cases ao with
  | none=>have:=h2.nQ.2.1 rfl;have:=h2.nQ.1;omega
  | some a=>exact⟨a,rfl⟩
 obtain⟨g,rfl⟩:∃g,a=⟨g,0,none⟩:=by
  rcases h2.2 with ⟨e,_⟩ | ⟨g,cap',cur,e,_⟩
  . injection e with e;cases e
  . injection e with e;injection e with e;exact⟨g,e⟩
 have hat:(uq (rs'++[(pp,ss)]))[n*4+3]? = some (.slice ss.bo pp.bytes.length ss.gK):=by
  rw[pE _ n (by rw[aW,hl];simp) 3 (by omega)];simp[<-hl,SV]
 refine⟨g,rfl,⟨_,(fT h2 (n*4+3) (by omega)).trans hat⟩,fU h2 _,h2.nQ.1,fun l bo bc m hB hm=>?_⟩;subst hm;have hS:=(fV h2 (n*4+3) (.slice bo l.length bc)).1;have e1:(uq (rs'++[(pp,ss)])).set (n*4+3) (.slice bo l.length bc)=uq (rs'++[({ pp with bytes:=l },⟨bo,bc⟩)]):=by
  rw[wQ,wQ,EH,EH,bI _ _ (by rw[qc,hl];omega),qc,hl,show n*4+3-n*4=3 by omega];rfl
 have hS2:gV (wr.setCell ⟨g,n*4+3,none⟩ (.slice bo l.length bc)) w.heap.size 70 4 (some ⟨g,0,none⟩) cap (n+1) (uq (rs'++[({ pp with bytes:=l },⟨bo,bc⟩)])):=by rw[<-e1];exact hS
 have hb:w.heap.size<=(⟨g,n*4+3,none⟩:Addr).block:=(h2.block _ rfl).1;refine⟨⟨rs'++[({ pp with bytes:=l },⟨bo,bc⟩)],by simp[hrs],hS2,fun q hq=>?_⟩,by rw[aW,hn];rfl,h.below.setCell hb _⟩;rcases bB.1 hq with hq | hq
 . exact h3 q (bJ _ hq)
 . rw[bC.1 hq];exact hB
def EI (w:World)(ao:ak)(cap:Nat)(ps:List Fm.Pt):Prop:=∃qs:List (Fm.Pt×UQ),qs.map (·.1)=ps∧jo w ao cap ps.length (uq qs)∧∀q∈qs,iH w q.2.bo q.2.gK q.1.bytes
theorem EI.stay {w w':World}{ao:ak}{cap:Nat}{ps:List Fm.Pt}(h:EI w ao cap ps)(hb:aj w w'):EI w' ao cap ps:=by
 obtain⟨qs,h1,h2,h3⟩:=h;exact⟨qs,h1,h2.stay hb,fun q hq=>(h3 q hq).stay hb⟩
theorem EI.at_ {w:World}{ao:ak}{cap:Nat}{ps:List Fm.Pt}(h:EI w ao cap ps)(k:Nat)(hk:k<ps.length):∃(b o:Nat) (s:UQ),ao=some ⟨b,o,none⟩∧w.cell? ⟨b,o+k*4,none⟩=some (.string ps[k].name)∧w.cell? ⟨b,o+k*4+1,none⟩=some (.string ps[k].file)∧w.cell? ⟨b,o+k*4+2,none⟩=some (.string ps[k].type)∧w.cell? ⟨b,o+k*4+3,none⟩=some (.slice s.bo ps[k].bytes.length s.gK)∧iH w s.bo s.gK ps[k].bytes:=by
 obtain⟨qs,rfl,hv,hb⟩:=h;have hk':k<qs.length:=by simpa using hk
 obtain⟨b,o,rfl,hc⟩:=hv.lit (by rw[qc];omega);have hq:=hb _ (aC hk');have e0:=pE qs k hk' 0 (by decide);have e1:=pE qs k hk' 1 (by decide);have e2:=pE qs k hk' 2 (by decide);have e3:=pE qs k hk' 3 (by decide);refine⟨b,o,qs[k].2,rfl,?_,?_,?_,?_,?_⟩
 . rw[aG];exact hc _ _ (by rw[bK] at e0;exact e0)
 . rw[aG,bL];exact hc _ _ e1
 . rw[aG,bL];exact hc _ _ e2
 . rw[aG,bL];exact hc _ _ e3
 . rw[aG];exact hq
structure lF (w:World)(r1 r2:Obj)(W:World):Prop where
 one:W.heap[w.heap.size]? = some r1
 two:W.heap[w.heap.size+1]? = some r2
 below:aj w W
theorem lF.stay {w W W':World}{r1 r2:Obj}(h:lF w r1 r2 W)(hb:aj W W'):lF w r1 r2 W' :=
 ⟨(hb.block _ (aL.1 h.one).1).trans h.one,(hb.block _ (aL.1 h.two).1).trans h.two,then_ h.below hb⟩
theorem lF.cell {w W:World}{cs:Array Value}{t:Nat}{r2:Obj}(h:lF w (.cells cs t (0,0)) r2 W)(j:Nat):W.cell? ⟨w.heap.size,j,none⟩=cs[j]?:=fK W w.heap.size j _ _ _ h.one
theorem lF.fz {w W:World}{cs:Array Value}{t:Nat}{r2:Obj}(h:lF w (.cells cs t (0,0)) r2 W)(j:Nat):W.frozen? ⟨w.heap.size,j,none⟩=false:=fM W w.heap.size j _ _ h.one
theorem lF.same {w W:World}{cs:Array Value}{t:Nat}{r2:Obj}(h:lF w (.cells cs t (0,0)) r2 W)(j:Nat)(v:Value)(hv:cs.setIfInBounds j v=cs):lF w (.cells cs t (0,0)) r2 (W.setCell ⟨w.heap.size,j,none⟩ v):=by
 have hT:Turns (fun k=>k=w.heap.size) W (W.setCell ⟨w.heap.size,j,none⟩ v):=ig w.heap.size [v] j W;refine⟨by rw[fO W w.heap.size j _ _ _ h.one,hv],hT.row h.two (by omega),h.below.trans (hT.below (fun k e=>by omega) h.below.size)⟩
theorem lF.yB {w W:World}{cs:Array Value}{t:Nat}{r1:Obj}(h:lF w r1 (.cells cs t (0,0)) W)(j:Nat):W.cell? ⟨w.heap.size+1,j,none⟩=cs[j]?:=fK W _ j _ _ _ h.two
theorem lF.fz2 {w W:World}{cs:Array Value}{t:Nat}{r1:Obj}(h:lF w r1 (.cells cs t (0,0)) W)(j:Nat):W.frozen? ⟨w.heap.size+1,j,none⟩=false:=fM W _ j _ _ h.two
theorem lF.ah2 {w W:World}{cs:Array Value}{t:Nat}{r2:Obj}(h:lF w (.cells cs t (0,0)) r2 W)(j:Nat)(v:Value):lF w (.cells (cs.setIfInBounds j v) t (0,0)) r2 (W.setCell ⟨w.heap.size,j,none⟩ v)∧Turns (fun k=>w.heap.size<=k∧k<w.heap.size+2) W (W.setCell ⟨w.heap.size,j,none⟩ v):=by
 have hT:Turns (fun k=>k=w.heap.size) W (W.setCell ⟨w.heap.size,j,none⟩ v):=ig w.heap.size [v] j W;exact⟨⟨by rw[fO W w.heap.size j _ _ _ h.one],hT.row h.two (by omega),h.below.trans (hT.below (fun k e=>by omega) h.below.size)⟩,Turns.setCell _ W _ _ ⟨aM _,by show w.heap.size<_;omega⟩⟩
theorem lF.WU {w W:World}{cs:Array Value}{t:Nat}{r1:Obj}(h:lF w r1 (.cells cs t (0,0)) W)(j:Nat)(v:Value):lF w r1 (.cells (cs.setIfInBounds j v) t (0,0)) (W.setCell ⟨w.heap.size+1,j,none⟩ v)∧Turns (fun k=>w.heap.size<=k∧k<w.heap.size+2) W (W.setCell ⟨w.heap.size+1,j,none⟩ v):=by
 have hT:Turns (fun k=>k=w.heap.size+1) W (W.setCell ⟨w.heap.size+1,j,none⟩ v):=ig (w.heap.size+1) [v] j W;exact⟨⟨hT.row h.one (by omega),by rw[fO W (w.heap.size+1) j _ _ _ h.two],h.below.trans (hT.below (fun k e=>by omega) h.below.size)⟩,Turns.setCell _ W _ _ ⟨by show w.heap.size<=w.heap.size+1;omega,by show w.heap.size+1<_;omega⟩⟩
theorem lF.made (w:World)(cs ds:Array Value)(t u:Nat):lF w (.cells cs t (0,0)) (.cells ds u (0,0)) ((w.alloc (.cells cs t)).alloc (.cells ds u)):=by
 have b1:aj w (w.alloc (.cells cs t)):=(fJ _ _).alloc (aM _) _;have b2:Below (w.alloc (.cells cs t)).heap.size (w.alloc (.cells cs t)) ((w.alloc (.cells cs t)).alloc (.cells ds u)):=(fJ _ _).alloc (aM _) _;refine⟨(b2.block w.heap.size (by simp)).trans (fI w _),?_,then_ b1 b2⟩;have:=fI (w.alloc (.cells cs t)) (.cells ds u);rw[fZ] at this;exact this
end Go.Proofs.YtjmndjmhjleabaaGreatDoor