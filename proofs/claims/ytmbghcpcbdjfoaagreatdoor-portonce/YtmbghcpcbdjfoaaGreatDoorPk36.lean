import Derived.Test.YtmbghcpcbdjfoaaGreatDoorPk33
import Derived.Deep.RegionHeldLaw
import Derived.Deep.DeepCutAuto
open Go.Value renaming int->I,string->V,slice->Z
open Go.IntKind renaming i64->J
open Go.Obj renaming cells->K
open Option renaming none->U,some->M
open Or renaming inl->A,inr->R
open Go renaming World->X
set_option maxHeartbeats 4000000
set_option maxRecDepth 100000
open Go.Proofs.Tryz
namespace Go.Proofs.YtmbghcpcbdjfoaaGreatDoor
open Go.RowKit
def kt (p:ag×ag):ae:=(bz p.1.data.toList p.2.data.toList).1++[13,10]
theorem GC:∀l:aC,(∀p∈l,(bz p.1.data.toList p.2.data.toList).2=0)->er (fN l)=.inr (l.flatMap kt)
 | [],_=>rfl
 | p :: r, h => by
   have a:=GC r (fun q b=>h q (iW _ b));show er ((p.1.data.toList,p.2.data.toList)::fN r)=_;rw[er,if_neg (fun e=>e (h p (mR ..))),a];simp[kt]
theorem GE:∀(l:aC) (i:Nat) (b:i<l.length),(∀p∈l.take i,(bz p.1.data.toList p.2.data.toList).2=0)->(bz l[i].1.data.toList l[i].2.data.toList).2≠0->er (fN l)=.inl (bz l[i].1.data.toList l[i].2.data.toList).2
 | p :: r, 0, _, _, hc => by
   show er ((p.1.data.toList,p.2.data.toList)::fN r)=_;have a:(bz p.1.data.toList p.2.data.toList).2≠0:=hc;rw[er,if_pos a];rfl
 | p :: r, i + 1, b, h, hc => by
   have c:=GE r i (by simpa using b) (fun q d=>h q (by rw[List.take_succ_cons];exact iW _ d)) hc;show er ((p.1.data.toList,p.2.data.toList)::fN r)=_;rw[er,if_neg (fun e=>e (h p (by rw[List.take_succ_cons];exact mR ..))),c];rfl
theorem GF (l:ae):jh l=false<->(l.head?≠M 47∨32∈l∨9∈l∨cF l=false):=by
 have a:nD l=true<->32∈l∨9∈l:=by
  unfold nD;rw[List.any_eq_true];constructor
  . rintro ⟨b,a,e⟩;simp at e;rcases e with e | e
    . exact A (e▸a)
    . exact R (e▸a)
  . rintro (h | h)
    . exact⟨32,h,rfl⟩
    . exact⟨9,h,rfl⟩
 unfold jh;rw[qu,qu,cz,Bool.not_eq_false',a];constructor
 . rintro (h | (h | h) | h)
   . exact A h
   . exact R (A h)
   . exact R (R (A h))
   . exact R (R (R h))
 . rintro (h | h | h | h)
   . exact A h
   . exact R (A (A h))
   . exact R (A (R h))
   . exact R (R h)
theorem GO (m t:ag)(l:aC)(body:ae)(f:Nat)(a:f=pe (cT m.data.toList) (jh t.data.toList) (m.data.toList.length+t.data.toList.length+10) body.length l.length (aE fg l).length (aE fh l).length (aE eQ l).length):
 (f ≠ 0 -> ic (pd m t l) body = ([], f)) ∧ (f = 0 -> body.length <= 4000 ∧ l.length <= 15 ∧ ic (pd m t l) body = match er (fN l) with
  | .inl c=>([],c)
  | .inr s=>(m.data.toList++32::(t.data.toList++32::(jO++13::10::(s++(ew++[58,32]++ba 8 body.length++13::10::13::10::body)))),0)):=by
 have ev:∀(b:ag),aU b.data.toList=b.data.toList->bU (fN l) b.data.toList=aZ (aE b l):=fun b r=>tf l b r;have u:bU (fN l) mJ=aZ (aE eQ l):=ev eQ (by decide);have w:bU (fN l) le=aZ (aE fg l):=ev fg (by decide);have x:bU (fN l) lg=aZ (aE fh l):=ev fh (by decide);have d:∀v:List ag,aZ v≠[]<->0<v.length:=fun v=>by
  have:(aZ v).length=v.length:=by simp[aZ]
  rw[<-this];exact List.length_pos_iff.symm
 have o:(fN l).length=l.length:=by simp[fN]
 unfold ic pd;simp only[u,w,x,o];unfold pe at a;by_cases g:cT m.data.toList=false
 . rw[if_pos g] at a;rw[if_pos g];subst a;exact⟨fun _=>rfl,fun e=>by omega⟩
 rw[if_neg g] at a;rw[if_neg g];by_cases i:jh t.data.toList=false
 . rw[if_pos i] at a;rw[if_pos ((GF _).1 i)];subst a;exact⟨fun _=>rfl,fun e=>by omega⟩
 rw[if_neg i] at a;rw[if_neg (fun e=>i ((GF _).2 e))];by_cases j:200<m.data.toList.length+t.data.toList.length+10∨4000<body.length
 . rw[if_pos j] at a;rw[if_pos j];subst a;exact⟨fun _=>rfl,fun e=>by omega⟩
 rw[if_neg j] at a;rw[if_neg j];by_cases q:15<l.length
 . rw[if_pos q] at a;rw[if_pos (by omega)];subst a;exact⟨fun _=>rfl,fun e=>by omega⟩
 rw[if_neg q] at a;rw[if_neg (by omega)];by_cases k:0<(aE fg l).length∨0<(aE fh l).length
 . rw[if_pos k] at a;rw[if_pos (by rcases k with h | h;exact A ((d _).2 h);exact R ((d _).2 h))];subst a;exact⟨fun _=>rfl,fun e=>by omega⟩
 rw[if_neg k] at a;rw[if_neg (fun e=>k (by rcases e with e | e;exact A ((d _).1 e);exact R ((d _).1 e)))];have p:(aZ (aE eQ l)).length=(aE eQ l).length:=by simp[aZ]
 rw[p];by_cases n:(aE eQ l).length≠1
 . rw[if_pos n] at a;rw[if_pos n];subst a;exact⟨fun _=>rfl,fun e=>by omega⟩
 rw[if_neg n] at a;rw[if_neg n];subst a;refine⟨fun e=>absurd rfl e,fun _=>⟨by omega,by omega,?_⟩⟩;cases er (fN l) <;> rfl
inductive B9 (w:X)(h:cf)(body:ae)(e:Ending)(w':X):Prop
 | bad (c:Nat) (hc:c≠0) (he:e=.returned (.tuple #[Z U 0 0,I J (c:Int)])) (ht:ic h body=([],c)) (hB:Below w.heap.size w w')
 | ok (g cap n:Nat) (he:e=.returned (.tuple #[Z (M ⟨g,0,U⟩) n cap,I J 0])) (hn:n=(ic h body).1.length) (ht:(ic h body).2=0) (hO:dZ w' w.heap.size g cap (ic h body).1) (hB:Below w.heap.size w w')
theorem No (w:X)(m t:ag)(mi ln:Int)(l:aC)(fo bo:ai)(gG nf gF nb:Nat)(body:ae)(B:bx w fo gG nf (aI l))(C:l.length=nf)(D:nf<=1000000)(G:∀p∈l,p.1.size<=2000∧p.2.size<=2000)(hm:m.size+t.size<=10000)(g:body.length=nb)
 (u:pe (cT m.data.toList) (jh t.data.toList) (m.data.toList.length+t.data.toList.length+10) nb nf (aE fg l).length (aE fh l).length (aE eQ l).length≠0) :
 Calls prog 150 #[.agg #[V m,V t,I J mi,Z fo nf gG,I J ln],Z bo nb gF] w fun e w'=>B9 w (pd m t l) body e w':=by
 subst C;subst g;have H:∀s:ag,s.data.toList.length=s.size:=fun s=>by rw[cy];rfl
 have L:=(GO m t l body _ rfl).1 u;have c:Below w.heap.size w (w.alloc (K #[V m,V t,I J mi,Z fo l.length gG,I J ln] 82)):=(aq _ _).alloc (ak _) _;have i:Below w.heap.size w ((w.alloc (K #[V m,V t,I J mi,Z fo l.length gG,I J ln] 82)).alloc (K #[V m,V t,V ⟨#[72,84,84,80,47,49,46,49]⟩] 9)):=c.trans ((aq _ _).alloc c.size _);have v:=Et m t ⟨#[72,84,84,80,47,49,46,49]⟩ (w.heap.size+1) ((w.alloc (K #[V m,V t,I J mi,Z fo l.length gG,I J ln] 82)).alloc (K #[V m,V t,V ⟨#[72,84,84,80,47,49,46,49]⟩] 9)) (by rw[World.cell?_alloc_at _ _ _ _ (by simp)];rfl) (by rw[World.cell?_alloc_at _ _ _ _ (by simp)];rfl) (by rw[World.cell?_alloc_at _ _ _ _ (by simp)];rfl) (by show m.size+t.size+8<=_;omega);have d:(⟨(m.data.toList++32::(t.data.toList++32::(⟨#[72,84,84,80,47,49,46,49]⟩:ag).data.toList)).toArray⟩:ag).size=m.data.toList.length+t.data.toList.length+10:=by
  show(m.data.toList++32::(t.data.toList++32::[72,84,84,80,47,49,46,49])).toArray.size=_;rw[cN];simp;omega
 generalize (⟨(m.data.toList++32::(t.data.toList++32::(⟨#[72,84,84,80,47,49,46,49]⟩:ag).data.toList)).toArray⟩:ag)=first at v d;have x:=fun W (b:Below w.heap.size w W)=>ES W m t first mi ln l fo bo gG l.length body.length gF (B.a b) rfl D G (by omega) (by omega);simp only[d] at x;have a:∀j,j<5->(w.alloc (K #[V m,V t,I J mi,Z fo l.length gG,I J ln] 82)).cell? ⟨w.heap.size,j,U⟩=(#[Value.string m,V t,I J mi,Z fo l.length gG,I J ln]:Array Value)[j]?:=fun j _=>World.cell?_alloc_mark w _ _ _ j;have N:∀W,Below (w.alloc (K #[V m,V t,I J mi,Z fo l.length gG,I J ln] 82)).heap.size (w.alloc (K #[V m,V t,I J mi,Z fo l.length gG,I J ln] 82)) W->W.cell? ⟨w.heap.size,0,U⟩=M (V m)∧W.cell? ⟨w.heap.size,1,U⟩=M (V t)∧W.cell? ⟨w.heap.size,2,U⟩=M (I J mi)∧W.cell? ⟨w.heap.size,3,U⟩=M (Z fo l.length gG)∧W.cell? ⟨w.heap.size,4,U⟩=M (I J ln):=fun W b =>
  ⟨(b.cell (p:=⟨w.heap.size,0,U⟩) (by simp)).trans (a 0 (by omega)),(b.cell (p:=⟨w.heap.size,1,U⟩) (by simp)).trans (a 1 (by omega)),(b.cell (p:=⟨w.heap.size,2,U⟩) (by simp)).trans (a 2 (by omega)),(b.cell (p:=⟨w.heap.size,3,U⟩) (by simp)).trans (a 3 (by omega)),(b.cell (p:=⟨w.heap.size,4,U⟩) (by simp)).trans (a 4 (by omega))⟩
 have S:=L;have k:=aa i;have T:=aa u
 generalize pe (cT m.data.toList) (jh t.data.toList) (m.data.toList.length+t.data.toList.length+10) body.length l.length (aE fg l).length (aE fh l).length (aE eQ l).length=y at *;have tF:((y:Int) != 0)=true:=by rw[cW];omega
 go_enter func150,ntmps150;go_wp2_with fail;refine v.mono ?_;rintro e z ⟨rfl,g⟩;have f:=k.o.trans (g.mono (by simp;omega));have n:=((aq _ _).alloc (ak _) _).trans (g.mono (by simp));have x0:=N z n;go_wp2_with fail;refine(x z f).mono ?_;rintro e w2 ⟨rfl,q⟩;have r:=ar f q;go_wp2;go_ret2;exact .bad y T.o rfl S r
theorem UC {w:X}{a g cap:Nat}{l:ae}(h:dZ w a g cap l)(d:l≠[]){b:Nat}{s:ag}(e:w.cell? ⟨b,0,U⟩=M (V s)):b≠g:=by
 rintro rfl;cases l with
 | nil=>exact d rfl
 | cons c r =>
   have:=h.d 0 _ (lI (c::r) 0 (by simp));rw[e] at this;cases this
theorem St {P:Program}{c f:TypeId}(d:P.underlying c=M (.slice f)){w:X}{ao:ai}{cap n:Nat}{l:ae}(h:ay w ao cap l)(g:l.length=n):Src P 1 c (Z ao n cap) n (bD l) w:=by
 subst g;cases ao with
 | none =>
   obtain⟨rfl,rfl⟩:=h.E;exact Src.ofNil _ d 0
 | some a =>
   refine Src.ofSlice _ d a _ cap _ (by rw[dN];omega) (fun j u b=>?_) (wP l);have e:j<l.length:=by
    have:=(fB.1 b).1;rwa[dN] at this
   rw[lI l j e] at b;injection b with b;subst b;exact h.q j e
theorem FM (x y:ag):∀u∈([V x,V y]:List Value),u.oneCell'=true:=fun u a=>by simp at a;rcases a with rfl | rfl <;> rfl
theorem FN (W:X)(x y:ag)(t:Nat){k:Nat}(a:W.heap.size=k):∀j u,([V x,V y]:List Value)[j]? = M u->(W.alloc (K #[V x,V y] t)).cell? (Addr.add ⟨k,0,U⟩ j)=M u:=fun j u b=>by
 rw[ga,dV,World.cell?_alloc_at _ _ _ _ a.symm,mS];exact b
theorem S5 {a w5:X}{x y:ag}{t:Nat}(h:Below (a.alloc (K #[V x,V y] t)).drew.heap.size (a.alloc (K #[V x,V y] t)).drew w5):∀j u,([V x,V y]:List Value)[j]? = M u->w5.cell? (Addr.add ⟨a.heap.size,0,U⟩ j)=M u:=fun j u c=>by
 have d:=FN a x y t rfl j u c;have b:(a.alloc (K #[V x,V y] t)).drew.cell? (Addr.add ⟨a.heap.size,0,U⟩ j)=M u:=d;exact(h.cell (bI _ _ b)).trans b
theorem Do {c W d:X}{b t:Nat}{ao:ai}{cap n:Nat}{xs:List Value}{w5:X}(f:Below c.heap.size c W)(g:aG w5 b t 2 ao cap n xs)(i:W.grownBy d (Value.slice ao n cap).ownBlock)(j:c.heap.size<=b):Below c.heap.size c d :=
 f.grown i f.size (fun q e=>by
  rw[dI] at e;cases ao with
  | none=>cases e
  | some a=>injection e with e;subst e;have:=(g.d a rfl).1;omega)
theorem EJ {w wr c:X}{bo:ai}{gF g:Nat}{body:ae}(d:ay w bo gF body)(h:ay wr bo gF body)(f:al (fun k=>k=g) wr c)(j:w.heap.size<=g):ay c bo gF body:=by
 by_cases b:body=[]
 . subst b;exact ay.B _ h
 . refine h.e f (fun a e l=>?_);subst e;have i:=bI w _ (d.q 0 (kH.2 b));rw[oB] at i;omega
structure Iv (w:X)(gf A9:Nat)(FT:aC)(sx:ae)(bo:ai)(gF:Nat)(body:ae)(i g cap n:Nat)(wr:X):Prop where
 b:dZ wr w.heap.size g cap (sx++(FT.take i).flatMap kt)
 a:(sx++(FT.take i).flatMap kt).length=n
 d:∀p∈FT.take i,(bz p.1.data.toList p.2.data.toList).2=0
 c:bx wr (M ⟨gf,0,U⟩) A9 FT.length (aI FT)
 e:ay wr bo gF body
 below:Below w.heap.size w wr
theorem Il (p:ag×ag)(h:p.1.size<=2000∧p.2.size<=2000):(kt p).length<=4004:=by
 have a:=Dy p.1.data.toList p.2.data.toList;have b:p.1.data.toList.length=p.1.size:=by rw[cy];rfl
 have c:p.2.data.toList.length=p.2.size:=by rw[cy];rfl
 unfold kt;rw[aF];simp;omega
theorem FO:∀(l:aC),(∀p∈l,p.1.size<=2000∧p.2.size<=2000)->(l.flatMap kt).length<=4004*l.length
 | [],_=>by simp
 | p :: r, h => by
   have b:=Il p (h p (mR ..));have c:=FO r (fun q a=>h q (iW _ a));rw[oA,aF,bO];omega
theorem OS (w:X)(m t c:ag)(mi ln:Int)(l:aC)(fo bo:ai)(gG nf gF nb:Nat)(body:ae)(hl:bx w fo gG nf (aI l))(hn:l.length=nf)(hN:nf<=1000000)(hs:∀p∈l,p.1.size<=2000∧p.2.size<=2000)(hm:m.size+t.size<=10000)(hb:body.length=nb)(hBd:ay w bo gF body)
 (hI:∀W,Below w.heap.size w W->Calls prog 149 #[I J (nb:Int)] W fun e w'=>e=.returned (V c)∧Below W.heap.size W w') (hds:c.data.toList=ba 8 nb)
 (hF:pe (cT m.data.toList) (jh t.data.toList) (m.data.toList.length+t.data.toList.length+10) nb nf (aE fg l).length (aE fh l).length (aE eQ l).length=0) :
 Calls prog 150 #[.agg #[V m,V t,I J mi,Z fo nf gG,I J ln],Z bo nb gF] w fun e w'=>B9 w (pd m t l) body e w':=by
 subst hn;subst hb;have S:∀s:ag,s.data.toList.length=s.size:=fun s=>by rw[cy];rfl
 obtain⟨hb4,h15,hT⟩:=(GO m t l body _ rfl).2 hF;have hb0:Below w.heap.size w (w.alloc (K #[V m,V t,I J mi,Z fo l.length gG,I J ln] 82)):=(aq _ _).alloc (ak _) _;have H:Below w.heap.size w ((w.alloc (K #[V m,V t,I J mi,Z fo l.length gG,I J ln] 82)).alloc (K #[V m,V t,V ⟨#[72,84,84,80,47,49,46,49]⟩] 9)):=hb0.trans ((aq _ _).alloc hb0.size _);have HJ:=Et m t ⟨#[72,84,84,80,47,49,46,49]⟩ (w.heap.size+1) ((w.alloc (K #[V m,V t,I J mi,Z fo l.length gG,I J ln] 82)).alloc (K #[V m,V t,V ⟨#[72,84,84,80,47,49,46,49]⟩] 9)) (by rw[World.cell?_alloc_at _ _ _ _ (by simp)];rfl) (by rw[World.cell?_alloc_at _ _ _ _ (by simp)];rfl) (by rw[World.cell?_alloc_at _ _ _ _ (by simp)];rfl) (by show m.size+t.size+8<=_;omega);have hfs:(⟨(m.data.toList++32::(t.data.toList++32::(⟨#[72,84,84,80,47,49,46,49]⟩:ag).data.toList)).toArray⟩:ag).size=m.data.toList.length+t.data.toList.length+10:=by
  show(m.data.toList++32::(t.data.toList++32::[72,84,84,80,47,49,46,49])).toArray.size=_;rw[cN];simp;omega
 have hfd:(⟨(m.data.toList++32::(t.data.toList++32::(⟨#[72,84,84,80,47,49,46,49]⟩:ag).data.toList)).toArray⟩:ag).data.toList=m.data.toList++32::(t.data.toList++32::jO):=rfl;generalize (⟨(m.data.toList++32::(t.data.toList++32::(⟨#[72,84,84,80,47,49,46,49]⟩:ag).data.toList)).toArray⟩:ag)=first at HJ hfs hfd;have zV:=fun W (z:Below w.heap.size w W)=>ES W m t first mi ln l fo bo gG l.length body.length gF (hl.a z) rfl hN hs (by omega) (by omega);simp only[hfs] at zV;have C:∀j,j<5->(w.alloc (K #[V m,V t,I J mi,Z fo l.length gG,I J ln] 82)).cell? ⟨w.heap.size,j,U⟩=(#[Value.string m,V t,I J mi,Z fo l.length gG,I J ln]:Array Value)[j]?:=fun j _=>World.cell?_alloc_mark w _ _ _ j;have HX:∀W,Below (w.alloc (K #[V m,V t,I J mi,Z fo l.length gG,I J ln] 82)).heap.size (w.alloc (K #[V m,V t,I J mi,Z fo l.length gG,I J ln] 82)) W->W.cell? ⟨w.heap.size,0,U⟩=M (V m)∧W.cell? ⟨w.heap.size,1,U⟩=M (V t)∧W.cell? ⟨w.heap.size,2,U⟩=M (I J mi)∧W.cell? ⟨w.heap.size,3,U⟩=M (Z fo l.length gG)∧W.cell? ⟨w.heap.size,4,U⟩=M (I J ln):=fun W z =>
  ⟨(z.cell (p:=⟨w.heap.size,0,U⟩) (by simp)).trans (C 0 (by omega)),(z.cell (p:=⟨w.heap.size,1,U⟩) (by simp)).trans (C 1 (by omega)),(z.cell (p:=⟨w.heap.size,2,U⟩) (by simp)).trans (C 2 (by omega)),(z.cell (p:=⟨w.heap.size,3,U⟩) (by simp)).trans (C 3 (by omega)),(z.cell (p:=⟨w.heap.size,4,U⟩) (by simp)).trans (C 4 (by omega))⟩
 have HT:=hT;have HB1:=aa H
 rw[hF] at zV;have hcl:=Gq body.length hb4;have hdl:c.size<=2000:=by
  have:=jq 8 body.length;rw[<-S,hds];omega
 have hfT:∀p∈l++[((⟨#[67,111,110,116,101,110,116,45,76,101,110,103,116,104]⟩:ag),c)],p.1.size<=2000∧p.2.size<=2000:=fun p G=>by
  rcases dm.1 G with G | G
  . exact hs p G
  . simp at G;subst G;exact⟨by show(14:Nat)<=2000;omega,hdl⟩
 have HFT:=aa hfT;have yS:=fun W (z:Below w.heap.size w W)=>IN l fo gG l.length W (hl.a z) rfl hN;have QZ:c.data.toList=ba 8 body.length∧(bz ew (ba 8 body.length)).2=0∧(bz ew (ba 8 body.length)).1=ew++[58,32]++ba 8 body.length:=⟨hds,hcl.1,hcl.2⟩;have aot:first.size<=10010:=by have:=S m;have:=S t;omega
 obtain⟨i0,hi0,hz0,hz1,hz2⟩:=info_parts pv;have Hi:=hi0;have kT:=aa hz0;have kL:=aa hz1;have kU:=aa hz2
 obtain⟨j0,hj0,hy0,hy1,hy2⟩:=info_parts il;have Hj:=hj0;have Jj:=aa hy0;have Jk:=aa hy1;have Jl:=aa hy2
 clear hi0 hz0 hz1 hz2 hj0 hy0 hy1 hy2 hl hs hT hb0 H C hfs hF S hcl hfT  hds  ;go_enter func150,ntmps150;go_wp2_with fail;refine HJ.mono ?_;rintro e w1 ⟨rfl,hb⟩;have hB1:=HB1.o.trans (hb.mono (by simp;omega));have y:Below (w.alloc (K #[V m,V t,I J mi,Z fo l.length gG,I J ln] 82)).heap.size (w.alloc (K #[V m,V t,I J mi,Z fo l.length gG,I J ln] 82)) w1:=((aq _ _).alloc (ak _) _).trans (hb.mono (by simp));obtain⟨x0,x1,x2,x3,x4⟩:=HX w1 y;go_wp2_with fail;refine(zV w1 hB1).mono ?_;rintro e w2 ⟨rfl,hb2⟩;have HB2:=ar hB1 hb2;have x3b:=(hb2.cell (bI w1 _ x3)).trans x3;go_wp2_with fail;refine(hI w2 HB2).mono ?_;rintro e x ⟨rfl,hb3⟩;have T:=ar HB2 hb3;have hB4:Below w.heap.size w (x.alloc (K #[V ⟨#[67,111,110,116,101,110,116,45,76,101,110,103,116,104]⟩,V c] 128)):=T.trans ((aq _ _).alloc T.size _);obtain⟨aic,d,qL,L,r⟩:=xR (P:=prog) (x.alloc (K #[V ⟨#[67,111,110,116,101,110,116,45,76,101,110,103,116,104]⟩,V c] 128)) (first++⟨#[13,10]⟩) 9 31 5 (by rw[mj];show first.size+2<=_;unfold maxLen;omega) underlying9 underlying31 underlying5;have hz4:(x.alloc (K #[V ⟨#[67,111,110,116,101,110,116,45,76,101,110,103,116,104]⟩,V c] 128)).heap.size=x.heap.size+1:=by simp
 rw[hz4] at qL L r;have y:Below w.heap.size w d:=hB4.trans (L.mono (by have:=T.size;omega));have x3c:=(hb3.cell (bI w2 _ x3b)).trans x3b;have x3d:(x.alloc (K #[V ⟨#[67,111,110,116,101,110,116,45,76,101,110,103,116,104]⟩,V c] 128)).cell? ⟨w.heap.size,3,U⟩=M (Z fo l.length gG):=(((aq _ _).alloc (ak _) _).cell (bI x _ x3c)).trans x3c;have y3:d.cell? ⟨w.heap.size,3,U⟩=M (Z fo l.length gG):=(L.cell (by have:=bI x _ x3c;simp at this ⊢;omega)).trans x3d;have y0:d.cell? ⟨x.heap.size,0,U⟩=M (V ⟨#[67,111,110,116,101,110,116,45,76,101,110,103,116,104]⟩):=(L.cell (p:=⟨x.heap.size,0,U⟩) (by simp)).trans (World.cell?_alloc_mark x _ _ _ 0);have y1:d.cell? ⟨x.heap.size,1,U⟩=M (V c):=(L.cell (p:=⟨x.heap.size,1,U⟩) (by simp)).trans (World.cell?_alloc_mark x _ _ _ 1);have hdt:(first++⟨#[13,10]⟩:ag).data.toList=first.data.toList++[13,10]:=by rw[my]
 have hsz:(first++⟨#[13,10]⟩:ag).size=first.size+2:=by rw[mj];rfl
 have hwz:w.heap.size<=x.heap.size+1:=by have:=T.size;omega
 rw[hdt] at r;rw[hsz] at qL;have al3:dZ d w.heap.size (x.heap.size+1) aic (first.data.toList++[13,10]):=⟨hwz,r.b,r.e,r.f,r.d,r.a⟩;have sH:∀W,Below d.heap.size d W->W.cell? ⟨w.heap.size,3,U⟩=M (Z fo l.length gG)∧W.cell? ⟨x.heap.size,0,U⟩=M (V ⟨#[67,111,110,116,101,110,116,45,76,101,110,103,116,104]⟩)∧W.cell? ⟨x.heap.size,1,U⟩=M (V c):=fun W z =>
  ⟨(z.cell (bI d _ y3)).trans y3,(z.cell (bI d _ y0)).trans y0,(z.cell (bI d _ y1)).trans y1⟩
 go_upto_region 7 with fail
 go_cut [39,40,41] (fun v39 v40 v41 wd=>∃gf A9,v39=Z (M ⟨gf,0,U⟩) (l.length+1) A9∧v40=I J ((l.length:Int)+1)∧v41=I J 0∧aG wd 0 128 2 (M ⟨gf,0,U⟩) A9 (l.length+1) (aI (l++[((⟨#[67,111,110,116,101,110,116,45,76,101,110,103,116,104]⟩:ag),c)]))∧Below d.heap.size d wd)
 case first =>
  have d1:Below w.heap.size w d.drew:=y.trans (bA _ _);have d2:Below w.heap.size w (d.alloc (K #[V ⟨#[67,111,110,116,101,110,116,45,76,101,110,103,116,104]⟩,V c] 128)).drew:=(y.trans ((aq _ _).alloc y.size _)).trans (bA _ _);have VF:Below d.heap.size d d.drew:=bA _ _;have VG:Below d.heap.size d (d.alloc (K #[V ⟨#[67,111,110,116,101,110,116,45,76,101,110,103,116,104]⟩,V c] 128)).drew:=((aq _ _).alloc (ak _) _).trans (bA _ _);have VH:l.length+1<=maxLen∧(l.length+1)*32<=140737488355328:=⟨by unfold maxLen;omega,by omega⟩;have HD1:=d1;have HD2:=aa d2
  go_region_held_law (fun w'=>w'.cell? ⟨w.heap.size,3,U⟩=M (Z fo l.length gG)∧w'.cell? ⟨x.heap.size,0,U⟩=M (V ⟨#[67,111,110,116,101,110,116,45,76,101,110,103,116,104]⟩)∧w'.cell? ⟨x.heap.size,1,U⟩=M (V c)) (first | go_keep | exact HK6.o | exact HK5.o | exact HKA.o) (first
   | (refine step_append_lies _ (by rfl) _ _ _ (by rfl) 0 128 i0 (.agg #[V ⟨#[]⟩,V ⟨#[]⟩]) 2 32 underlying80 Hi kT.o kL.o kU.o (by rfl) (by decide) (Z AZ l.length N) l.length (aI l) (by rfl) ((AL.o.j (ax _)).q _) ⟨w5.heap.size,0,U⟩ 1 1 [V ⟨#[67,111,110,116,101,110,116,45,76,101,110,103,116,104]⟩,V c] (by rfl) (by rfl) (FN _ _ _ _ rfl) (FM _ _) (by decide) VH.1 VH.2 (ax _) (w5.heap.size+1) (by simp) ?_;intro g6 cap6 w6 u v wz QF;have Jm:=aa u;have wB:=aa (Do (oP.o.trans ((aq _ _).alloc oP.o.size _)) AL.o v HZ5.o);have HK6:=aa (sH w6 wB.o);clear u v wz QF;(try simp only[Act.put,List.getElem_toArray,List.getElem_cons_succ,List.getElem_cons_zero,List.setIfInBounds_toArray,qt,List.set_cons_succ]))
   | (refine step_append_lies _ (by rfl) _ _ _ (by rfl) 0 128 i0 (.agg #[V ⟨#[]⟩,V ⟨#[]⟩]) 2 32 underlying80 Hi kT.o kL.o kU.o (by rfl) (by decide) (Z AZ l.length N) l.length (aI l) (by rfl) (AL.o.j (ax _)) ⟨d.heap.size,0,U⟩ 1 1 [V ⟨#[67,111,110,116,101,110,116,45,76,101,110,103,116,104]⟩,V c] (by rfl) (by rfl) HNB.o (FM _ _) (by decide) VH.1 VH.2 (ax _) w5.heap.size (by rfl) ?_;intro g6 cap6 w6 u v wz QF;have Jm:=aa u;have wB:=aa (Do (oP.o) AL.o v HZ5.o);have HK6:=aa (sH w6 wB.o);clear u v wz QF;(try simp only[Act.put,List.getElem_toArray,List.getElem_cons_succ,List.getElem_cons_zero,List.setIfInBounds_toArray,qt,List.set_cons_succ]))
   | (go_at_call 188;refine(yS _ HD2.o).mono ?_;rintro e w5 ⟨AZ,N,rfl,yT,wG⟩;have AL:=aa yT;have oP:=aa (VG.trans (wG.mono (by simp)));have HZ5:Hid (d.heap.size<=(d.alloc (K #[V ⟨#[67,111,110,116,101,110,116,45,76,101,110,103,116,104]⟩,V c] 128)).drew.heap.size):=VG.size;have HK5:=aa (sH w5 oP.o);have HNB:=aa (S5 wG);clear yT wG)
   | (go_at_call 188;refine(yS _ HD1).mono ?_;rintro e w5 ⟨AZ,N,rfl,yT,wG⟩;have AL:=aa yT;have oP:=aa (VF.trans (wG.mono (ak _)));have HZ5:Hid (d.heap.size<=d.drew.heap.size):=VF.size;have HK5:=aa (sH w5 oP.o);have HKA:=aa (sH _ (oP.o.trans ((aq _ w5).alloc oP.o.size (K #[V ⟨#[67,111,110,116,101,110,116,45,76,101,110,103,116,104]⟩,V c] 128))));clear yT wG))
  all_goals (go_wp2;go_meet;exact⟨g6,cap6,rfl,rfl,rfl,by rw[wI];exact Jm.o,wB.o⟩)
 case rest =>
  obtain⟨gf,A9,rfl,rfl,rfl,vZ,Zv⟩:=hcut;have hfl:(l++[((⟨#[67,111,110,116,101,110,116,45,76,101,110,103,116,104]⟩:ag),c)]).length=l.length+1:=by simp
  have hfz:first.data.toList.length=first.size:=by rw[cy];rfl
  have hR0:Iv w gf A9 (l++[((⟨#[67,111,110,116,101,110,116,45,76,101,110,103,116,104]⟩:ag),c)]) (first.data.toList++[13,10]) bo gF body 0 (x.heap.size+1) aic (first.size+2) wc :=
   ⟨by simpa using al3.j Zv,by simp[hfz],fun p G=>by simp at G,by rw[hfl];exact vZ.a,hBd.a (y.trans (Zv.mono y.size)),y.trans (Zv.mono y.size)⟩
  have Ta:=aa hR0;have RS:=aa hfl;obtain⟨b,D⟩:∃b,l++[((⟨#[67,111,110,116,101,110,116,45,76,101,110,103,116,104]⟩:ag),c)]=b:=⟨_,rfl⟩;rw[D] at Ta RS HFT;go_wp2;go_loopw [9,41] (fun vo vi wr=>∃(i n g cap:Nat),i<=l.length+1∧vi=I J i∧vo=Z (M ⟨g,0,U⟩) n cap∧Iv w gf A9 b (first.data.toList++[13,10]) bo gF body i g cap n wr) (fun _ vi _=>l.length+1-(intOf vi).toNat)
  case atStart=>exact⟨0,_,_,_,ax _,rfl,rfl,Ta.o⟩
  case round =>
   obtain⟨i,n,g,cap,hi,rfl,rfl,f⟩:=hrel;have hacc:=FO (b.take i) (fun p G=>HFT.o p (List.mem_of_mem_take G));have hnl:n<=200000:=by
    have:=f.a;rw[aF,aF] at this;have h2:(b.take i).length<=16:=by rw[bP,RS.o];omega
    have h3:([13,10]:ae).length=2:=rfl;rw[h3,hfz] at this;omega
   by_cases hlt:i<l.length+1
   . have hlt':(i:Int)<(l.length:Int)+1:=by omega
     have hiF:i<b.length:=by rw[RS.o];exact hlt
     have hp1:=f.c.j (mU b i hiF).1;have hp2:=f.c.j (mU b i hiF).2;rw[ga,dV] at hp1 hp2;have hfc:=f.c.1;rw[RS.o] at hfc;have hps:=HFT.o b[i] (dG hiF);have htk:b.take (i+1)=b.take i++[b[i]]:=go hiF;have hbad:(bz b[i].1.data.toList b[i].2.data.toList).2≠0->er (fN l)=.inl (bz b[i].1.data.toList b[i].2.data.toList).2:=fun hc=>by
      have hil:i<l.length:=by
       rcases fe i l.length with h | h
       . exact h
       . exfalso;obtain rfl:i=l.length:=by omega
         have e:b[l.length]=((⟨#[67,111,110,116,101,110,116,45,76,101,110,103,116,104]⟩:ag),c):=by simp only[<-D];simp
         rw[e] at hc;obtain⟨e1,e2,e3⟩:=QZ;rw[e1] at hc;exact hc e2
      have e:b[i]=l[i]:=by simp only[<-D];exact List.getElem_append_left hil
      have ht:b.take i=l.take i:=by rw[<-D,List.take_append_of_le_length (by omega)]
      have hz:=f.d;rw[ht] at hz;rw[e] at hc ⊢;exact GE l i hil hz hc
     have aeL:=hbad;have qw:=aa htk
     generalize b[i]=p at *;have H:Below wr.heap.size wr (wr.alloc (K #[V p.1,V p.2] 128)):=(aq _ _).alloc (ak _) _;have zT:=Fz p.1 p.2 (wr.alloc (K #[V p.1,V p.2] 128)) (by have:=hps.1;omega) (by have:=hps.2;omega);have hll:=Il p hps;have Zw:kt p=(bz p.1.data.toList p.2.data.toList).1++[13,10]:=rfl;unfold jX at zT;generalize hcd:(bz p.1.data.toList p.2.data.toList).2=cd at *;generalize (bz p.1.data.toList p.2.data.toList).1=tx at *;by_cases hc0:cd=0
     . subst hc0;have hxz:((⟨tx.toArray⟩:ag)++⟨#[13,10]⟩:ag).size=tx.length+2:=by rw[mj];rfl
       have hxd:((⟨tx.toArray⟩:ag)++⟨#[13,10]⟩:ag).data.toList=tx++[13,10]:=by rw[my]
       have hxl:tx.length+2<=4004:=by
        have:=Zw;rw[this,aF] at hll;simpa using hll
       have HXz:=hxz;have HXd:=aa hxd
       go_wp2_with fail;refine zT.mono ?_;rintro e w5 ⟨rfl,hb5⟩;have hb6:=H.trans (hb5.mono (by simp));have HU:=f.b.j hb6;go_wp2_with (at_builtin;refine Cm rfl (.tmp 53) (.tmp 55) 31 9 rfl 5 j0 underlying31 Hj Jj.o Jk.o Jl.o rfl HU f.a _ _ rfl (wY underlying9 _ _) (by rw[HXz];omega) ?_;intro g7 He w7 TB FR;have HU7:=aa TB;have Z6:=aa FR;clear TB FR)
       go_roundw
       case rel =>
        have hne:first.data.toList++[13,10]++(b.take i).flatMap kt≠[]:=by simp
        have ad8:=f.c.a hb6;have hgf:gf≠g:=by
         have h0:0<(aI b).length:=by rw[rI,RS.o];omega
         have hc:=ad8.j (mU b 0 (by rw[RS.o];omega)).1;rw[ga] at hc;exact UC HU hne (by simpa using hc)
        have hlc:first.data.toList++[13,10]++(b.take i).flatMap kt++((⟨tx.toArray⟩:ag)++⟨#[13,10]⟩:ag).data.toList=first.data.toList++[13,10]++(b.take (i+1)).flatMap kt:=by
         rw[qw.o,List.flatMap_append,HXd.o,iX];congr 2;simp[Zw]
        refine⟨i+1,_,g7,He,by omega,by go_num,rfl,⟨by rw[<-hlc];exact HU7.o,?_,?_,ad8.q Z6.o (fun a e=>by injection e with e;subst e;exact hgf),?_,?_⟩⟩
        . rw[<-hlc,aF,f.a,HXd.o];simp
        . intro q hq;rw[qw.o] at hq;rcases dm.1 hq with hq | hq
          . exact f.d q hq
          . simp at hq;subst hq;exact hcd
        . exact EJ hBd (f.e.a hb6) Z6.o HU.c
        . have h1:=f.below.trans (hb6.mono f.below.size);have h2:=Z6.o.below (B:=w.heap.size) (fun k e=>by rw[e];exact HU.c) h1.size;exact h1.trans h2
       case measure=>simp[intOf];omega
     . have tc:((cd:Int) != 0)=true:=by rw[cW];omega
       have Nc:=(aeL hc0);have QG:=aa hc0
       go_wp2_with fail;refine zT.mono ?_;rintro e w5 ⟨rfl,hb5⟩;have wB:=H.trans (hb5.mono (by simp));go_wp2;(try simp only[Exit.inBlock,Exit.then]);go_ret2;refine .bad cd QG.o rfl ?_ (f.below.trans (wB.mono f.below.size));rw[HT,Nc]
   . obtain rfl:i=l.length+1:=by omega
     have hXe:ic (pd m t l) body=(first.data.toList++[13,10]++(b.take (l.length+1)).flatMap kt++[13,10]++body,0):=by
      have htl:b.take (l.length+1)=b:=by rw[jy];rw[RS.o];omega
      have hz:=f.d;rw[htl] at hz;have hlz:=GC l (fun p G=>hz p (by rw[<-D];exact qm _ G));obtain⟨e1,e2,e3⟩:=QZ;rw[HT,hlz,htl];simp only;rw[<-D,List.flatMap_append,hfd];have e4:[((⟨#[67,111,110,116,101,110,116,45,76,101,110,103,116,104]⟩:ag),c)].flatMap kt=ew++[58,32]++ba 8 body.length++[13,10]:=by
       have:kt ((⟨#[67,111,110,116,101,110,116,45,76,101,110,103,116,104]⟩:ag),c)=(bz ew c.data.toList).1++[13,10]:=rfl;rw[oA,this,e1,e3];simp
      rw[e4];simp
     go_wp2_with (first
      | (at_builtin;refine Cm rfl (.tmp 58) (.const (V ⟨#[13,10]⟩)) 31 9 rfl 5 j0 underlying31 Hj Jj.o Jk.o Jl.o rfl f.b f.a _ _ rfl (wY underlying9 _ _) (by show n+2<=_;omega) ?_;intro g7 He w7 TB FR;have HU7:=aa TB;have Z6:=aa FR;have aeM:=aa (EJ hBd f.e FR f.b.c);clear TB FR)
      | (at_builtin;refine Cm rfl (.tmp 60) (.tmp 61) 31 31 rfl 5 j0 underlying31 Hj Jj.o Jk.o Jl.o rfl HU7.o (by rw[aF,f.a];rfl) _ _ rfl (St underlying31 aeM.o rfl) (by omega) ?_;intro g8 aeN w8 hU8 hT8;have HU8:=aa hU8;have HT8:=aa hT8;clear hU8 hT8))
     go_ret2;have h7:=f.below.trans (Z6.o.below (B:=w.heap.size) (fun k e=>by rw[e];exact f.b.c) f.below.size);have h8:=h7.trans (HT8.o.below (B:=w.heap.size) (fun k e=>by rw[e];exact HU7.o.c) h7.size);refine .ok g8 aeN _ rfl ?_ (by rw[hXe]) (by rw[hXe];exact HU8.o) h8;rw[hXe];show _=(first.data.toList++[13,10]++(b.take (l.length+1)).flatMap kt++[13,10]++body).length;rw[aF,aF,f.a];rfl
