import Derived.Test.YtodmelffkfbalaaGreatDoorPk36
import Derived.Test.YtodmelffkfbalaaGreatDoorPk33
import Derived.Deep.RegionHeldLaw
import Derived.Deep.DeepCutAuto
open Go.Value renaming int->I,string->V,slice->Z
open Go.IntKind renaming i64->J
open Go.Obj renaming cells->K
open Go.Ending renaming returned->Y
open Option renaming none->U,some->M
open Bool renaming false->F
open Or renaming inl->A,inr->R
open Go renaming World->X
set_option maxHeartbeats 4000000
set_option maxRecDepth 100000
open Go.Proofs.Tryz
namespace Go.Proofs.YtodmelffkfbalaaGreatDoor
open Go.RowKit
def kf (p:ae×ae):ab:=(bP p.1.data.toList p.2.data.toList).1++[13,10]
theorem FZ:∀l:aC,(∀p∈l,(bP p.1.data.toList p.2.data.toList).2=0)->iq (gU l)=.inr (l.flatMap kf)
 | [],_=>rfl
 | p :: r, h => by
   have a:=FZ r (fun q b=>h q (iw _ b));show iq ((p.1.data.toList,p.2.data.toList)::gU r)=_;rw[iq,if_neg (fun e=>e (h p (lM ..))),a];simp[kf]
theorem F2:∀(l:aC) (i:Nat) (b:i<l.length),(∀p∈l.take i,(bP p.1.data.toList p.2.data.toList).2=0)->(bP l[i].1.data.toList l[i].2.data.toList).2≠0->iq (gU l)=.inl (bP l[i].1.data.toList l[i].2.data.toList).2
 | p :: r, 0, _, _, hc => by
   show iq ((p.1.data.toList,p.2.data.toList)::gU r)=_;have a:(bP p.1.data.toList p.2.data.toList).2≠0:=hc;rw[iq,if_pos a];rfl
 | p :: r, i + 1, b, h, hc => by
   have c:=F2 r i (by simpa using b) (fun q d=>h q (by rw[List.take_succ_cons];exact iw _ d)) hc;show iq ((p.1.data.toList,p.2.data.toList)::gU r)=_;rw[iq,if_neg (fun e=>e (h p (by rw[List.take_succ_cons];exact lM ..))),c];rfl
theorem F3 (l:ab):iU l=F<->(l.head?≠M 47∨32∈l∨9∈l∨dO l=F):=by
 have a:mW l=true<->32∈l∨9∈l:=by
  unfold mW;rw[List.any_eq_true];constructor
  . rintro ⟨b,a,e⟩;simp at e;rcases e with e | e
    . exact A (e▸a)
    . exact R (e▸a)
  . rintro (h | h)
    . exact⟨32,h,rfl⟩
    . exact⟨9,h,rfl⟩
 unfold iU;rw[pO,pO,cC,Bool.not_eq_false',a];constructor
 . rintro (h | (h | h) | h)
   . exact A h
   . exact R (A h)
   . exact R (R (A h))
   . exact R (R (R h))
 . rintro (h | h | h | h)
   . exact A h
   . exact R (A (A h))
   . exact R (A (R h))
   . exact R (R h)
theorem Ge (m t:ae)(l:aC)(body:ab)(f:Nat)(a:f=oK (fj m.data.toList) (iU t.data.toList) (m.data.toList.length+t.data.toList.length+10) body.length l.length (aG gn l).length (aG go l).length (aG gv l).length):
 (f ≠ 0 -> jp (oI m t l) body = ([], f)) ∧ (f = 0 -> body.length <= 4000 ∧ l.length <= 15 ∧ jp (oI m t l) body = match iq (gU l) with
  | .inl c=>([],c)
  | .inr s=>(m.data.toList++32::(t.data.toList++32::(xA++13::10::(s++(mq++[58,32]++bx 8 body.length++13::10::13::10::body)))),0)):=by
 have ev:∀(b:ae),be b.data.toList=b.data.toList->dZ (gU l) b.data.toList=bX (aG b l):=fun b r=>A1 l b r;have u:dZ (gU l) qB=bX (aG gv l):=ev gv (by decide);have w:dZ (gU l) pz=bX (aG gn l):=ev gn (by decide);have x:dZ (gU l) pA=bX (aG go l):=ev go (by decide);have d:∀v:List ae,bX v≠[]<->0<v.length:=fun v=>by
  have:(bX v).length=v.length:=by simp[bX]
  rw[<-this];exact List.length_pos_iff.symm
 have o:(gU l).length=l.length:=by simp[gU]
 unfold jp oI;simp only[u,w,x,o];unfold oK at a;by_cases g:fj m.data.toList=F
 . rw[if_pos g] at a;rw[if_pos g];subst a;exact⟨fun _=>rfl,fun e=>by omega⟩
 rw[if_neg g] at a;rw[if_neg g];by_cases i:iU t.data.toList=F
 . rw[if_pos i] at a;rw[if_pos ((F3 _).1 i)];subst a;exact⟨fun _=>rfl,fun e=>by omega⟩
 rw[if_neg i] at a;rw[if_neg (fun e=>i ((F3 _).2 e))];by_cases j:200<m.data.toList.length+t.data.toList.length+10∨4000<body.length
 . rw[if_pos j] at a;rw[if_pos j];subst a;exact⟨fun _=>rfl,fun e=>by omega⟩
 rw[if_neg j] at a;rw[if_neg j];by_cases q:15<l.length
 . rw[if_pos q] at a;rw[if_pos (by omega)];subst a;exact⟨fun _=>rfl,fun e=>by omega⟩
 rw[if_neg q] at a;rw[if_neg (by omega)];by_cases k:0<(aG gn l).length∨0<(aG go l).length
 . rw[if_pos k] at a;rw[if_pos (by rcases k with h | h;exact A ((d _).2 h);exact R ((d _).2 h))];subst a;exact⟨fun _=>rfl,fun e=>by omega⟩
 rw[if_neg k] at a;rw[if_neg (fun e=>k (by rcases e with e | e;exact A ((d _).1 e);exact R ((d _).1 e)))];have p:(bX (aG gv l)).length=(aG gv l).length:=by simp[bX]
 rw[p];by_cases n:(aG gv l).length≠1
 . rw[if_pos n] at a;rw[if_pos n];subst a;exact⟨fun _=>rfl,fun e=>by omega⟩
 rw[if_neg n] at a;rw[if_neg n];subst a;refine⟨fun e=>absurd rfl e,fun _=>⟨by omega,by omega,?_⟩⟩;cases iq (gU l) <;> rfl
inductive Br (w:X)(h:dg)(body:ab)(e:Ending)(w':X):Prop
 | bad (c:Nat) (hc:c≠0) (he:e=Y (.tuple #[Z U 0 0,I J (c:Int)])) (ht:jp h body=([],c)) (hB:Below w.heap.size w w')
 | ok (g cap n:Nat) (he:e=Y (.tuple #[Z (M ⟨g,0,U⟩) n cap,I J 0])) (hn:n=(jp h body).1.length) (ht:(jp h body).2=0) (hO:dV w' w.heap.size g cap (jp h body).1) (hB:Below w.heap.size w w')
theorem MC (w:X)(m t:ae)(mi ln:Int)(l:aC)(fo bo:ag)(gy nf fZ nb:Nat)(body:ab)(y:bq w fo gy nf (aI l))(L:l.length=nf)(N:nf<=1000000)(z:∀p∈l,p.1.size<=2000∧p.2.size<=2000)(hm:m.size+t.size<=10000)(f:body.length=nb)
 (q:oK (fj m.data.toList) (iU t.data.toList) (m.data.toList.length+t.data.toList.length+10) nb nf (aG gn l).length (aG go l).length (aG gv l).length≠0) :
 Calls prog 182 #[.agg #[V m,V t,I J mi,Z fo nf gy,I J ln],Z bo nb fZ] w fun e w'=>Br w (oI m t l) body e w':=by
 subst L;subst f;have r:∀s:ae,s.data.toList.length=s.size:=fun s=>by rw[cJ];rfl
 have B:=(Ge m t l body _ rfl).1 q;have b:Below w.heap.size w (w.alloc (K #[V m,V t,I J mi,Z fo l.length gy,I J ln] 82)):=(ar _ _).alloc (ak _) _;have g:Below w.heap.size w ((w.alloc (K #[V m,V t,I J mi,Z fo l.length gy,I J ln] 82)).alloc (K #[V m,V t,V ⟨#[72,84,84,80,47,49,46,49]⟩] 9)):=b.trans ((ar _ _).alloc b.size _);have C:=aa (C3 m t ⟨#[72,84,84,80,47,49,46,49]⟩ (w.heap.size+1) ((w.alloc (K #[V m,V t,I J mi,Z fo l.length gy,I J ln] 82)).alloc (K #[V m,V t,V ⟨#[72,84,84,80,47,49,46,49]⟩] 9)) (by rw[World.cell?_alloc_at _ _ _ _ (by simp)];rfl) (by rw[World.cell?_alloc_at _ _ _ _ (by simp)];rfl) (by rw[World.cell?_alloc_at _ _ _ _ (by simp)];rfl) (by show m.size+t.size+8<=_;omega));have c:(⟨(m.data.toList++32::(t.data.toList++32::(⟨#[72,84,84,80,47,49,46,49]⟩:ae).data.toList)).toArray⟩:ae).size=m.data.toList.length+t.data.toList.length+10:=by
  show(m.data.toList++32::(t.data.toList++32::[72,84,84,80,47,49,46,49])).toArray.size=_;rw[cz];simp;omega
 generalize (⟨(m.data.toList++32::(t.data.toList++32::(⟨#[72,84,84,80,47,49,46,49]⟩:ae).data.toList)).toArray⟩:ae)=first at C c;have D:=aa (fun W (d:Below w.heap.size w W)=>Ec W m t first mi ln l fo bo gy l.length body.length fZ (y.a d) rfl N z (by omega) (by omega));simp only[c] at D;have a:∀j,j<5->(w.alloc (K #[V m,V t,I J mi,Z fo l.length gy,I J ln] 82)).cell? ⟨w.heap.size,j,U⟩=(#[Value.string m,V t,I J mi,Z fo l.length gy,I J ln]:Array Value)[j]?:=fun j _=>World.cell?_alloc_mark w _ _ _ j;have S:Hid (∀W,Below (w.alloc (K #[V m,V t,I J mi,Z fo l.length gy,I J ln] 82)).heap.size (w.alloc (K #[V m,V t,I J mi,Z fo l.length gy,I J ln] 82)) W->W.cell? ⟨w.heap.size,0,U⟩=M (V m)∧W.cell? ⟨w.heap.size,1,U⟩=M (V t)∧W.cell? ⟨w.heap.size,2,U⟩=M (I J mi)∧W.cell? ⟨w.heap.size,3,U⟩=M (Z fo l.length gy)∧W.cell? ⟨w.heap.size,4,U⟩=M (I J ln)):=fun W d =>
  ⟨(d.cell (p:=⟨w.heap.size,0,U⟩) (by simp)).trans (a 0 (by omega)),(d.cell (p:=⟨w.heap.size,1,U⟩) (by simp)).trans (a 1 (by omega)),(d.cell (p:=⟨w.heap.size,2,U⟩) (by simp)).trans (a 2 (by omega)),(d.cell (p:=⟨w.heap.size,3,U⟩) (by simp)).trans (a 3 (by omega)),(d.cell (p:=⟨w.heap.size,4,U⟩) (by simp)).trans (a 4 (by omega))⟩
 have T:=aa B;have u:=aa g;have Ko:=aa q
 generalize oK (fj m.data.toList) (iU t.data.toList) (m.data.toList.length+t.data.toList.length+10) body.length l.length (aG gn l).length (aG go l).length (aG gv l).length=G at *;have tF:((G:Int) != 0)=true:=by rw[di];omega
 clear y z B b g a c q r;go_enter func182,ntmps182;go_wp2_with fail;refine C.o.mono ?_;rintro e v ⟨rfl,f⟩;have i:=u.o.trans (f.mono (by simp;omega));have k:Below (w.alloc (K #[V m,V t,I J mi,Z fo l.length gy,I J ln] 82)).heap.size (w.alloc (K #[V m,V t,I J mi,Z fo l.length gy,I J ln] 82)) v:=((ar _ _).alloc (ak _) _).trans (f.mono (by simp));obtain⟨x0,x1,x2,x3,x4⟩:=S.o v k;have H:=aa i;clear f i k;go_wp2_with fail;refine(D.o v H.o).mono ?_;rintro e w2 ⟨rfl,n⟩;have x:=aa (au H.o n);clear n;go_wp2;go_ret2;exact .bad G Ko.o rfl T.o x.o
theorem Td {w:X}{a g cap:Nat}{l:ab}(h:dV w a g cap l)(d:l≠[]){b:Nat}{s:ae}(e:w.cell? ⟨b,0,U⟩=M (V s)):b≠g:=by
 rintro rfl;cases l with
 | nil=>exact d rfl
 | cons c r =>
   have:=h.d 0 _ (jM (c::r) 0 (by simp));rw[e] at this;cases this
theorem Rt {P:Program}{c f:TypeId}(d:P.underlying c=M (.slice f)){w:X}{ao:ag}{cap n:Nat}{l:ab}(h:aB w ao cap l)(g:l.length=n):Src P 1 c (Z ao n cap) n (bA l) w:=by
 subst g;cases ao with
 | none =>
   obtain⟨rfl,rfl⟩:=h.jK;exact Src.ofNil _ d 0
 | some a =>
   refine Src.ofSlice _ d a _ cap _ (by rw[dr];omega) (fun j u b=>?_) (th l);have e:j<l.length:=by
    have:=(fe.1 b).1;rwa[dr] at this
   rw[jM l j e] at b;injection b with b;subst b;exact h.j j e
theorem E6 (x y:ae):∀u∈([V x,V y]:List Value),u.oneCell'=true:=fun u a=>by simp at a;rcases a with rfl | rfl <;> rfl
theorem E7 (W:X)(x y:ae)(t:Nat){k:Nat}(a:W.heap.size=k):∀j u,([V x,V y]:List Value)[j]? = M u->(W.alloc (K #[V x,V y] t)).cell? (Addr.add ⟨k,0,U⟩ j)=M u:=fun j u b=>by
 rw[ge,ee,World.cell?_alloc_at _ _ _ _ a.symm,mD];exact b
theorem RM {a w5:X}{x y:ae}{t:Nat}(h:Below (a.alloc (K #[V x,V y] t)).drew.heap.size (a.alloc (K #[V x,V y] t)).drew w5):∀j u,([V x,V y]:List Value)[j]? = M u->w5.cell? (Addr.add ⟨a.heap.size,0,U⟩ j)=M u:=fun j u c=>by
 have d:=E7 a x y t rfl j u c;have b:(a.alloc (K #[V x,V y] t)).drew.cell? (Addr.add ⟨a.heap.size,0,U⟩ j)=M u:=d;exact(h.cell (bY _ _ b)).trans b
theorem B5 {c W d:X}{b t:Nat}{ao:ag}{cap n:Nat}{xs:List Value}{w5:X}(f:Below c.heap.size c W)(g:aK w5 b t 2 ao cap n xs)(i:W.grownBy d (Value.slice ao n cap).ownBlock)(j:c.heap.size<=b):Below c.heap.size c d :=
 f.grown i f.size (fun q e=>by
  rw[dq] at e;cases ao with
  | none=>cases e
  | some a=>injection e with e;subst e;have:=(g.f a rfl).1;omega)
theorem C4 {w wr c:X}{bo:ag}{fZ g:Nat}{body:ab}(d:aB w bo fZ body)(h:aB wr bo fZ body)(f:am (fun k=>k=g) wr c)(j:w.heap.size<=g):aB c bo fZ body:=by
 by_cases b:body=[]
 . subst b;exact aB.kU _ h
 . refine h.y f (fun a e l=>?_);subst e;have i:=bY w _ (d.j 0 (kY.2 b));rw[oc] at i;omega
structure Ha (w:X)(gf zW:Nat)(FT:aC)(sx:ab)(bo:ag)(fZ:Nat)(body:ab)(i g cap n:Nat)(wr:X):Prop where
 b:dV wr w.heap.size g cap (sx++(FT.take i).flatMap kf)
 a:(sx++(FT.take i).flatMap kf).length=n
 d:∀p∈FT.take i,(bP p.1.data.toList p.2.data.toList).2=0
 c:bq wr (M ⟨gf,0,U⟩) zW FT.length (aI FT)
 e:aB wr bo fZ body
 below:Below w.heap.size w wr
theorem Gl (p:ae×ae)(h:p.1.size<=2000∧p.2.size<=2000):(kf p).length<=4004:=by
 have a:=C7 p.1.data.toList p.2.data.toList;have b:p.1.data.toList.length=p.1.size:=by rw[cJ];rfl
 have c:p.2.data.toList.length=p.2.size:=by rw[cJ];rfl
 unfold kf;rw[aD];simp;omega
theorem Fb:∀(l:aC),(∀p∈l,p.1.size<=2000∧p.2.size<=2000)->(l.flatMap kf).length<=4004*l.length
 | [],_=>by simp
 | p :: r, h => by
   have b:=Gl p (h p (lM ..));have c:=Fb r (fun q a=>h q (iw _ a));rw[ob,aD,bG];omega
theorem N4 (w:X)(m t c:ae)(mi ln:Int)(l:aC)(fo bo:ag)(gy nf fZ nb:Nat)(body:ab)(hl:bq w fo gy nf (aI l))(hn:l.length=nf)(hN:nf<=1000000)(hs:∀p∈l,p.1.size<=2000∧p.2.size<=2000)(hm:m.size+t.size<=10000)(hb:body.length=nb)(hBd:aB w bo fZ body)
 (hI:∀W,Below w.heap.size w W->Calls prog 141 #[I J (nb:Int)] W fun e w'=>e=Y (V c)∧Below W.heap.size W w') (hds:c.data.toList=bx 8 nb)
 (hF:oK (fj m.data.toList) (iU t.data.toList) (m.data.toList.length+t.data.toList.length+10) nb nf (aG gn l).length (aG go l).length (aG gv l).length=0) :
 Calls prog 182 #[.agg #[V m,V t,I J mi,Z fo nf gy,I J ln],Z bo nb fZ] w fun e w'=>Br w (oI m t l) body e w':=by
 subst hn;subst hb;have hl2:∀s:ae,s.data.toList.length=s.size:=fun s=>by rw[cJ];rfl
 obtain⟨hb4,h15,hT⟩:=(Ge m t l body _ rfl).2 hF;have hb0:Below w.heap.size w (w.alloc (K #[V m,V t,I J mi,Z fo l.length gy,I J ln] 82)):=(ar _ _).alloc (ak _) _;have G:Below w.heap.size w ((w.alloc (K #[V m,V t,I J mi,Z fo l.length gy,I J ln] 82)).alloc (K #[V m,V t,V ⟨#[72,84,84,80,47,49,46,49]⟩] 9)):=hb0.trans ((ar _ _).alloc hb0.size _);have HJ:=aa (C3 m t ⟨#[72,84,84,80,47,49,46,49]⟩ (w.heap.size+1) ((w.alloc (K #[V m,V t,I J mi,Z fo l.length gy,I J ln] 82)).alloc (K #[V m,V t,V ⟨#[72,84,84,80,47,49,46,49]⟩] 9)) (by rw[World.cell?_alloc_at _ _ _ _ (by simp)];rfl) (by rw[World.cell?_alloc_at _ _ _ _ (by simp)];rfl) (by rw[World.cell?_alloc_at _ _ _ _ (by simp)];rfl) (by show m.size+t.size+8<=_;omega));have hfs:(⟨(m.data.toList++32::(t.data.toList++32::(⟨#[72,84,84,80,47,49,46,49]⟩:ae).data.toList)).toArray⟩:ae).size=m.data.toList.length+t.data.toList.length+10:=by
  show(m.data.toList++32::(t.data.toList++32::[72,84,84,80,47,49,46,49])).toArray.size=_;rw[cz];simp;omega
 have hfd:(⟨(m.data.toList++32::(t.data.toList++32::(⟨#[72,84,84,80,47,49,46,49]⟩:ae).data.toList)).toArray⟩:ae).data.toList=m.data.toList++32::(t.data.toList++32::xA):=rfl;generalize (⟨(m.data.toList++32::(t.data.toList++32::(⟨#[72,84,84,80,47,49,46,49]⟩:ae).data.toList)).toArray⟩:ae)=first at HJ hfs hfd;have JQ:=aa (fun W (y:Below w.heap.size w W)=>Ec W m t first mi ln l fo bo gy l.length body.length fZ (hl.a y) rfl hN hs (by omega) (by omega));simp only[hfs] at JQ;have z:∀j,j<5->(w.alloc (K #[V m,V t,I J mi,Z fo l.length gy,I J ln] 82)).cell? ⟨w.heap.size,j,U⟩=(#[Value.string m,V t,I J mi,Z fo l.length gy,I J ln]:Array Value)[j]?:=fun j _=>World.cell?_alloc_mark w _ _ _ j;have HX:Hid (∀W,Below (w.alloc (K #[V m,V t,I J mi,Z fo l.length gy,I J ln] 82)).heap.size (w.alloc (K #[V m,V t,I J mi,Z fo l.length gy,I J ln] 82)) W->W.cell? ⟨w.heap.size,0,U⟩=M (V m)∧W.cell? ⟨w.heap.size,1,U⟩=M (V t)∧W.cell? ⟨w.heap.size,2,U⟩=M (I J mi)∧W.cell? ⟨w.heap.size,3,U⟩=M (Z fo l.length gy)∧W.cell? ⟨w.heap.size,4,U⟩=M (I J ln)):=fun W y =>
  ⟨(y.cell (p:=⟨w.heap.size,0,U⟩) (by simp)).trans (z 0 (by omega)),(y.cell (p:=⟨w.heap.size,1,U⟩) (by simp)).trans (z 1 (by omega)),(y.cell (p:=⟨w.heap.size,2,U⟩) (by simp)).trans (z 2 (by omega)),(y.cell (p:=⟨w.heap.size,3,U⟩) (by simp)).trans (z 3 (by omega)),(y.cell (p:=⟨w.heap.size,4,U⟩) (by simp)).trans (z 4 (by omega))⟩
 have HT:=aa hT;have HB1:=aa G
 rw[hF] at JQ;have hcl:=Ox body.length hb4;have hdl:c.size<=2000:=by
  have:=gx 8 body.length;rw[<-hl2,hds];omega
 have hfT:∀p∈l++[((⟨#[67,111,110,116,101,110,116,45,76,101,110,103,116,104]⟩:ae),c)],p.1.size<=2000∧p.2.size<=2000:=fun p D=>by
  rcases eC.1 D with D | D
  . exact hs p D
  . simp at D;subst D;exact⟨by show(14:Nat)<=2000;omega,hdl⟩
 have HFT:=aa hfT;have HI:=aa hI;have xC:=aa (fun W (y:Below w.heap.size w W)=>Hr l fo gy l.length W (hl.a y) rfl hN);have yH:=aa hBd;have PL:Hid (c.data.toList=bx 8 body.length∧(bP mq (bx 8 body.length)).2=0∧(bP mq (bx 8 body.length)).1=mq++[58,32]++bx 8 body.length):=⟨hds,hcl.1,hcl.2⟩;have Kq:=aa hfd;have akD:first.size<=10010:=by have:=hl2 m;have:=hl2 t;omega
 obtain⟨i0,hi0,hz0,hz1,hz2⟩:=info_parts pS;have Hi:=aa hi0;have lg:=aa hz0;have kZ:=aa hz1;have lq:=aa hz2
 obtain⟨j0,hj0,hy0,hy1,hy2⟩:=info_parts gG;have Hj:=aa hj0;have O9:=aa hy0;have Pb:=aa hy1;have Pf:=aa hy2
 clear hi0 hz0 hz1 hz2 hj0 hy0 hy1 hy2 hl hs hT hb0 G z hfs hF hl2 hcl hfT hI hds hBd hfd;go_enter func182,ntmps182;go_wp2_with fail;refine HJ.o.mono ?_;rintro e w1 ⟨rfl,hb⟩;have hB1:=HB1.o.trans (hb.mono (by simp;omega));have H:Below (w.alloc (K #[V m,V t,I J mi,Z fo l.length gy,I J ln] 82)).heap.size (w.alloc (K #[V m,V t,I J mi,Z fo l.length gy,I J ln] 82)) w1:=((ar _ _).alloc (ak _) _).trans (hb.mono (by simp));obtain⟨x0,x1,x2,x3,x4⟩:=HX.o w1 H;have Ij:=aa hB1;clear hb hB1 H;go_wp2_with fail;refine(JQ.o w1 Ij.o).mono ?_;rintro e w2 ⟨rfl,hb2⟩;have HB2:=aa (au Ij.o hb2);have x3b:=(hb2.cell (bY w1 _ x3)).trans x3;clear hb2 x0 x1 x2 x4 x3;go_wp2_with fail;refine(HI.o w2 HB2.o).mono ?_;rintro e x ⟨rfl,hb3⟩;have L:=au HB2.o hb3;have hB4:Below w.heap.size w (x.alloc (K #[V ⟨#[67,111,110,116,101,110,116,45,76,101,110,103,116,104]⟩,V c] 148)):=L.trans ((ar _ _).alloc L.size _);obtain⟨agx,f,vC,C,d⟩:=xf (P:=prog) (x.alloc (K #[V ⟨#[67,111,110,116,101,110,116,45,76,101,110,103,116,104]⟩,V c] 148)) (first++⟨#[13,10]⟩) 9 31 5 (by rw[mB];show first.size+2<=_;unfold maxLen;omega) underlying9 underlying31 underlying5;have hz4:(x.alloc (K #[V ⟨#[67,111,110,116,101,110,116,45,76,101,110,103,116,104]⟩,V c] 148)).heap.size=x.heap.size+1:=by simp
 rw[hz4] at vC C d;have H:Below w.heap.size w f:=hB4.trans (C.mono (by have:=L.size;omega));have x3c:=(hb3.cell (bY w2 _ x3b)).trans x3b;have x3d:(x.alloc (K #[V ⟨#[67,111,110,116,101,110,116,45,76,101,110,103,116,104]⟩,V c] 148)).cell? ⟨w.heap.size,3,U⟩=M (Z fo l.length gy):=(((ar _ _).alloc (ak _) _).cell (bY x _ x3c)).trans x3c;have y3:f.cell? ⟨w.heap.size,3,U⟩=M (Z fo l.length gy):=(C.cell (by have:=bY x _ x3c;simp at this ⊢;omega)).trans x3d;have y0:f.cell? ⟨x.heap.size,0,U⟩=M (V ⟨#[67,111,110,116,101,110,116,45,76,101,110,103,116,104]⟩):=(C.cell (p:=⟨x.heap.size,0,U⟩) (by simp)).trans (World.cell?_alloc_mark x _ _ _ 0);have y1:f.cell? ⟨x.heap.size,1,U⟩=M (V c):=(C.cell (p:=⟨x.heap.size,1,U⟩) (by simp)).trans (World.cell?_alloc_mark x _ _ _ 1);have hdt:(first++⟨#[13,10]⟩:ae).data.toList=first.data.toList++[13,10]:=by rw[ma]
 have hsz:(first++⟨#[13,10]⟩:ae).size=first.size+2:=by rw[mB];rfl
 have hwz:w.heap.size<=x.heap.size+1:=by have:=L.size;omega
 rw[hdt] at d;rw[hsz] at vC;have aja:Hid (dV f w.heap.size (x.heap.size+1) agx (first.data.toList++[13,10])):=⟨hwz,d.b,d.e,d.f,d.d,d.a⟩;have xO:=aa H;have oW:Hid (∀W,Below f.heap.size f W->W.cell? ⟨w.heap.size,3,U⟩=M (Z fo l.length gy)∧W.cell? ⟨x.heap.size,0,U⟩=M (V ⟨#[67,111,110,116,101,110,116,45,76,101,110,103,116,104]⟩)∧W.cell? ⟨x.heap.size,1,U⟩=M (V c)):=fun W y =>
  ⟨(y.cell (bY f _ y3)).trans y3,(y.cell (bY f _ y0)).trans y0,(y.cell (bY f _ y1)).trans y1⟩
 clear hb3 L hB4 C d hz4 H x3b x3c x3d hdt hsz hwz;go_upto_region 7 with fail
 go_cut [39,40,41] (fun v39 v40 v41 wd=>∃gf zW,v39=Z (M ⟨gf,0,U⟩) (l.length+1) zW∧v40=I J ((l.length:Int)+1)∧v41=I J 0∧aK wd 0 148 2 (M ⟨gf,0,U⟩) zW (l.length+1) (aI (l++[((⟨#[67,111,110,116,101,110,116,45,76,101,110,103,116,104]⟩:ae),c)]))∧Below f.heap.size f wd)
 case first =>
  have d1:Below w.heap.size w f.drew:=xO.o.trans (bj _ _);have d2:Below w.heap.size w (f.alloc (K #[V ⟨#[67,111,110,116,101,110,116,45,76,101,110,103,116,104]⟩,V c] 148)).drew:=(xO.o.trans ((ar _ _).alloc xO.o.size _)).trans (bj _ _);have Ui:Hid (Below f.heap.size f f.drew):=bj _ _;have Uj:Hid (Below f.heap.size f (f.alloc (K #[V ⟨#[67,111,110,116,101,110,116,45,76,101,110,103,116,104]⟩,V c] 148)).drew):=((ar _ _).alloc (ak _) _).trans (bj _ _);have Mc:Hid (l.length+1<=maxLen∧(l.length+1)*32<=140737488355328):=⟨by unfold maxLen;omega,by omega⟩;have HD1:=aa d1;have HD2:=aa d2
  clear d1 d2;go_region_held_law (fun w'=>w'.cell? ⟨w.heap.size,3,U⟩=M (Z fo l.length gy)∧w'.cell? ⟨x.heap.size,0,U⟩=M (V ⟨#[67,111,110,116,101,110,116,45,76,101,110,103,116,104]⟩)∧w'.cell? ⟨x.heap.size,1,U⟩=M (V c)) (first | go_keep | exact HK6.o | exact HK5.o | exact HKA.o) (first
   | (refine step_append_lies _ (by rfl) _ _ _ (by rfl) 0 148 i0 (.agg #[V ⟨#[]⟩,V ⟨#[]⟩]) 2 32 underlying80 Hi.o lg.o kZ.o lq.o (by rfl) (by decide) (Z zU l.length N) l.length (aI l) (by rfl) ((zL.o.r (ax _)).G _) ⟨w5.heap.size,0,U⟩ 1 1 [V ⟨#[67,111,110,116,101,110,116,45,76,101,110,103,116,104]⟩,V c] (by rfl) (by rfl) (E7 _ _ _ _ rfl) (E6 _ _) (by decide) Mc.o.1 Mc.o.2 (ax _) (w5.heap.size+1) (by simp) ?_;intro g6 cap6 w6 u v vH Pg;have ZK:=aa u;have T:=aa (B5 (oC.o.trans ((ar _ _).alloc oC.o.size _)) zL.o v HZ5.o);have HK6:=aa (oW.o w6 T.o);clear u v vH Pg;(try simp only[Act.put,List.getElem_toArray,List.getElem_cons_succ,List.getElem_cons_zero,List.setIfInBounds_toArray,oP,List.set_cons_succ]))
   | (refine step_append_lies _ (by rfl) _ _ _ (by rfl) 0 148 i0 (.agg #[V ⟨#[]⟩,V ⟨#[]⟩]) 2 32 underlying80 Hi.o lg.o kZ.o lq.o (by rfl) (by decide) (Z zU l.length N) l.length (aI l) (by rfl) (zL.o.r (ax _)) ⟨f.heap.size,0,U⟩ 1 1 [V ⟨#[67,111,110,116,101,110,116,45,76,101,110,103,116,104]⟩,V c] (by rfl) (by rfl) HNB.o (E6 _ _) (by decide) Mc.o.1 Mc.o.2 (ax _) w5.heap.size (by rfl) ?_;intro g6 cap6 w6 u v vH Pg;have ZK:=aa u;have T:=aa (B5 (oC.o) zL.o v HZ5.o);have HK6:=aa (oW.o w6 T.o);clear u v vH Pg;(try simp only[Act.put,List.getElem_toArray,List.getElem_cons_succ,List.getElem_cons_zero,List.setIfInBounds_toArray,oP,List.set_cons_succ]))
   | (go_at_call 228;refine(xC.o _ HD2.o).mono ?_;rintro e w5 ⟨zU,N,rfl,xW,Cu⟩;have zL:=aa xW;have oC:=aa (Uj.o.trans (Cu.mono (by simp)));have HZ5:Hid (f.heap.size<=(f.alloc (K #[V ⟨#[67,111,110,116,101,110,116,45,76,101,110,103,116,104]⟩,V c] 148)).drew.heap.size):=Uj.o.size;have HK5:=aa (oW.o w5 oC.o);have HNB:=aa (RM Cu);clear xW Cu)
   | (go_at_call 228;refine(xC.o _ HD1.o).mono ?_;rintro e w5 ⟨zU,N,rfl,xW,Cu⟩;have zL:=aa xW;have oC:=aa (Ui.o.trans (Cu.mono (ak _)));have HZ5:Hid (f.heap.size<=f.drew.heap.size):=Ui.o.size;have HK5:=aa (oW.o w5 oC.o);have HKA:=aa (oW.o _ (oC.o.trans ((ar _ w5).alloc oC.o.size (K #[V ⟨#[67,111,110,116,101,110,116,45,76,101,110,103,116,104]⟩,V c] 148))));clear xW Cu))
  all_goals (go_wp2;go_meet;exact⟨g6,cap6,rfl,rfl,rfl,by rw[yg];exact ZK.o,T.o⟩)
 case rest =>
  obtain⟨gf,zW,rfl,rfl,rfl,E8,X5⟩:=hcut;have hfl:(l++[((⟨#[67,111,110,116,101,110,116,45,76,101,110,103,116,104]⟩:ae),c)]).length=l.length+1:=by simp
  have hfz:first.data.toList.length=first.size:=by rw[cJ];rfl
  have hR0:Ha w gf zW (l++[((⟨#[67,111,110,116,101,110,116,45,76,101,110,103,116,104]⟩:ae),c)]) (first.data.toList++[13,10]) bo fZ body 0 (x.heap.size+1) agx (first.size+2) wc :=
   ⟨by simpa using aja.o.j X5,by simp[hfz],fun p D=>by simp at D,by rw[hfl];exact E8.a,yH.o.a (xO.o.trans (X5.mono xO.o.size)),xO.o.trans (X5.mono xO.o.size)⟩
  have Dy:=aa hR0;have QF:=aa hfl;obtain⟨b,hFT⟩:∃b,l++[((⟨#[67,111,110,116,101,110,116,45,76,101,110,103,116,104]⟩:ae),c)]=b:=⟨_,rfl⟩;rw[hFT] at Dy QF HFT;have Wd:=aa hFT;clear hR0 E8 X5 oW xO y0 y1 y3 vC hfl xC HI JQ HX HJ hFT;go_wp2;go_loopw [9,41] (fun vo vi wr=>∃(i n g cap:Nat),i<=l.length+1∧vi=I J i∧vo=Z (M ⟨g,0,U⟩) n cap∧Ha w gf zW b (first.data.toList++[13,10]) bo fZ body i g cap n wr) (fun _ vi _=>l.length+1-(intOf vi).toNat)
  case atStart=>exact⟨0,_,_,_,ax _,rfl,rfl,Dy.o⟩
  case round =>
   obtain⟨i,n,g,cap,hi,rfl,rfl,hR⟩:=hrel;have r:=aa hR;have hacc:=Fb (b.take i) (fun p D=>HFT.o p (List.mem_of_mem_take D));have hnl:n<=200000:=by
    have:=hR.a;rw[aD,aD] at this;have h2:(b.take i).length<=16:=by rw[bU,QF.o];omega
    have h3:([13,10]:ab).length=2:=rfl;rw[h3,hfz] at this;omega
   clear hR Dy hacc;by_cases hlt:i<l.length+1
   . have hlt':(i:Int)<(l.length:Int)+1:=by omega
     have V3:i<b.length:=by rw[QF.o];exact hlt
     have hp1:=r.o.c.y (om b i V3).1;have hp2:=r.o.c.y (om b i V3).2;rw[ge,ee] at hp1 hp2;have hfc:=r.o.c.1;rw[QF.o] at hfc;have hps:=HFT.o b[i] (fb V3);have htk:b.take (i+1)=b.take i++[b[i]]:=fR V3;have hbad:(bP b[i].1.data.toList b[i].2.data.toList).2≠0->iq (gU l)=.inl (bP b[i].1.data.toList b[i].2.data.toList).2:=fun hc=>by
      have hil:i<l.length:=by
       rcases eN i l.length with h | h
       . exact h
       . exfalso;obtain rfl:i=l.length:=by omega
         have e:b[l.length]=((⟨#[67,111,110,116,101,110,116,45,76,101,110,103,116,104]⟩:ae),c):=by simp only[<-Wd.o];simp
         rw[e] at hc;obtain⟨e1,e2,e3⟩:=PL.o;rw[e1] at hc;exact hc e2
      have e:b[i]=l[i]:=by simp only[<-Wd.o];exact List.getElem_append_left hil
      have ht:b.take i=l.take i:=by rw[<-Wd.o,List.take_append_of_le_length (by omega)]
      have hz:=r.o.d;rw[ht] at hz;rw[e] at hc ⊢;exact F2 l i hil hz hc
     have E9:=aa hbad;have sQ:=aa htk
     generalize b[i]=p at *;have G:Below wr.heap.size wr (wr.alloc (K #[V p.1,V p.2] 148)):=(ar _ _).alloc (ak _) _;have AU:=aa (EJ p.1 p.2 (wr.alloc (K #[V p.1,V p.2] 148)) (by have:=hps.1;omega) (by have:=hps.2;omega));have hll:=Gl p hps;have X7:Hid (kf p=(bP p.1.data.toList p.2.data.toList).1++[13,10]):=rfl;have Gm:=aa G;unfold lU at AU;generalize hcd:(bP p.1.data.toList p.2.data.toList).2=cd at *;generalize (bP p.1.data.toList p.2.data.toList).1=tx at *;have HCd:=aa hcd;clear hbad htk hps G V3 hcd;by_cases hc0:cd=0
     . subst hc0;have hxz:((⟨tx.toArray⟩:ae)++⟨#[13,10]⟩:ae).size=tx.length+2:=by rw[mB];rfl
       have hxd:((⟨tx.toArray⟩:ae)++⟨#[13,10]⟩:ae).data.toList=tx++[13,10]:=by rw[ma]
       have hxl:tx.length+2<=4004:=by
        have:=X7.o;rw[this,aD] at hll;simpa using hll
       have HXz:=aa hxz;have HXd:=aa hxd
       clear hxz hxd hll;go_wp2_with fail;refine AU.o.mono ?_;rintro e w5 ⟨rfl,S⟩;have hb6:=Gm.o.trans (S.mono (by simp));have T:=aa hb6;have HU:=aa (r.o.b.j hb6);clear S hb6;go_wp2_with (at_builtin;refine By rfl (.tmp 53) (.tmp 55) 31 9 rfl 5 j0 underlying31 Hj.o O9.o Pb.o Pf.o rfl HU.o r.o.a _ _ rfl (vU underlying9 _ _) (by rw[HXz.o];omega) ?_;intro g7 Gn w7 X8 Fa;have HU7:=aa X8;have YD:=aa Fa;clear X8 Fa)
       go_roundw
       case rel =>
        have hne:first.data.toList++[13,10]++(b.take i).flatMap kf≠[]:=by simp
        have acz:=r.o.c.a T.o;have hgf:gf≠g:=by
         have h0:0<(aI b).length:=by rw[sO,QF.o];omega
         have hc:=acz.y (om b 0 (by rw[QF.o];omega)).1;rw[ge] at hc;exact Td HU.o hne (by simpa using hc)
        have hlc:first.data.toList++[13,10]++(b.take i).flatMap kf++((⟨tx.toArray⟩:ae)++⟨#[13,10]⟩:ae).data.toList=first.data.toList++[13,10]++(b.take (i+1)).flatMap kf:=by
         rw[sQ.o,List.flatMap_append,HXd.o,iY];congr 2;simp[X7.o]
        refine⟨i+1,_,g7,Gn,by omega,by go_num,rfl,⟨by rw[<-hlc];exact HU7.o,?_,?_,acz.B YD.o (fun a e=>by injection e with e;subst e;exact hgf),?_,?_⟩⟩
        . rw[<-hlc,aD,r.o.a,HXd.o];simp
        . intro q hq;rw[sQ.o] at hq;rcases eC.1 hq with hq | hq
          . exact r.o.d q hq
          . simp at hq;subst hq;exact HCd.o
        . exact C4 yH.o (r.o.e.a T.o) YD.o HU.o.c
        . have h1:=r.o.below.trans (T.o.mono r.o.below.size);have h2:=YD.o.below (B:=w.heap.size) (fun k e=>by rw[e];exact HU.o.c) h1.size;exact h1.trans h2
       case measure=>simp[intOf];omega
     . have tc:((cd:Int) != 0)=true:=by rw[di];omega
       have HLb:=aa (E9.o hc0);have Ph:=aa hc0
       clear hc0 hll;go_wp2_with fail;refine AU.o.mono ?_;rintro e w5 ⟨rfl,S⟩;have T:=aa (Gm.o.trans (S.mono (by simp)));clear S;go_wp2;(try simp only[Exit.inBlock,Exit.then]);go_ret2;refine .bad cd Ph.o rfl ?_ (r.o.below.trans (T.o.mono r.o.below.size));rw[HT.o,HLb.o]
   . obtain rfl:i=l.length+1:=by omega
     have hXe:jp (oI m t l) body=(first.data.toList++[13,10]++(b.take (l.length+1)).flatMap kf++[13,10]++body,0):=by
      have htl:b.take (l.length+1)=b:=by rw[gF];rw[QF.o];omega
      have hz:=r.o.d;rw[htl] at hz;have hlz:=FZ l (fun p D=>hz p (by rw[<-Wd.o];exact qT _ D));obtain⟨e1,e2,e3⟩:=PL.o;rw[HT.o,hlz,htl];simp only;rw[<-Wd.o,List.flatMap_append,Kq.o];have e4:[((⟨#[67,111,110,116,101,110,116,45,76,101,110,103,116,104]⟩:ae),c)].flatMap kf=mq++[58,32]++bx 8 body.length++[13,10]:=by
       have:kf ((⟨#[67,111,110,116,101,110,116,45,76,101,110,103,116,104]⟩:ae),c)=(bP mq c.data.toList).1++[13,10]:=rfl;rw[ob,this,e1,e3];simp
      rw[e4];simp
     have HXe:=aa hXe;clear hXe;go_wp2_with (first
      | (at_builtin;refine By rfl (.tmp 58) (.const (V ⟨#[13,10]⟩)) 31 9 rfl 5 j0 underlying31 Hj.o O9.o Pb.o Pf.o rfl r.o.b r.o.a _ _ rfl (vU underlying9 _ _) (by show n+2<=_;omega) ?_;intro g7 Gn w7 X8 Fa;have HU7:=aa X8;have YD:=aa Fa;have adi:=aa (C4 yH.o r.o.e Fa r.o.b.c);clear X8 Fa)
      | (at_builtin;refine By rfl (.tmp 60) (.tmp 61) 31 31 rfl 5 j0 underlying31 Hj.o O9.o Pb.o Pf.o rfl HU7.o (by rw[aD,r.o.a];rfl) _ _ rfl (Rt underlying31 adi.o rfl) (by omega) ?_;intro g8 adj w8 hU8 hT8;have HU8:=aa hU8;have HT8:=aa hT8;clear hU8 hT8))
     go_ret2;have h7:=r.o.below.trans (YD.o.below (B:=w.heap.size) (fun k e=>by rw[e];exact r.o.b.c) r.o.below.size);have h8:=h7.trans (HT8.o.below (B:=w.heap.size) (fun k e=>by rw[e];exact HU7.o.c) h7.size);refine .ok g8 adj _ rfl ?_ (by rw[HXe.o]) (by rw[HXe.o];exact HU8.o) h8;rw[HXe.o];show _=(first.data.toList++[13,10]++(b.take (l.length+1)).flatMap kf++[13,10]++body).length;rw[aD,aD,r.o.a];rfl
theorem KF {P:Program}{w:X}{z:Array Oper}{o:Oper}{a:Act}{q:Act->X->Prop}{aam:Exit->Act->X->Prop}{E:Prop}(B:o.guard=U)(s x:Operand)(t:TypeId)
 (T:o.op=.call { callee:=.builtin .append,args:=#[s,x],argTypes:=#[t,t] })
 (b:Nat) (e:TypeId) (i:TypeInfo) (W:P.underlying t=M (.slice e)) (hi:P.info? e=M i) (hz:i.zero=M (I .u8 0)) (C:i.size=1) (D:i.bytes=1)
 {ao:ag} {cap n:Nat} {l:ab} (hs:a.eval s=Z ao n cap) (hn:l.length=n) (r:bl w b e ao cap l)
 {H:ag} {d v:Nat} {l2:ab} (hx:a.eval x=Z H v d) (G:l2.length=v) (k:aB w H d l2) (m:0<v)
 (L:n+v<=140737488355328) (p:b<=w.heap.size)
 (h:∀gL c w',bl w' b e gL c (l++l2)->w.grownBy w' (aw ao)->q (a.put o.dst (Z gL (n+v) c)) w') :
 if Region.wanted o (yielded z a.tmps)=true then Oper.wp P o a w q aam else E:=by
 subst hn;subst G;obtain⟨ad,rfl⟩:=k.oF m;refine step_append_lies w B s x t T b e i (I .u8 0) 1 1 W hi hz C D rfl (by decide) _ l.length (bA l) hs r ad l2.length d (bA l2) hx (by rw[dr];omega) (fun j u y=>?_) (th l2) m (by unfold maxLen;omega) (by omega) p w.heap.size rfl ?_
 . have N:j<l2.length:=by
    have:=(fe.1 y).1;rwa[dr] at this
   rw[jM l2 j N] at y;injection y with y;subst y;exact k.j j N
 . intro g c w' f S _ _;rw[<-oQ] at f;rw[dq] at S;refine h _ c w' ?_ S;unfold bl;rw[aD];exact f
theorem I3 (b:UInt8):∃a d f i j k:Bool,(((b.toNat:Int)==13)=a∧((b.toNat:Int)==10)=d∧((b.toNat:Int)==92)=f∧((b.toNat:Int)==9)=i∧decide ((126:Int)<(b.toNat:Int))=j∧er b.toNat=k)∧(a=true->fp b=[92,114])∧(a=F->d=true->fp b=[92,110])∧(a=F->d=F->f=true->fp b=[92,92])∧(a=F->d=F->f=F->(i=true∨j=true∨k=F)->fp b=[92,120,nF.getD (b.toNat / 16) 0,nF.getD (b.toNat % 16) 0])∧(a=F->d=F->f=F->i=F->j=F->k=true->fp b=[b]):=by
 refine⟨_,_,_,_,_,_,⟨rfl,rfl,rfl,rfl,rfl,rfl⟩,?_,?_,?_,?_,?_⟩;all_goals simp only[bR,cC,cR,aQ,ne_eq,er]
 all_goals unfold fp
 . intro h;rw[if_pos (lN.1 (by show b.toNat=13;omega))]
 . intro h c;rw[if_neg (fun e=>h (by subst e;rfl)),if_pos (lN.1 (by show b.toNat=10;omega))]
 . intro h c g;rw[if_neg (fun e=>h (by subst e;rfl)),if_neg (fun e=>c (by subst e;rfl)),if_pos (lN.1 (by show b.toNat=92;omega))]
 . intro h c g l;rw[if_neg (fun e=>h (by subst e;rfl)),if_neg (fun e=>c (by subst e;rfl)),if_neg (fun e=>g (by subst e;rfl)),if_pos];simp at l;omega
 . intro h c g l n m;rw[if_neg (fun e=>h (by subst e;rfl)),if_neg (fun e=>c (by subst e;rfl)),if_neg (fun e=>g (by subst e;rfl)),if_neg];simp at m;omega
theorem IZ {l:ab}{k:Nat}(h:k<l.length){x:ab}(a:fp l[k]=x):dP (l.take (k+1))=dP (l.take k)++x:=by
 rw[fR h,IG,a]
theorem Cp {p:Nat}(h:p<16):(⟨#[48,49,50,51,52,53,54,55,56,57,97,98,99,100,101,102]⟩:ae)[p]'h=nF.getD p 0 :=
 (show ∀j:Fin 16,(⟨#[48,49,50,51,52,53,54,55,56,57,97,98,99,100,101,102]⟩:ae)[j.val]'j.isLt=nF.getD j.val 0 by decide) ⟨p,h⟩
theorem IY (W:X)(a b c d:UInt8)(t:Nat)(f:Nat×Nat):aB (W.alloc (K #[I .u8 (a.toNat:Int),I .u8 (b.toNat:Int),I .u8 (c.toNat:Int),I .u8 (d.toNat:Int)] t f)) (M ⟨W.heap.size,0,U⟩) 4 [a,b,c,d]:=by
 refine⟨ak _,(fun e=>by cases e),fun j g=>⟨_,rfl,?_⟩⟩;refine(bq.j W #[I .u8 (a.toNat:Int),I .u8 (b.toNat:Int),I .u8 (c.toNat:Int),I .u8 (d.toNat:Int)] 4 t f).y ?_;exact jM [a,b,c,d] j g
theorem yL (w:X)(l:ab)(ao:ag)(cap n:Nat)(hl:aB w ao cap l)(hn:l.length=n)(hN:n<=1000000000):
 Calls prog 41 #[Z ao n cap] w fun e w'=>e=Y (V ⟨(dP l).toArray⟩)∧Below w.heap.size w w':=by
 obtain⟨H,L,N,S,T⟩:=info_parts gG;have Hi:=aa L;have lg:=aa N;have kZ:=aa S;have lq:=aa T
 have s:=pd;clear L N S T;go_enter func41,ntmps41;go_wp2;go_loopw [3,8] (fun v3 v8 wr=>∃(k:Nat) (bo:ag) (fZ m:Nat),k<=n∧v8=I J k∧v3=Z bo m fZ∧(dP (l.take k)).length=m∧bl wr w.heap.size 5 bo fZ (dP (l.take k))∧Below w.heap.size w wr) (fun _ v _=>n-(intOf v).toNat)
 case atStart=>exact⟨0,U,0,0,ax _,rfl,rfl,rfl,bl.y _ _ _,ar _ _⟩
 case round =>
  obtain⟨k,bo,fZ,m,hk,rfl,rfl,hm,hO,hb⟩:=hrel;have hm4:=s (l.take k);rw[hm,bU] at hm4;have hm5:m<=4000000000:=by omega
  by_cases hlt:k<n
  . have hkl:k<l.length:=by omega
    obtain⟨t1,t2,t3,y,t5,t6,⟨e1,e2,e3,e4,e5,e6⟩,z,B,C,D,G⟩:=I3 l[k];have hnx:=fun x (a:fp l[k]=x)=>IZ hkl a;have hlt':(k:Int)<n:=by omega
    have t:=hl.a hb;obtain⟨b,o,hao,hc⟩:=t.r (by omega);have c0:=hc k hkl;have HV:=fun W=>vF (l[k].toNat:Int) W;have j:=aa hO;have d:=aa hb;have Gq:=aa hnx;have r:=aa hm
    have hcap:=t.1;clear hc t hO hb hnx hl hm s;subst hao;generalize l[k]=c at *;cases t1 with
    | true =>
      have a:=Gq.o _ (z rfl);clear z B C D G;go_wp2_with (at_builtin;refine BB rfl (.tmp 19) (.const (V ⟨#[92,114]⟩)) 31 9 rfl w.heap.size 5 H underlying31 underlying9 Hi.o lg.o kZ.o lq.o rfl r.o j.o ⟨#[92,114]⟩ rfl (by show _+2<=_;omega) d.o.size ?_;intro u f w2 g i)
      go_roundw
      case rel=>exact⟨k+1,u,f,m+2,by omega,by go_num,rfl,by rw[a,aD,r.o];rfl,by rw[a];exact g,d.o.trans (oi j.o i d.o.size)⟩
      case measure=>simp[intOf];omega
    | false =>
      cases t2 with
      | true =>
        have a:=Gq.o _ (B rfl rfl);clear z B C D G;go_wp2_with (at_builtin;refine BB rfl (.tmp 24) (.const (V ⟨#[92,110]⟩)) 31 9 rfl w.heap.size 5 H underlying31 underlying9 Hi.o lg.o kZ.o lq.o rfl r.o j.o ⟨#[92,110]⟩ rfl (by show _+2<=_;omega) d.o.size ?_;intro u f w2 g i)
        go_roundw
        case rel=>exact⟨k+1,u,f,m+2,by omega,by go_num,rfl,by rw[a,aD,r.o];rfl,by rw[a];exact g,d.o.trans (oi j.o i d.o.size)⟩
        case measure=>simp[intOf];omega
      | false =>
        cases t3 with
        | true =>
          have a:=Gq.o _ (C rfl rfl rfl);clear z B C D G;go_wp2_with (at_builtin;refine BB rfl (.tmp 29) (.const (V ⟨#[92,92]⟩)) 31 9 rfl w.heap.size 5 H underlying31 underlying9 Hi.o lg.o kZ.o lq.o rfl r.o j.o ⟨#[92,92]⟩ rfl (by show _+2<=_;omega) d.o.size ?_;intro u f w2 g i)
          go_roundw
          case rel=>exact⟨k+1,u,f,m+2,by omega,by go_num,rfl,by rw[a,aD,r.o];rfl,by rw[a];exact g,d.o.trans (oi j.o i d.o.size)⟩
          case measure=>simp[intOf];omega
        | false =>
          cases hv:(y||t5||!t6) with
          | false =>
            simp only[Bool.or_eq_false_iff,Bool.not_eq_false'] at hv;obtain⟨⟨rfl,rfl⟩,rfl⟩:=hv;have a:=Gq.o _ (G rfl rfl rfl rfl rfl rfl);clear z B C D G;rw[e6] at HV;go_wp2_with first
             | (refine(HV _).mono ?_;rintro e w1 ⟨rfl,rfl⟩)
             | (at_builtin;refine oe rfl (.tmp 12) (.tmp 14) 31 rfl w.heap.size 5 H underlying31 Hi.o lg.o kZ.o lq.o (l2:=[c]) rfl r.o (j.o.r _) rfl rfl (aB.B _ _ _ _) (by omega) (by rw[bF];have:=d.o.size;omega) ?_;intro u f w2 g i)
            go_roundw
            case rel=>exact⟨k+1,u,f,m+1,by omega,by go_num,rfl,by rw[a,aD,r.o];rfl,by rw[a];exact g,(au d.o ((ar _ _).alloc (ak _) _)).trans (oi (j.o.r _) i (by rw[bF];have:=d.o.size;omega))⟩
            case measure=>simp[intOf];omega
          | true =>
            have a:=Gq.o _ (D rfl rfl rfl (by cases y <;> cases t5 <;> cases t6 <;> simp at hv ⊢));clear z B C D G;have hv3:y=true∨(y=F∧t5=true)∨(y=F∧t5=F∧t6=F):=by cases y <;> cases t5 <;> cases t6 <;> simp at hv ⊢
            have hc8:=c.toNat_lt;have ha:bits .and .u8 (c.toNat:Int) 15=((c.toNat % 16:Nat):Int):=by
             rw[show(15:Int)=((15:Nat):Int) from rfl,u8_and_nat _ _ hc8 (by decide)];exact lL Int.ofNat (Nat.and_two_pow_sub_one_eq_mod c.toNat 4)
            have hs0:(c.toNat:Int) / 16=((c.toNat / 16:Nat):Int):=by omega
            have g1:c.toNat / 16<16:=by omega
            have g2:c.toNat % 16<16:=by omega
            generalize c.toNat / 16=p at *;generalize c.toNat % 16=q at *;rcases hv3 with rfl | ⟨rfl,rfl⟩ | ⟨rfl,rfl,rfl⟩;all_goals
             try rw[e6] at HV
             clear hv;go_upto_region 15 with (go_at_call 90;refine(HV _).mono ?_;rintro e w1 ⟨rfl,rfl⟩)
             go_region_held_law (fun _=>True) (trivial) (first
              | (refine KF (by rfl) (.tmp 39) (.tmp 46) 31 (by rfl) w.heap.size 5 H underlying31 Hi.o lg.o kZ.o lq.o (by rfl) r.o ((j.o.r _).G (bj _ _)) (by rfl) (by rfl) ((IY _ 92 120 _ _ _ _).a (bj _ _)) (by decide) (by omega) (by have:=d.o.size;show _<=(World.alloc _ _).heap.size;rw[bF];omega) ?_;intro lS iy w3 hO3 hG3;have sP:=aa hO3;have yE:=aa hG3;clear hO3 hG3;(try simp only[Act.put,List.getElem_toArray,List.getElem_cons_succ,List.getElem_cons_zero,List.setIfInBounds_toArray,oP,List.set_cons_succ])))
             all_goals
              go_wp2;refine⟨⟨k+1,lS,iy,m+4,by omega,by go_num,rfl,by rw[a,aD,r.o];rfl,by rw[a,<-Cp g1,<-Cp g2];exact sP.o,(au d.o (au ((ar _ _).alloc (ak _) _) (bj _ _))).trans (oi ((j.o.r _).G (bj _ _)) yE.o (by have:=d.o.size;show _<=(World.alloc _ _).heap.size;rw[bF];omega))⟩,?_⟩;simp[intOf];omega
  . obtain rfl:k=n:=by omega
    rw[gF (by omega)] at hm hO;subst hm;have HC:=hO.f.H (P:=prog) 31 9 5 underlying31 underlying5 underlying9;go_wp2;go_ret;exact⟨rfl,hb⟩
