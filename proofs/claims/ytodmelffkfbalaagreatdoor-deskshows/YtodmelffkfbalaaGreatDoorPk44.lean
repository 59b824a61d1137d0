import Derived.Test.YtodmelffkfbalaaGreatDoorPk37
import Derived.Test.YtodmelffkfbalaaGreatDoorPk34
import Derived.Deep.RegionHeldLaw
import Derived.Deep.DeepCutAuto
open Go.Value renaming int->I,string->V,slice->Z
open Go.IntKind renaming i64->J
open Go.Obj renaming cells->K
open Option renaming none->U,some->M
open Or renaming inl->A,inr->R
open Go renaming World->X
set_option maxHeartbeats 4000000
set_option maxRecDepth 100000
open Go.Proofs.Tryz
namespace Go.Proofs.YtodmelffkfbalaaGreatDoor
open Go.RowKit
def ki (p:ae×ae):ab:=(bO p.1.data.toList p.2.data.toList).1++[13,10]
theorem F5:∀l:aC,(∀p∈l,(bO p.1.data.toList p.2.data.toList).2=0)->iq (gU l)=.inr (l.flatMap ki)
 | [],_=>rfl
 | p :: r, h => by
   have a:=F5 r (fun q b=>h q (iN _ b));show iq ((p.1.data.toList,p.2.data.toList)::gU r)=_;rw[iq,if_neg (fun e=>e (h p (lO ..))),a];simp[ki]
theorem F8:∀(l:aC) (i:Nat) (b:i<l.length),(∀p∈l.take i,(bO p.1.data.toList p.2.data.toList).2=0)->(bO l[i].1.data.toList l[i].2.data.toList).2≠0->iq (gU l)=.inl (bO l[i].1.data.toList l[i].2.data.toList).2
 | p :: r, 0, _, _, hc => by
   show iq ((p.1.data.toList,p.2.data.toList)::gU r)=_;have a:(bO p.1.data.toList p.2.data.toList).2≠0:=hc;rw[iq,if_pos a];rfl
 | p :: r, i + 1, b, h, hc => by
   have c:=F8 r i (by simpa using b) (fun q d=>h q (by rw[List.take_succ_cons];exact iN _ d)) hc;show iq ((p.1.data.toList,p.2.data.toList)::gU r)=_;rw[iq,if_neg (fun e=>e (h p (by rw[List.take_succ_cons];exact lO ..))),c];rfl
theorem F9 (l:ab):iV l=false<->(l.head?≠M 47∨32∈l∨9∈l∨dP l=false):=by
 have a:na l=true<->32∈l∨9∈l:=by
  unfold na;rw[List.any_eq_true];constructor
  . rintro ⟨b,a,e⟩;simp at e;rcases e with e | e
    . exact A (e▸a)
    . exact R (e▸a)
  . rintro (h | h)
    . exact⟨32,h,rfl⟩
    . exact⟨9,h,rfl⟩
 unfold iV;rw[pT,pT,cz,Bool.not_eq_false',a];constructor
 . rintro (h | (h | h) | h)
   . exact A h
   . exact R (A h)
   . exact R (R (A h))
   . exact R (R (R h))
 . rintro (h | h | h | h)
   . exact A h
   . exact R (A (A h))
   . exact R (A (R h))
   . exact R (R h)
theorem Gj (m t:ae)(l:aC)(body:ab)(f:Nat)(a:f=oR (fi m.data.toList) (iV t.data.toList) (m.data.toList.length+t.data.toList.length+10) body.length l.length (aH gw l).length (aH gx l).length (aH gv l).length):
 (f ≠ 0 -> jp (oP m t l) body = ([], f)) ∧ (f = 0 -> body.length <= 4000 ∧ l.length <= 15 ∧ jp (oP m t l) body = match iq (gU l) with
  | .inl c=>([],c)
  | .inr s=>(m.data.toList++32::(t.data.toList++32::(xx++13::10::(s++(mq++[58,32]++bw 8 body.length++13::10::13::10::body)))),0)):=by
 have ev:∀(b:ae),aY b.data.toList=b.data.toList->ef (gU l) b.data.toList=bU (aH b l):=fun b r=>AX l b r;have u:ef (gU l) qE=bU (aH gv l):=ev gv (by decide);have w:ef (gU l) pG=bU (aH gw l):=ev gw (by decide);have x:ef (gU l) pH=bU (aH gx l):=ev gx (by decide);have d:∀v:List ae,bU v≠[]<->0<v.length:=fun v=>by
  have:(bU v).length=v.length:=by simp[bU]
  rw[<-this];exact List.length_pos_iff.symm
 have o:(gU l).length=l.length:=by simp[gU]
 unfold jp oP;simp only[u,w,x,o];unfold oR at a;by_cases g:fi m.data.toList=false
 . rw[if_pos g] at a;rw[if_pos g];subst a;exact⟨fun _=>rfl,fun e=>by omega⟩
 rw[if_neg g] at a;rw[if_neg g];by_cases i:iV t.data.toList=false
 . rw[if_pos i] at a;rw[if_pos ((F9 _).1 i)];subst a;exact⟨fun _=>rfl,fun e=>by omega⟩
 rw[if_neg i] at a;rw[if_neg (fun e=>i ((F9 _).2 e))];by_cases j:200<m.data.toList.length+t.data.toList.length+10∨4000<body.length
 . rw[if_pos j] at a;rw[if_pos j];subst a;exact⟨fun _=>rfl,fun e=>by omega⟩
 rw[if_neg j] at a;rw[if_neg j];by_cases q:15<l.length
 . rw[if_pos q] at a;rw[if_pos (by omega)];subst a;exact⟨fun _=>rfl,fun e=>by omega⟩
 rw[if_neg q] at a;rw[if_neg (by omega)];by_cases k:0<(aH gw l).length∨0<(aH gx l).length
 . rw[if_pos k] at a;rw[if_pos (by rcases k with h | h;exact A ((d _).2 h);exact R ((d _).2 h))];subst a;exact⟨fun _=>rfl,fun e=>by omega⟩
 rw[if_neg k] at a;rw[if_neg (fun e=>k (by rcases e with e | e;exact A ((d _).1 e);exact R ((d _).1 e)))];have p:(bU (aH gv l)).length=(aH gv l).length:=by simp[bU]
 rw[p];by_cases n:(aH gv l).length≠1
 . rw[if_pos n] at a;rw[if_pos n];subst a;exact⟨fun _=>rfl,fun e=>by omega⟩
 rw[if_neg n] at a;rw[if_neg n];subst a;refine⟨fun e=>absurd rfl e,fun _=>⟨by omega,by omega,?_⟩⟩;cases iq (gU l) <;> rfl
inductive Br (w:X)(h:df)(body:ab)(e:Ending)(w':X):Prop
 | bad (c:Nat) (hc:c≠0) (he:e=.returned (.tuple #[Z U 0 0,I J (c:Int)])) (ht:jp h body=([],c)) (hB:Below w.heap.size w w')
 | ok (g cap n:Nat) (he:e=.returned (.tuple #[Z (M ⟨g,0,U⟩) n cap,I J 0])) (hn:n=(jp h body).1.length) (ht:(jp h body).2=0) (hO:dX w' w.heap.size g cap (jp h body).1) (hB:Below w.heap.size w w')
theorem MU (w:X)(m t:ae)(mi ln:Int)(l:aC)(fo bo:ag)(fZ nf fV nb:Nat)(body:ab)(y:bx w fo fZ nf (aJ l))(L:l.length=nf)(N:nf<=1000000)(z:∀p∈l,p.1.size<=2000∧p.2.size<=2000)(hm:m.size+t.size<=10000)(f:body.length=nb)
 (q:oR (fi m.data.toList) (iV t.data.toList) (m.data.toList.length+t.data.toList.length+10) nb nf (aH gw l).length (aH gx l).length (aH gv l).length≠0) :
 Calls prog 182 #[.agg #[V m,V t,I J mi,Z fo nf fZ,I J ln],Z bo nb fV] w fun e w'=>Br w (oP m t l) body e w':=by
 subst L;subst f;have r:∀s:ae,s.data.toList.length=s.size:=fun s=>by rw[cI];rfl
 have B:=(Gj m t l body _ rfl).1 q;have b:Below w.heap.size w (w.alloc (K #[V m,V t,I J mi,Z fo l.length fZ,I J ln] 82)):=(ar _ _).alloc (am _) _;have g:Below w.heap.size w ((w.alloc (K #[V m,V t,I J mi,Z fo l.length fZ,I J ln] 82)).alloc (K #[V m,V t,V ⟨#[72,84,84,80,47,49,46,49]⟩] 9)):=b.trans ((ar _ _).alloc b.size _);have C:=aa (Da m t ⟨#[72,84,84,80,47,49,46,49]⟩ (w.heap.size+1) ((w.alloc (K #[V m,V t,I J mi,Z fo l.length fZ,I J ln] 82)).alloc (K #[V m,V t,V ⟨#[72,84,84,80,47,49,46,49]⟩] 9)) (by rw[World.cell?_alloc_at _ _ _ _ (by simp)];rfl) (by rw[World.cell?_alloc_at _ _ _ _ (by simp)];rfl) (by rw[World.cell?_alloc_at _ _ _ _ (by simp)];rfl) (by show m.size+t.size+8<=_;omega));have c:(⟨(m.data.toList++32::(t.data.toList++32::(⟨#[72,84,84,80,47,49,46,49]⟩:ae).data.toList)).toArray⟩:ae).size=m.data.toList.length+t.data.toList.length+10:=by
  show(m.data.toList++32::(t.data.toList++32::[72,84,84,80,47,49,46,49])).toArray.size=_;rw[cx];simp;omega
 generalize (⟨(m.data.toList++32::(t.data.toList++32::(⟨#[72,84,84,80,47,49,46,49]⟩:ae).data.toList)).toArray⟩:ae)=first at C c;have D:=aa (fun W (d:Below w.heap.size w W)=>Ek W m t first mi ln l fo bo fZ l.length body.length fV (y.a d) rfl N z (by omega) (by omega));simp only[c] at D;have a:∀j,j<5->(w.alloc (K #[V m,V t,I J mi,Z fo l.length fZ,I J ln] 82)).cell? ⟨w.heap.size,j,U⟩=(#[Value.string m,V t,I J mi,Z fo l.length fZ,I J ln]:Array Value)[j]?:=fun j _=>World.cell?_alloc_mark w _ _ _ j;have S:Hid (∀W,Below (w.alloc (K #[V m,V t,I J mi,Z fo l.length fZ,I J ln] 82)).heap.size (w.alloc (K #[V m,V t,I J mi,Z fo l.length fZ,I J ln] 82)) W->W.cell? ⟨w.heap.size,0,U⟩=M (V m)∧W.cell? ⟨w.heap.size,1,U⟩=M (V t)∧W.cell? ⟨w.heap.size,2,U⟩=M (I J mi)∧W.cell? ⟨w.heap.size,3,U⟩=M (Z fo l.length fZ)∧W.cell? ⟨w.heap.size,4,U⟩=M (I J ln)):=fun W d =>
  ⟨(d.cell (p:=⟨w.heap.size,0,U⟩) (by simp)).trans (a 0 (by omega)),(d.cell (p:=⟨w.heap.size,1,U⟩) (by simp)).trans (a 1 (by omega)),(d.cell (p:=⟨w.heap.size,2,U⟩) (by simp)).trans (a 2 (by omega)),(d.cell (p:=⟨w.heap.size,3,U⟩) (by simp)).trans (a 3 (by omega)),(d.cell (p:=⟨w.heap.size,4,U⟩) (by simp)).trans (a 4 (by omega))⟩
 have T:=aa B;have u:=aa g;have Kk:=aa q
 generalize oR (fi m.data.toList) (iV t.data.toList) (m.data.toList.length+t.data.toList.length+10) body.length l.length (aH gw l).length (aH gx l).length (aH gv l).length=G at *;have tF:((G:Int) != 0)=true:=by rw[dh];omega
 clear y z B b g a c q r;go_enter func182,ntmps182;go_wp2_with fail;refine C.o.mono ?_;rintro e v ⟨rfl,f⟩;have i:=u.o.trans (f.mono (by simp;omega));have k:Below (w.alloc (K #[V m,V t,I J mi,Z fo l.length fZ,I J ln] 82)).heap.size (w.alloc (K #[V m,V t,I J mi,Z fo l.length fZ,I J ln] 82)) v:=((ar _ _).alloc (am _) _).trans (f.mono (by simp));obtain⟨x0,x1,x2,x3,x4⟩:=S.o v k;have H:=aa i;clear f i k;go_wp2_with fail;refine(D.o v H.o).mono ?_;rintro e w2 ⟨rfl,n⟩;have x:=aa (au H.o n);clear n;go_wp2;go_ret2;exact .bad G Kk.o rfl T.o x.o
theorem Tp {w:X}{a g cap:Nat}{l:ab}(h:dX w a g cap l)(d:l≠[]){b:Nat}{s:ae}(e:w.cell? ⟨b,0,U⟩=M (V s)):b≠g:=by
 rintro rfl;cases l with
 | nil=>exact d rfl
 | cons c r =>
   have:=h.d 0 _ (jO (c::r) 0 (by simp));rw[e] at this;cases this
theorem Q4 {P:Program}{c f:TypeId}(d:P.underlying c=M (.slice f)){w:X}{ao:ag}{cap n:Nat}{l:ab}(h:az w ao cap l)(g:l.length=n):Src P 1 c (Z ao n cap) n (bA l) w:=by
 subst g;cases ao with
 | none =>
   obtain⟨rfl,rfl⟩:=h.E;exact Src.ofNil _ d 0
 | some a =>
   refine Src.ofSlice _ d a _ cap _ (by rw[dq];omega) (fun j u b=>?_) (tj l);have e:j<l.length:=by
    have:=(fw.1 b).1;rwa[dq] at this
   rw[jO l j e] at b;injection b with b;subst b;exact h.j j e
theorem Fb (x y:ae):∀u∈([V x,V y]:List Value),u.oneCell'=true:=fun u a=>by simp at a;rcases a with rfl | rfl <;> rfl
theorem Fc (W:X)(x y:ae)(t:Nat){k:Nat}(a:W.heap.size=k):∀j u,([V x,V y]:List Value)[j]? = M u->(W.alloc (K #[V x,V y] t)).cell? (Addr.add ⟨k,0,U⟩ j)=M u:=fun j u b=>by
 rw[gg,eh,World.cell?_alloc_at _ _ _ _ a.symm,mB];exact b
theorem Sw {a w5:X}{x y:ae}{t:Nat}(h:Below (a.alloc (K #[V x,V y] t)).drew.heap.size (a.alloc (K #[V x,V y] t)).drew w5):∀j u,([V x,V y]:List Value)[j]? = M u->w5.cell? (Addr.add ⟨a.heap.size,0,U⟩ j)=M u:=fun j u c=>by
 have d:=Fc a x y t rfl j u c;have b:(a.alloc (K #[V x,V y] t)).drew.cell? (Addr.add ⟨a.heap.size,0,U⟩ j)=M u:=d;exact(h.cell (ch _ _ b)).trans b
theorem BZ {c W d:X}{b t:Nat}{ao:ag}{cap n:Nat}{xs:List Value}{w5:X}(f:Below c.heap.size c W)(g:aL w5 b t 2 ao cap n xs)(i:W.grownBy d (Value.slice ao n cap).ownBlock)(j:c.heap.size<=b):Below c.heap.size c d :=
 f.grown i f.size (fun q e=>by
  rw[dp] at e;cases ao with
  | none=>cases e
  | some a=>injection e with e;subst e;have:=(g.e a rfl).1;omega)
theorem C4 {w wr c:X}{bo:ag}{fV g:Nat}{body:ab}(d:az w bo fV body)(h:az wr bo fV body)(f:ak (fun k=>k=g) wr c)(j:w.heap.size<=g):az c bo fV body:=by
 by_cases b:body=[]
 . subst b;exact az.jL _ h
 . refine h.r f (fun a e l=>?_);subst e;have i:=ch w _ (d.j 0 (mC.2 b));rw[oj] at i;omega
structure G8 (w:X)(gf Af:Nat)(FT:aC)(sx:ab)(bo:ag)(fV:Nat)(body:ab)(i g cap n:Nat)(wr:X):Prop where
 b:dX wr w.heap.size g cap (sx++(FT.take i).flatMap ki)
 a:(sx++(FT.take i).flatMap ki).length=n
 d:∀p∈FT.take i,(bO p.1.data.toList p.2.data.toList).2=0
 c:bx wr (M ⟨gf,0,U⟩) Af FT.length (aJ FT)
 e:az wr bo fV body
 below:Below w.heap.size w wr
theorem Gs (p:ae×ae)(h:p.1.size<=2000∧p.2.size<=2000):(ki p).length<=4004:=by
 have a:=Dd p.1.data.toList p.2.data.toList;have b:p.1.data.toList.length=p.1.size:=by rw[cI];rfl
 have c:p.2.data.toList.length=p.2.size:=by rw[cI];rfl
 unfold ki;rw[aD];simp;omega
theorem Fd:∀(l:aC),(∀p∈l,p.1.size<=2000∧p.2.size<=2000)->(l.flatMap ki).length<=4004*l.length
 | [],_=>by simp
 | p :: r, h => by
   have b:=Gs p (h p (lO ..));have c:=Fd r (fun q a=>h q (iN _ a));rw[oi,aD,bF];omega
theorem Od (w:X)(m t c:ae)(mi ln:Int)(l:aC)(fo bo:ag)(fZ nf fV nb:Nat)(body:ab)(hl:bx w fo fZ nf (aJ l))(hn:l.length=nf)(hN:nf<=1000000)(hs:∀p∈l,p.1.size<=2000∧p.2.size<=2000)(hm:m.size+t.size<=10000)(hb:body.length=nb)(hBd:az w bo fV body)
 (hI:∀W,Below w.heap.size w W->Calls prog 141 #[I J (nb:Int)] W fun e w'=>e=.returned (V c)∧Below W.heap.size W w') (hds:c.data.toList=bw 8 nb)
 (hF:oR (fi m.data.toList) (iV t.data.toList) (m.data.toList.length+t.data.toList.length+10) nb nf (aH gw l).length (aH gx l).length (aH gv l).length=0) :
 Calls prog 182 #[.agg #[V m,V t,I J mi,Z fo nf fZ,I J ln],Z bo nb fV] w fun e w'=>Br w (oP m t l) body e w':=by
 subst hn;subst hb;have hl2:∀s:ae,s.data.toList.length=s.size:=fun s=>by rw[cI];rfl
 obtain⟨hb4,h15,hT⟩:=(Gj m t l body _ rfl).2 hF;have hb0:Below w.heap.size w (w.alloc (K #[V m,V t,I J mi,Z fo l.length fZ,I J ln] 82)):=(ar _ _).alloc (am _) _;have G:Below w.heap.size w ((w.alloc (K #[V m,V t,I J mi,Z fo l.length fZ,I J ln] 82)).alloc (K #[V m,V t,V ⟨#[72,84,84,80,47,49,46,49]⟩] 9)):=hb0.trans ((ar _ _).alloc hb0.size _);have HJ:=aa (Da m t ⟨#[72,84,84,80,47,49,46,49]⟩ (w.heap.size+1) ((w.alloc (K #[V m,V t,I J mi,Z fo l.length fZ,I J ln] 82)).alloc (K #[V m,V t,V ⟨#[72,84,84,80,47,49,46,49]⟩] 9)) (by rw[World.cell?_alloc_at _ _ _ _ (by simp)];rfl) (by rw[World.cell?_alloc_at _ _ _ _ (by simp)];rfl) (by rw[World.cell?_alloc_at _ _ _ _ (by simp)];rfl) (by show m.size+t.size+8<=_;omega));have hfs:(⟨(m.data.toList++32::(t.data.toList++32::(⟨#[72,84,84,80,47,49,46,49]⟩:ae).data.toList)).toArray⟩:ae).size=m.data.toList.length+t.data.toList.length+10:=by
  show(m.data.toList++32::(t.data.toList++32::[72,84,84,80,47,49,46,49])).toArray.size=_;rw[cx];simp;omega
 have hfd:(⟨(m.data.toList++32::(t.data.toList++32::(⟨#[72,84,84,80,47,49,46,49]⟩:ae).data.toList)).toArray⟩:ae).data.toList=m.data.toList++32::(t.data.toList++32::xx):=rfl;generalize (⟨(m.data.toList++32::(t.data.toList++32::(⟨#[72,84,84,80,47,49,46,49]⟩:ae).data.toList)).toArray⟩:ae)=first at HJ hfs hfd;have JR:=aa (fun W (y:Below w.heap.size w W)=>Ek W m t first mi ln l fo bo fZ l.length body.length fV (hl.a y) rfl hN hs (by omega) (by omega));simp only[hfs] at JR;have z:∀j,j<5->(w.alloc (K #[V m,V t,I J mi,Z fo l.length fZ,I J ln] 82)).cell? ⟨w.heap.size,j,U⟩=(#[Value.string m,V t,I J mi,Z fo l.length fZ,I J ln]:Array Value)[j]?:=fun j _=>World.cell?_alloc_mark w _ _ _ j;have HX:Hid (∀W,Below (w.alloc (K #[V m,V t,I J mi,Z fo l.length fZ,I J ln] 82)).heap.size (w.alloc (K #[V m,V t,I J mi,Z fo l.length fZ,I J ln] 82)) W->W.cell? ⟨w.heap.size,0,U⟩=M (V m)∧W.cell? ⟨w.heap.size,1,U⟩=M (V t)∧W.cell? ⟨w.heap.size,2,U⟩=M (I J mi)∧W.cell? ⟨w.heap.size,3,U⟩=M (Z fo l.length fZ)∧W.cell? ⟨w.heap.size,4,U⟩=M (I J ln)):=fun W y =>
  ⟨(y.cell (p:=⟨w.heap.size,0,U⟩) (by simp)).trans (z 0 (by omega)),(y.cell (p:=⟨w.heap.size,1,U⟩) (by simp)).trans (z 1 (by omega)),(y.cell (p:=⟨w.heap.size,2,U⟩) (by simp)).trans (z 2 (by omega)),(y.cell (p:=⟨w.heap.size,3,U⟩) (by simp)).trans (z 3 (by omega)),(y.cell (p:=⟨w.heap.size,4,U⟩) (by simp)).trans (z 4 (by omega))⟩
 have HT:=aa hT;have HB1:=aa G
 rw[hF] at JR;have hcl:=OH body.length hb4;have hdl:c.size<=2000:=by
  have:=gz 8 body.length;rw[<-hl2,hds];omega
 have hfT:∀p∈l++[((⟨#[67,111,110,116,101,110,116,45,76,101,110,103,116,104]⟩:ae),c)],p.1.size<=2000∧p.2.size<=2000:=fun p D=>by
  rcases eJ.1 D with D | D
  . exact hs p D
  . simp at D;subst D;exact⟨by show(14:Nat)<=2000;omega,hdl⟩
 have HFT:=aa hfT;have HI:=aa hI;have xE:=aa (fun W (y:Below w.heap.size w W)=>Hw l fo fZ l.length W (hl.a y) rfl hN);have yN:=aa hBd;have PK:Hid (c.data.toList=bw 8 body.length∧(bO mq (bw 8 body.length)).2=0∧(bO mq (bw 8 body.length)).1=mq++[58,32]++bw 8 body.length):=⟨hds,hcl.1,hcl.2⟩;have Kl:=aa hfd;have akD:first.size<=10010:=by have:=hl2 m;have:=hl2 t;omega
 obtain⟨i0,hi0,hz0,hz1,hz2⟩:=info_parts pX;have Hi:=aa hi0;have kS:=aa hz0;have kM:=aa hz1;have kT:=aa hz2
 obtain⟨j0,hj0,hy0,hy1,hy2⟩:=info_parts gm;have Hj:=aa hj0;have O8:=aa hy0;have O9:=aa hy1;have Pb:=aa hy2
 clear hi0 hz0 hz1 hz2 hj0 hy0 hy1 hy2 hl hs hT hb0 G z hfs hF hl2 hcl hfT hI hds hBd hfd;go_enter func182,ntmps182;go_wp2_with fail;refine HJ.o.mono ?_;rintro e w1 ⟨rfl,hb⟩;have hB1:=HB1.o.trans (hb.mono (by simp;omega));have H:Below (w.alloc (K #[V m,V t,I J mi,Z fo l.length fZ,I J ln] 82)).heap.size (w.alloc (K #[V m,V t,I J mi,Z fo l.length fZ,I J ln] 82)) w1:=((ar _ _).alloc (am _) _).trans (hb.mono (by simp));obtain⟨x0,x1,x2,x3,x4⟩:=HX.o w1 H;have Ik:=aa hB1;clear hb hB1 H;go_wp2_with fail;refine(JR.o w1 Ik.o).mono ?_;rintro e w2 ⟨rfl,hb2⟩;have HB2:=aa (au Ik.o hb2);have x3b:=(hb2.cell (ch w1 _ x3)).trans x3;clear hb2 x0 x1 x2 x4 x3;go_wp2_with fail;refine(HI.o w2 HB2.o).mono ?_;rintro e x ⟨rfl,hb3⟩;have L:=au HB2.o hb3;have hB4:Below w.heap.size w (x.alloc (K #[V ⟨#[67,111,110,116,101,110,116,45,76,101,110,103,116,104]⟩,V c] 148)):=L.trans ((ar _ _).alloc L.size _);obtain⟨agE,f,rY,C,d⟩:=xb (P:=prog) (x.alloc (K #[V ⟨#[67,111,110,116,101,110,116,45,76,101,110,103,116,104]⟩,V c] 148)) (first++⟨#[13,10]⟩) 9 31 5 (by rw[jq];show first.size+2<=_;unfold maxLen;omega) underlying9 underlying31 underlying5;have hz4:(x.alloc (K #[V ⟨#[67,111,110,116,101,110,116,45,76,101,110,103,116,104]⟩,V c] 148)).heap.size=x.heap.size+1:=by simp
 rw[hz4] at rY C d;have H:Below w.heap.size w f:=hB4.trans (C.mono (by have:=L.size;omega));have x3c:=(hb3.cell (ch w2 _ x3b)).trans x3b;have x3d:(x.alloc (K #[V ⟨#[67,111,110,116,101,110,116,45,76,101,110,103,116,104]⟩,V c] 148)).cell? ⟨w.heap.size,3,U⟩=M (Z fo l.length fZ):=(((ar _ _).alloc (am _) _).cell (ch x _ x3c)).trans x3c;have y3:f.cell? ⟨w.heap.size,3,U⟩=M (Z fo l.length fZ):=(C.cell (by have:=ch x _ x3c;simp at this ⊢;omega)).trans x3d;have y0:f.cell? ⟨x.heap.size,0,U⟩=M (V ⟨#[67,111,110,116,101,110,116,45,76,101,110,103,116,104]⟩):=(C.cell (p:=⟨x.heap.size,0,U⟩) (by simp)).trans (World.cell?_alloc_mark x _ _ _ 0);have y1:f.cell? ⟨x.heap.size,1,U⟩=M (V c):=(C.cell (p:=⟨x.heap.size,1,U⟩) (by simp)).trans (World.cell?_alloc_mark x _ _ _ 1);have hdt:(first++⟨#[13,10]⟩:ae).data.toList=first.data.toList++[13,10]:=by rw[jy]
 have hsz:(first++⟨#[13,10]⟩:ae).size=first.size+2:=by rw[jq];rfl
 have hwz:w.heap.size<=x.heap.size+1:=by have:=L.size;omega
 rw[hdt] at d;rw[hsz] at rY;have ai8:Hid (dX f w.heap.size (x.heap.size+1) agE (first.data.toList++[13,10])):=⟨hwz,d.b,d.e,d.f,d.d,d.a⟩;have xS:=aa H;have mG:Hid (∀W,Below f.heap.size f W->W.cell? ⟨w.heap.size,3,U⟩=M (Z fo l.length fZ)∧W.cell? ⟨x.heap.size,0,U⟩=M (V ⟨#[67,111,110,116,101,110,116,45,76,101,110,103,116,104]⟩)∧W.cell? ⟨x.heap.size,1,U⟩=M (V c)):=fun W y =>
  ⟨(y.cell (ch f _ y3)).trans y3,(y.cell (ch f _ y0)).trans y0,(y.cell (ch f _ y1)).trans y1⟩
 clear hb3 L hB4 C d hz4 H x3b x3c x3d hdt hsz hwz;go_upto_region 7 with fail
 go_cut [39,40,41] (fun v39 v40 v41 wd=>∃gf Af,v39=Z (M ⟨gf,0,U⟩) (l.length+1) Af∧v40=I J ((l.length:Int)+1)∧v41=I J 0∧aL wd 0 148 2 (M ⟨gf,0,U⟩) Af (l.length+1) (aJ (l++[((⟨#[67,111,110,116,101,110,116,45,76,101,110,103,116,104]⟩:ae),c)]))∧Below f.heap.size f wd)
 case first =>
  have d1:Below w.heap.size w f.drew:=xS.o.trans (bg _ _);have d2:Below w.heap.size w (f.alloc (K #[V ⟨#[67,111,110,116,101,110,116,45,76,101,110,103,116,104]⟩,V c] 148)).drew:=(xS.o.trans ((ar _ _).alloc xS.o.size _)).trans (bg _ _);have Uk:Hid (Below f.heap.size f f.drew):=bg _ _;have Ul:Hid (Below f.heap.size f (f.alloc (K #[V ⟨#[67,111,110,116,101,110,116,45,76,101,110,103,116,104]⟩,V c] 148)).drew):=((ar _ _).alloc (am _) _).trans (bg _ _);have Yc:Hid (l.length+1<=maxLen∧(l.length+1)*32<=140737488355328):=⟨by unfold maxLen;omega,by omega⟩;have HD1:=aa d1;have HD2:=aa d2
  clear d1 d2;go_region_held_law (fun w'=>w'.cell? ⟨w.heap.size,3,U⟩=M (Z fo l.length fZ)∧w'.cell? ⟨x.heap.size,0,U⟩=M (V ⟨#[67,111,110,116,101,110,116,45,76,101,110,103,116,104]⟩)∧w'.cell? ⟨x.heap.size,1,U⟩=M (V c)) (first | go_keep | exact HK6.o | exact HK5.o | exact HKA.o) (first
   | (refine step_append_lies _ (by rfl) _ _ _ (by rfl) 0 148 i0 (.agg #[V ⟨#[]⟩,V ⟨#[]⟩]) 2 32 underlying80 Hi.o kS.o kM.o kT.o (by rfl) (by decide) (Z Ad l.length N) l.length (aJ l) (by rfl) ((zT.o.j (ax _)).y _) ⟨w5.heap.size,0,U⟩ 1 1 [V ⟨#[67,111,110,116,101,110,116,45,76,101,110,103,116,104]⟩,V c] (by rfl) (by rfl) (Fc _ _ _ _ rfl) (Fb _ _) (by decide) Yc.o.1 Yc.o.2 (ax _) (w5.heap.size+1) (by simp) ?_;intro g6 cap6 w6 u v vI Pf;have ZW:=aa u;have T:=aa (BZ (oG.o.trans ((ar _ _).alloc oG.o.size _)) zT.o v HZ5.o);have HK6:=aa (mG.o w6 T.o);clear u v vI Pf;(try simp only[Act.put,List.getElem_toArray,List.getElem_cons_succ,List.getElem_cons_zero,List.setIfInBounds_toArray,oX,List.set_cons_succ]))
   | (refine step_append_lies _ (by rfl) _ _ _ (by rfl) 0 148 i0 (.agg #[V ⟨#[]⟩,V ⟨#[]⟩]) 2 32 underlying80 Hi.o kS.o kM.o kT.o (by rfl) (by decide) (Z Ad l.length N) l.length (aJ l) (by rfl) (zT.o.j (ax _)) ⟨f.heap.size,0,U⟩ 1 1 [V ⟨#[67,111,110,116,101,110,116,45,76,101,110,103,116,104]⟩,V c] (by rfl) (by rfl) HNB.o (Fb _ _) (by decide) Yc.o.1 Yc.o.2 (ax _) w5.heap.size (by rfl) ?_;intro g6 cap6 w6 u v vI Pf;have ZW:=aa u;have T:=aa (BZ (oG.o) zT.o v HZ5.o);have HK6:=aa (mG.o w6 T.o);clear u v vI Pf;(try simp only[Act.put,List.getElem_toArray,List.getElem_cons_succ,List.getElem_cons_zero,List.setIfInBounds_toArray,oX,List.set_cons_succ]))
   | (go_at_call 228;refine(xE.o _ HD2.o).mono ?_;rintro e w5 ⟨Ad,N,rfl,yg,CB⟩;have zT:=aa yg;have oG:=aa (Ul.o.trans (CB.mono (by simp)));have HZ5:Hid (f.heap.size<=(f.alloc (K #[V ⟨#[67,111,110,116,101,110,116,45,76,101,110,103,116,104]⟩,V c] 148)).drew.heap.size):=Ul.o.size;have HK5:=aa (mG.o w5 oG.o);have HNB:=aa (Sw CB);clear yg CB)
   | (go_at_call 228;refine(xE.o _ HD1.o).mono ?_;rintro e w5 ⟨Ad,N,rfl,yg,CB⟩;have zT:=aa yg;have oG:=aa (Uk.o.trans (CB.mono (am _)));have HZ5:Hid (f.heap.size<=f.drew.heap.size):=Uk.o.size;have HK5:=aa (mG.o w5 oG.o);have HKA:=aa (mG.o _ (oG.o.trans ((ar _ w5).alloc oG.o.size (K #[V ⟨#[67,111,110,116,101,110,116,45,76,101,110,103,116,104]⟩,V c] 148))));clear yg CB))
  all_goals (go_wp2;go_meet;exact⟨g6,cap6,rfl,rfl,rfl,by rw[ye];exact ZW.o,T.o⟩)
 case rest =>
  obtain⟨gf,Af,rfl,rfl,rfl,Fg,Yd⟩:=hcut;have hfl:(l++[((⟨#[67,111,110,116,101,110,116,45,76,101,110,103,116,104]⟩:ae),c)]).length=l.length+1:=by simp
  have hfz:first.data.toList.length=first.size:=by rw[cI];rfl
  have hR0:G8 w gf Af (l++[((⟨#[67,111,110,116,101,110,116,45,76,101,110,103,116,104]⟩:ae),c)]) (first.data.toList++[13,10]) bo fV body 0 (x.heap.size+1) agE (first.size+2) wc :=
   ⟨by simpa using ai8.o.j Yd,by simp[hfz],fun p D=>by simp at D,by rw[hfl];exact Fg.a,yN.o.a (xS.o.trans (Yd.mono xS.o.size)),xS.o.trans (Yd.mono xS.o.size)⟩
  have DJ:=aa hR0;have QC:=aa hfl;obtain⟨b,hFT⟩:∃b,l++[((⟨#[67,111,110,116,101,110,116,45,76,101,110,103,116,104]⟩:ae),c)]=b:=⟨_,rfl⟩;rw[hFT] at DJ QC HFT;have Wp:=aa hFT;clear hR0 Fg Yd mG xS y0 y1 y3 rY hfl xE HI JR HX HJ hFT;go_wp2;go_loopw [9,41] (fun vo vi wr=>∃(i n g cap:Nat),i<=l.length+1∧vi=I J i∧vo=Z (M ⟨g,0,U⟩) n cap∧G8 w gf Af b (first.data.toList++[13,10]) bo fV body i g cap n wr) (fun _ vi _=>l.length+1-(intOf vi).toNat)
  case atStart=>exact⟨0,_,_,_,ax _,rfl,rfl,DJ.o⟩
  case round =>
   obtain⟨i,n,g,cap,hi,rfl,rfl,hR⟩:=hrel;have r:=aa hR;have hacc:=Fd (b.take i) (fun p D=>HFT.o p (List.mem_of_mem_take D));have hnl:n<=200000:=by
    have:=hR.a;rw[aD,aD] at this;have h2:(b.take i).length<=16:=by rw[bV,QC.o];omega
    have h3:([13,10]:ab).length=2:=rfl;rw[h3,hfz] at this;omega
   clear hR DJ hacc;by_cases hlt:i<l.length+1
   . have hlt':(i:Int)<(l.length:Int)+1:=by omega
     have V9:i<b.length:=by rw[QC.o];exact hlt
     have hp1:=r.o.c.q (ow b i V9).1;have hp2:=r.o.c.q (ow b i V9).2;rw[gg,eh] at hp1 hp2;have hfc:=r.o.c.1;rw[QC.o] at hfc;have hps:=HFT.o b[i] (eX V9);have htk:b.take (i+1)=b.take i++[b[i]]:=fR V9;have hbad:(bO b[i].1.data.toList b[i].2.data.toList).2≠0->iq (gU l)=.inl (bO b[i].1.data.toList b[i].2.data.toList).2:=fun hc=>by
      have hil:i<l.length:=by
       rcases eI i l.length with h | h
       . exact h
       . exfalso;obtain rfl:i=l.length:=by omega
         have e:b[l.length]=((⟨#[67,111,110,116,101,110,116,45,76,101,110,103,116,104]⟩:ae),c):=by simp only[<-Wp.o];simp
         rw[e] at hc;obtain⟨e1,e2,e3⟩:=PK.o;rw[e1] at hc;exact hc e2
      have e:b[i]=l[i]:=by simp only[<-Wp.o];exact List.getElem_append_left hil
      have ht:b.take i=l.take i:=by rw[<-Wp.o,List.take_append_of_le_length (by omega)]
      have hz:=r.o.d;rw[ht] at hz;rw[e] at hc ⊢;exact F8 l i hil hz hc
     have Yf:=aa hbad;have sZ:=aa htk
     generalize b[i]=p at *;have G:Below wr.heap.size wr (wr.alloc (K #[V p.1,V p.2] 148)):=(ar _ _).alloc (am _) _;have Bb:=aa (EP p.1 p.2 (wr.alloc (K #[V p.1,V p.2] 148)) (by have:=hps.1;omega) (by have:=hps.2;omega));have hll:=Gs p hps;have Yg:Hid (ki p=(bO p.1.data.toList p.2.data.toList).1++[13,10]):=rfl;have Gp:=aa G;unfold lW at Bb;generalize hcd:(bO p.1.data.toList p.2.data.toList).2=cd at *;generalize (bO p.1.data.toList p.2.data.toList).1=tx at *;have HCd:=aa hcd;clear hbad htk hps G V9 hcd;by_cases hc0:cd=0
     . subst hc0;have hxz:((⟨tx.toArray⟩:ae)++⟨#[13,10]⟩:ae).size=tx.length+2:=by rw[jq];rfl
       have hxd:((⟨tx.toArray⟩:ae)++⟨#[13,10]⟩:ae).data.toList=tx++[13,10]:=by rw[jy]
       have hxl:tx.length+2<=4004:=by
        have:=Yg.o;rw[this,aD] at hll;simpa using hll
       have HXz:=aa hxz;have HXd:=aa hxd
       clear hxz hxd hll;go_wp2_with fail;refine Bb.o.mono ?_;rintro e w5 ⟨rfl,S⟩;have hb6:=Gp.o.trans (S.mono (by simp));have T:=aa hb6;have HU:=aa (r.o.b.j hb6);clear S hb6;go_wp2_with (at_builtin;refine By rfl (.tmp 53) (.tmp 55) 31 9 rfl 5 j0 underlying31 Hj.o O8.o O9.o Pb.o rfl HU.o r.o.a _ _ rfl (vR underlying9 _ _) (by rw[HXz.o];omega) ?_;intro g7 Gq w7 Yh Fh;have HU7:=aa Yh;have YN:=aa Fh;clear Yh Fh)
       go_roundw
       case rel =>
        have hne:first.data.toList++[13,10]++(b.take i).flatMap ki≠[]:=by simp
        have acK:=r.o.c.a T.o;have hgf:gf≠g:=by
         have h0:0<(aJ b).length:=by rw[sS,QC.o];omega
         have hc:=acK.q (ow b 0 (by rw[QC.o];omega)).1;rw[gg] at hc;exact Tp HU.o hne (by simpa using hc)
        have hlc:first.data.toList++[13,10]++(b.take i).flatMap ki++((⟨tx.toArray⟩:ae)++⟨#[13,10]⟩:ae).data.toList=first.data.toList++[13,10]++(b.take (i+1)).flatMap ki:=by
         rw[sZ.o,List.flatMap_append,HXd.o,ja];congr 2;simp[Yg.o]
        refine⟨i+1,_,g7,Gq,by omega,by go_num,rfl,⟨by rw[<-hlc];exact HU7.o,?_,?_,acK.r YN.o (fun a e=>by injection e with e;subst e;exact hgf),?_,?_⟩⟩
        . rw[<-hlc,aD,r.o.a,HXd.o];simp
        . intro q hq;rw[sZ.o] at hq;rcases eJ.1 hq with hq | hq
          . exact r.o.d q hq
          . simp at hq;subst hq;exact HCd.o
        . exact C4 yN.o (r.o.e.a T.o) YN.o HU.o.c
        . have h1:=r.o.below.trans (T.o.mono r.o.below.size);have h2:=YN.o.below (B:=w.heap.size) (fun k e=>by rw[e];exact HU.o.c) h1.size;exact h1.trans h2
       case measure=>simp[intOf];omega
     . have tc:((cd:Int) != 0)=true:=by rw[dh];omega
       have HLb:=aa (Yf.o hc0);have Pg:=aa hc0
       clear hc0 hll;go_wp2_with fail;refine Bb.o.mono ?_;rintro e w5 ⟨rfl,S⟩;have T:=aa (Gp.o.trans (S.mono (by simp)));clear S;go_wp2;(try simp only[Exit.inBlock,Exit.then]);go_ret2;refine .bad cd Pg.o rfl ?_ (r.o.below.trans (T.o.mono r.o.below.size));rw[HT.o,HLb.o]
   . obtain rfl:i=l.length+1:=by omega
     have hXe:jp (oP m t l) body=(first.data.toList++[13,10]++(b.take (l.length+1)).flatMap ki++[13,10]++body,0):=by
      have htl:b.take (l.length+1)=b:=by rw[hZ];rw[QC.o];omega
      have hz:=r.o.d;rw[htl] at hz;have hlz:=F5 l (fun p D=>hz p (by rw[<-Wp.o];exact vm _ D));obtain⟨e1,e2,e3⟩:=PK.o;rw[HT.o,hlz,htl];simp only;rw[<-Wp.o,List.flatMap_append,Kl.o];have e4:[((⟨#[67,111,110,116,101,110,116,45,76,101,110,103,116,104]⟩:ae),c)].flatMap ki=mq++[58,32]++bw 8 body.length++[13,10]:=by
       have:ki ((⟨#[67,111,110,116,101,110,116,45,76,101,110,103,116,104]⟩:ae),c)=(bO mq c.data.toList).1++[13,10]:=rfl;rw[oi,this,e1,e3];simp
      rw[e4];simp
     have HXe:=aa hXe;clear hXe;go_wp2_with (first
      | (at_builtin;refine By rfl (.tmp 58) (.const (V ⟨#[13,10]⟩)) 31 9 rfl 5 j0 underlying31 Hj.o O8.o O9.o Pb.o rfl r.o.b r.o.a _ _ rfl (vR underlying9 _ _) (by show n+2<=_;omega) ?_;intro g7 Gq w7 Yh Fh;have HU7:=aa Yh;have YN:=aa Fh;have adu:=aa (C4 yN.o r.o.e Fh r.o.b.c);clear Yh Fh)
      | (at_builtin;refine By rfl (.tmp 60) (.tmp 61) 31 31 rfl 5 j0 underlying31 Hj.o O8.o O9.o Pb.o rfl HU7.o (by rw[aD,r.o.a];rfl) _ _ rfl (Q4 underlying31 adu.o rfl) (by omega) ?_;intro g8 adv w8 hU8 hT8;have HU8:=aa hU8;have HT8:=aa hT8;clear hU8 hT8))
     go_ret2;have h7:=r.o.below.trans (YN.o.below (B:=w.heap.size) (fun k e=>by rw[e];exact r.o.b.c) r.o.below.size);have h8:=h7.trans (HT8.o.below (B:=w.heap.size) (fun k e=>by rw[e];exact HU7.o.c) h7.size);refine .ok g8 adv _ rfl ?_ (by rw[HXe.o]) (by rw[HXe.o];exact HU8.o) h8;rw[HXe.o];show _=(first.data.toList++[13,10]++(b.take (l.length+1)).flatMap ki++[13,10]++body).length;rw[aD,aD,r.o.a];rfl
