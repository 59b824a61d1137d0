/- Small texts, one behind the other: RqWrB, RqWrC, RqWrD. -/
import Derived.Test.YthhklgjjnaeaoaaGreatDoorPk44
import Derived.Deep.RegionHeldLaw
import Derived.Deep.DeepCutAuto
open Go.Value renaming int->I,string->V,slice->Z
open Go.IntKind renaming i64->J
open Go.Obj renaming cells->K
open Option renaming none->U,some->M
open Or renaming inl->A,inr->R
open Go renaming World->X
set_option maxHeartbeats 4000000
set_option maxRecDepth 100000
open Go.Proofs.Tryz
namespace Go.Proofs.YthhklgjjnaeaoaaGreatDoor
open Go.RowKit
def Rq.jB (p:ay×ay):av:=(Fd.text p.1.data.toList p.2.data.toList).1++[13,10]
theorem Rq.EL:∀l:au,(∀p∈l,(Fd.text p.1.data.toList p.2.data.toList).2=0)->Rq.lines (Rq.EZ l)=.inr (l.flatMap Rq.jB)
 | [],_=>rfl
 | p :: r, h => by
   have a:=Rq.EL r (fun q b=>h q (cB _ b));show Rq.lines ((p.1.data.toList,p.2.data.toList)::Rq.EZ r)=_;rw[Rq.lines,if_neg (fun e=>e (h p (cu ..))),a];simp[Rq.jB]
theorem Rq.G9:∀(l:au) (i:Nat) (b:i<l.length),(∀p∈l.take i,(Fd.text p.1.data.toList p.2.data.toList).2=0)->(Fd.text l[i].1.data.toList l[i].2.data.toList).2≠0->Rq.lines (Rq.EZ l)=.inl (Fd.text l[i].1.data.toList l[i].2.data.toList).2
 | p :: r, 0, _, _, hc => by
   show Rq.lines ((p.1.data.toList,p.2.data.toList)::Rq.EZ r)=_;have a:(Fd.text p.1.data.toList p.2.data.toList).2≠0:=hc;rw[Rq.lines,if_pos a];rfl
 | p :: r, i + 1, b, h, hc => by
   have c:=Rq.G9 r i (by simpa using b) (fun q d=>h q (by rw[List.take_succ_cons];exact cB _ d)) hc;show Rq.lines ((p.1.data.toList,p.2.data.toList)::Rq.EZ r)=_;rw[Rq.lines,if_neg (fun e=>e (h p (by rw[List.take_succ_cons];exact cu ..))),c];rfl
theorem Rq.He (l:av):Rq.isTarget l=false<->(l.head?≠M 47∨32∈l∨9∈l∨Ch.gV l=false):=by
 have a:Rq.blank l=true<->32∈l∨9∈l:=by
  unfold Rq.blank;rw[List.any_eq_true];constructor
  . rintro ⟨b,a,e⟩;simp at e;rcases e with e | e
    . exact A (e▸a)
    . exact R (e▸a)
  . rintro (h | h)
    . exact⟨32,h,rfl⟩
    . exact⟨9,h,rfl⟩
 unfold Rq.isTarget;rw[dw,dw,bO,Bool.not_eq_false',a];constructor
 . rintro (h | (h | h) | h)
   . exact A h
   . exact R (A h)
   . exact R (R (A h))
   . exact R (R (R h))
 . rintro (h | h | h | h)
   . exact A h
   . exact R (A (A h))
   . exact R (A (R h))
   . exact R (R h)
theorem Rq.QT (m t:ay)(l:au)(body:av)(f:Nat)(a:f=Rq.uI (Ch.isToken m.data.toList) (Rq.isTarget t.data.toList) (m.data.toList.length+t.data.toList.length+10) body.length l.length (Fd.vals lW l).length (Fd.vals lX l).length (Fd.vals lV l).length):
 (f ≠ 0 -> Rq.text (Rq.Z5 m t l) body = ([], f)) ∧ (f = 0 -> body.length <= 4000 ∧ l.length <= 15 ∧ Rq.text (Rq.Z5 m t l) body = match Rq.lines (Rq.EZ l) with
  | .inl c=>([],c)
  | .inr s=>(m.data.toList++32::(t.data.toList++32::(Rq.v11++13::10::(s++(Rq.MB++[58,32]++Ch.iV 8 body.length++13::10::13::10::body)))),0)):=by
 have ev:∀(b:ay),Ch.lower b.data.toList=b.data.toList->Rq.vals (Rq.EZ l) b.data.toList=Rq.lists (Fd.vals b l):=fun b r=>Rq.Dz l b r;have u:Rq.vals (Rq.EZ l) Rq.nHost=Rq.lists (Fd.vals lV l):=ev lV (by decide);have w:Rq.vals (Rq.EZ l) Rq.CY=Rq.lists (Fd.vals lW l):=ev lW (by decide);have x:Rq.vals (Rq.EZ l) Rq.CZ=Rq.lists (Fd.vals lX l):=ev lX (by decide);have d:∀v:List ay,Rq.lists v≠[]<->0<v.length:=fun v=>by
  have:(Rq.lists v).length=v.length:=by simp[Rq.lists]
  rw[<-this];exact List.length_pos_iff.symm
 have o:(Rq.EZ l).length=l.length:=by simp[Rq.EZ]
 unfold Rq.text Rq.Z5;simp only[u,w,x,o];unfold Rq.uI at a;by_cases g:Ch.isToken m.data.toList=false
 . rw[if_pos g] at a;rw[if_pos g];subst a;exact⟨fun _=>rfl,fun e=>by omega⟩
 rw[if_neg g] at a;rw[if_neg g];by_cases i:Rq.isTarget t.data.toList=false
 . rw[if_pos i] at a;rw[if_pos ((Rq.He _).1 i)];subst a;exact⟨fun _=>rfl,fun e=>by omega⟩
 rw[if_neg i] at a;rw[if_neg (fun e=>i ((Rq.He _).2 e))];by_cases j:200<m.data.toList.length+t.data.toList.length+10∨4000<body.length
 . rw[if_pos j] at a;rw[if_pos j];subst a;exact⟨fun _=>rfl,fun e=>by omega⟩
 rw[if_neg j] at a;rw[if_neg j];by_cases q:15<l.length
 . rw[if_pos q] at a;rw[if_pos (by omega)];subst a;exact⟨fun _=>rfl,fun e=>by omega⟩
 rw[if_neg q] at a;rw[if_neg (by omega)];by_cases k:0<(Fd.vals lW l).length∨0<(Fd.vals lX l).length
 . rw[if_pos k] at a;rw[if_pos (by rcases k with h | h;exact A ((d _).2 h);exact R ((d _).2 h))];subst a;exact⟨fun _=>rfl,fun e=>by omega⟩
 rw[if_neg k] at a;rw[if_neg (fun e=>k (by rcases e with e | e;exact A ((d _).1 e);exact R ((d _).1 e)))];have p:(Rq.lists (Fd.vals lV l)).length=(Fd.vals lV l).length:=by simp[Rq.lists]
 rw[p];by_cases n:(Fd.vals lV l).length≠1
 . rw[if_pos n] at a;rw[if_pos n];subst a;exact⟨fun _=>rfl,fun e=>by omega⟩
 rw[if_neg n] at a;rw[if_neg n];subst a;refine⟨fun e=>absurd rfl e,fun _=>⟨by omega,by omega,?_⟩⟩;cases Rq.lines (Rq.EZ l) <;> rfl
inductive XQ (w:X)(h:Rq.Hd)(body:av)(e:Ending)(w':X):Prop
 | bad (c:Nat) (hc:c≠0) (he:e=.returned (.tuple #[Z U 0 0,I J (c:Int)])) (ht:Rq.text h body=([],c)) (hB:Below w.heap.size w w')
 | ok (g cap n:Nat) (he:e=.returned (.tuple #[Z (M ⟨g,0,U⟩) n cap,I J 0])) (hn:n=(Rq.text h body).1.length) (ht:(Rq.text h body).2=0) (hO:Buf w' w.heap.size g cap (Rq.text h body).1) (hB:Below w.heap.size w w')
theorem Md (w:X)(m t:ay)(mi ln:Int)(l:au)(fo bo:ak)(fZ nf fU nb:Nat)(body:av)(y:ji w fo fZ nf (gG l))(L:l.length=nf)(N:nf<=1000000)(z:∀p∈l,p.1.size<=2000∧p.2.size<=2000)(hm:m.size+t.size<=10000)(f:body.length=nb)
 (q:Rq.uI (Ch.isToken m.data.toList) (Rq.isTarget t.data.toList) (m.data.toList.length+t.data.toList.length+10) nb nf (Fd.vals lW l).length (Fd.vals lX l).length (Fd.vals lV l).length≠0) :
 Calls prog 152 #[.agg #[V m,V t,I J mi,Z fo nf fZ,I J ln],Z bo nb fU] w fun e w'=>XQ w (Rq.Z5 m t l) body e w':=by
 subst L;subst f;have r:∀s:ay,s.data.toList.length=s.size:=fun s=>by rw[aO];rfl
 have B:=(Rq.QT m t l body _ rfl).1 q;have b:Below w.heap.size w (w.alloc (K #[V m,V t,I J mi,Z fo l.length fZ,I J ln] 82)):=(eY _ _).alloc (aM _) _;have g:Below w.heap.size w ((w.alloc (K #[V m,V t,I J mi,Z fo l.length fZ,I J ln] 82)).alloc (K #[V m,V t,V ⟨#[72,84,84,80,47,49,46,49]⟩] 9)):=b.trans ((eY _ _).alloc b.size _);have C:=H9 (EK m t ⟨#[72,84,84,80,47,49,46,49]⟩ (w.heap.size+1) ((w.alloc (K #[V m,V t,I J mi,Z fo l.length fZ,I J ln] 82)).alloc (K #[V m,V t,V ⟨#[72,84,84,80,47,49,46,49]⟩] 9)) (by rw[World.cell?_alloc_at _ _ _ _ (by simp)];rfl) (by rw[World.cell?_alloc_at _ _ _ _ (by simp)];rfl) (by rw[World.cell?_alloc_at _ _ _ _ (by simp)];rfl) (by show m.size+t.size+8<=_;omega));have c:(⟨(m.data.toList++32::(t.data.toList++32::(⟨#[72,84,84,80,47,49,46,49]⟩:ay).data.toList)).toArray⟩:ay).size=m.data.toList.length+t.data.toList.length+10:=by
  show(m.data.toList++32::(t.data.toList++32::[72,84,84,80,47,49,46,49])).toArray.size=_;rw[bK];simp;omega
 generalize (⟨(m.data.toList++32::(t.data.toList++32::(⟨#[72,84,84,80,47,49,46,49]⟩:ay).data.toList)).toArray⟩:ay)=first at C c;have D:=H9 (fun W (d:Below w.heap.size w W)=>G8 W m t first mi ln l fo bo fZ l.length body.length fU (y.stay d) rfl N z (by omega) (by omega));simp only[c] at D;have a:∀j,j<5->(w.alloc (K #[V m,V t,I J mi,Z fo l.length fZ,I J ln] 82)).cell? ⟨w.heap.size,j,U⟩=(#[Value.string m,V t,I J mi,Z fo l.length fZ,I J ln]:Array Value)[j]?:=fun j _=>World.cell?_alloc_mark w _ _ _ j;have S:Hid (∀W,Below (w.alloc (K #[V m,V t,I J mi,Z fo l.length fZ,I J ln] 82)).heap.size (w.alloc (K #[V m,V t,I J mi,Z fo l.length fZ,I J ln] 82)) W->W.cell? ⟨w.heap.size,0,U⟩=M (V m)∧W.cell? ⟨w.heap.size,1,U⟩=M (V t)∧W.cell? ⟨w.heap.size,2,U⟩=M (I J mi)∧W.cell? ⟨w.heap.size,3,U⟩=M (Z fo l.length fZ)∧W.cell? ⟨w.heap.size,4,U⟩=M (I J ln)):=fun W d =>
  ⟨(d.cell (p:=⟨w.heap.size,0,U⟩) (by simp)).trans (a 0 (by omega)),(d.cell (p:=⟨w.heap.size,1,U⟩) (by simp)).trans (a 1 (by omega)),(d.cell (p:=⟨w.heap.size,2,U⟩) (by simp)).trans (a 2 (by omega)),(d.cell (p:=⟨w.heap.size,3,U⟩) (by simp)).trans (a 3 (by omega)),(d.cell (p:=⟨w.heap.size,4,U⟩) (by simp)).trans (a 4 (by omega))⟩
 have T:=H9 B;have u:=H9 g;have JB:=H9 q
 generalize Rq.uI (Ch.isToken m.data.toList) (Rq.isTarget t.data.toList) (m.data.toList.length+t.data.toList.length+10) body.length l.length (Fd.vals lW l).length (Fd.vals lX l).length (Fd.vals lV l).length=G at *;have tF:((G:Int) != 0)=true:=by rw[cK];omega
 clear y z B b g a c q r;go_enter func152,ntmps152;go_wp2_with fail
 refine C.o.mono ?_;rintro e v ⟨rfl,f⟩;have i:=u.o.trans (f.mono (by simp;omega));have k:Below (w.alloc (K #[V m,V t,I J mi,Z fo l.length fZ,I J ln] 82)).heap.size (w.alloc (K #[V m,V t,I J mi,Z fo l.length fZ,I J ln] 82)) v:=((eY _ _).alloc (aM _) _).trans (f.mono (by simp));obtain⟨x0,x1,x2,x3,x4⟩:=S.o v k;have H:=H9 i;clear f i k;go_wp2_with fail
 refine(D.o v H.o).mono ?_;rintro e w2 ⟨rfl,n⟩;have x:=H9 (then_ H.o n);clear n;go_wp2;go_ret2;exact .bad G JB.o rfl T.o x.o
theorem acu {w:X}{a g cap:Nat}{l:av}(h:Buf w a g cap l)(d:l≠[]){b:Nat}{s:ay}(e:w.cell? ⟨b,0,U⟩=M (V s)):b≠g:=by
 rintro rfl;cases l with
 | nil=>exact d rfl
 | cons c r =>
   have:=h.holds 0 _ (kF (c::r) 0 (by simp));rw[e] at this;cases this
theorem Uk {P:Program}{c f:TypeId}(d:P.underlying c=M (.slice f)){w:X}{ao:ak}{cap n:Nat}{l:av}(h:gN w ao cap l)(g:l.length=n):Src P 1 c (Z ao n cap) n (ig l) w:=by
 subst g;cases ao with
 | none =>
   obtain⟨rfl,rfl⟩:=h.sH;exact Src.ofNil _ d 0
 | some a =>
   refine Src.ofSlice _ d a _ cap _ (by rw[gF];omega) (fun j u b=>?_) (sG l);have e:j<l.length:=by
    have:=(aQ.1 b).1;rwa[gF] at this
   rw[kF l j e] at b;injection b with b;subst b;exact h.cell j e
theorem Me (x y:ay):∀u∈([V x,V y]:List Value),u.oneCell'=true:=fun u a=>by simp at a;rcases a with rfl | rfl <;> rfl
theorem Mf (W:X)(x y:ay)(t:Nat){k:Nat}(a:W.heap.size=k):∀j u,([V x,V y]:List Value)[j]? = M u->(W.alloc (K #[V x,V y] t)).cell? (Addr.add ⟨k,0,U⟩ j)=M u:=fun j u b=>by
 rw[fQ,aZ,World.cell?_alloc_at _ _ _ _ a.symm,dD];exact b
theorem XR {a w5:X}{x y:ay}{t:Nat}(h:Below (a.alloc (K #[V x,V y] t)).drew.heap.size (a.alloc (K #[V x,V y] t)).drew w5):∀j u,([V x,V y]:List Value)[j]? = M u->w5.cell? (Addr.add ⟨a.heap.size,0,U⟩ j)=M u:=fun j u c=>by
 have d:=Mf a x y t rfl j u c;have b:(a.alloc (K #[V x,V y] t)).drew.cell? (Addr.add ⟨a.heap.size,0,U⟩ j)=M u:=d;exact(h.cell (fH _ _ b)).trans b
theorem BL {c W d:X}{b t:Nat}{ao:ak}{cap n:Nat}{xs:List Value}{w5:X}(f:Below c.heap.size c W)(g:gH w5 b t 2 ao cap n xs)(i:W.grownBy d (Value.slice ao n cap).ownBlock)(j:c.heap.size<=b):Below c.heap.size c d :=
 f.grown i f.size (fun q e=>by
  rw[gD] at e;cases ao with
  | none=>cases e
  | some a=>injection e with e;subst e;have:=(g.block a rfl).1;omega)
theorem EM {w wr c:X}{bo:ak}{fU g:Nat}{body:av}(d:gN w bo fU body)(h:gN wr bo fU body)(f:Turns (fun k=>k=g) wr c)(j:w.heap.size<=g):gN c bo fU body:=by
 by_cases b:body=[]
 . subst b;exact gN.empty _ h
 . refine h.turns f (fun a e l=>?_);subst e;have i:=fH w _ (d.cell 0 (eu.2 b));rw[add_block] at i;omega
structure aaV (w:X)(gf zA:Nat)(FT:au)(sx:av)(bo:ak)(fU:Nat)(body:av)(i g cap n:Nat)(wr:X):Prop where
 buf:Buf wr w.heap.size g cap (sx++(FT.take i).flatMap Rq.jB)
 len:(sx++(FT.take i).flatMap Rq.jB).length=n
 zero:∀p∈FT.take i,(Fd.text p.1.data.toList p.2.data.toList).2=0
 row:ji wr (M ⟨gf,0,U⟩) zA FT.length (gG FT)
 body:gN wr bo fU body
 below:Below w.heap.size w wr
theorem QU (p:ay×ay)(h:p.1.size<=2000∧p.2.size<=2000):(Rq.jB p).length<=4004:=by
 have a:=Fd.J4 p.1.data.toList p.2.data.toList;have b:p.1.data.toList.length=p.1.size:=by rw[aO];rfl
 have c:p.2.data.toList.length=p.2.size:=by rw[aO];rfl
 unfold Rq.jB;rw[aV];simp;omega
theorem Mg:∀(l:au),(∀p∈l,p.1.size<=2000∧p.2.size<=2000)->(l.flatMap Rq.jB).length<=4004*l.length
 | [],_=>by simp
 | p :: r, h => by
   have b:=QU p (h p (cu ..));have c:=Mg r (fun q a=>h q (cB _ a));rw[aU,aV,aW];omega
theorem Ph (w:X)(m t c:ay)(mi ln:Int)(l:au)(fo bo:ak)(fZ nf fU nb:Nat)(body:av)(hl:ji w fo fZ nf (gG l))(hn:l.length=nf)(hN:nf<=1000000)(hs:∀p∈l,p.1.size<=2000∧p.2.size<=2000)(hm:m.size+t.size<=10000)(hb:body.length=nb)(hBd:gN w bo fU body)
 (hI:∀W,Below w.heap.size w W->Calls prog 151 #[I J (nb:Int)] W fun e w'=>e=.returned (V c)∧Below W.heap.size W w') (hds:c.data.toList=Ch.iV 8 nb)
 (hF:Rq.uI (Ch.isToken m.data.toList) (Rq.isTarget t.data.toList) (m.data.toList.length+t.data.toList.length+10) nb nf (Fd.vals lW l).length (Fd.vals lX l).length (Fd.vals lV l).length=0) :
 Calls prog 152 #[.agg #[V m,V t,I J mi,Z fo nf fZ,I J ln],Z bo nb fU] w fun e w'=>XQ w (Rq.Z5 m t l) body e w':=by
 subst hn;subst hb;have hl2:∀s:ay,s.data.toList.length=s.size:=fun s=>by rw[aO];rfl
 obtain⟨hb4,h15,hT⟩:=(Rq.QT m t l body _ rfl).2 hF;have hb0:Below w.heap.size w (w.alloc (K #[V m,V t,I J mi,Z fo l.length fZ,I J ln] 82)):=(eY _ _).alloc (aM _) _;have G:Below w.heap.size w ((w.alloc (K #[V m,V t,I J mi,Z fo l.length fZ,I J ln] 82)).alloc (K #[V m,V t,V ⟨#[72,84,84,80,47,49,46,49]⟩] 9)):=hb0.trans ((eY _ _).alloc hb0.size _);have HJ:=H9 (EK m t ⟨#[72,84,84,80,47,49,46,49]⟩ (w.heap.size+1) ((w.alloc (K #[V m,V t,I J mi,Z fo l.length fZ,I J ln] 82)).alloc (K #[V m,V t,V ⟨#[72,84,84,80,47,49,46,49]⟩] 9)) (by rw[World.cell?_alloc_at _ _ _ _ (by simp)];rfl) (by rw[World.cell?_alloc_at _ _ _ _ (by simp)];rfl) (by rw[World.cell?_alloc_at _ _ _ _ (by simp)];rfl) (by show m.size+t.size+8<=_;omega));have hfs:(⟨(m.data.toList++32::(t.data.toList++32::(⟨#[72,84,84,80,47,49,46,49]⟩:ay).data.toList)).toArray⟩:ay).size=m.data.toList.length+t.data.toList.length+10:=by
  show(m.data.toList++32::(t.data.toList++32::[72,84,84,80,47,49,46,49])).toArray.size=_;rw[bK];simp;omega
 have Zw:(⟨(m.data.toList++32::(t.data.toList++32::(⟨#[72,84,84,80,47,49,46,49]⟩:ay).data.toList)).toArray⟩:ay).data.toList=m.data.toList++32::(t.data.toList++32::Rq.v11):=rfl;generalize (⟨(m.data.toList++32::(t.data.toList++32::(⟨#[72,84,84,80,47,49,46,49]⟩:ay).data.toList)).toArray⟩:ay)=first at HJ hfs Zw;have Ja:=H9 (fun W (y:Below w.heap.size w W)=>G8 W m t first mi ln l fo bo fZ l.length body.length fU (hl.stay y) rfl hN hs (by omega) (by omega));simp only[hfs] at Ja;have z:∀j,j<5->(w.alloc (K #[V m,V t,I J mi,Z fo l.length fZ,I J ln] 82)).cell? ⟨w.heap.size,j,U⟩=(#[Value.string m,V t,I J mi,Z fo l.length fZ,I J ln]:Array Value)[j]?:=fun j _=>World.cell?_alloc_mark w _ _ _ j;have HX:Hid (∀W,Below (w.alloc (K #[V m,V t,I J mi,Z fo l.length fZ,I J ln] 82)).heap.size (w.alloc (K #[V m,V t,I J mi,Z fo l.length fZ,I J ln] 82)) W->W.cell? ⟨w.heap.size,0,U⟩=M (V m)∧W.cell? ⟨w.heap.size,1,U⟩=M (V t)∧W.cell? ⟨w.heap.size,2,U⟩=M (I J mi)∧W.cell? ⟨w.heap.size,3,U⟩=M (Z fo l.length fZ)∧W.cell? ⟨w.heap.size,4,U⟩=M (I J ln)):=fun W y =>
  ⟨(y.cell (p:=⟨w.heap.size,0,U⟩) (by simp)).trans (z 0 (by omega)),(y.cell (p:=⟨w.heap.size,1,U⟩) (by simp)).trans (z 1 (by omega)),(y.cell (p:=⟨w.heap.size,2,U⟩) (by simp)).trans (z 2 (by omega)),(y.cell (p:=⟨w.heap.size,3,U⟩) (by simp)).trans (z 3 (by omega)),(y.cell (p:=⟨w.heap.size,4,U⟩) (by simp)).trans (z 4 (by omega))⟩
 have HT:=H9 hT;have HB1:=H9 G
 rw[hF] at Ja;have hcl:=Rq.Cj body.length hb4;have hdl:c.size<=2000:=by
  have:=Ch.jm 8 body.length;rw[<-hl2,hds];omega
 have hfT:∀p∈l++[((⟨#[67,111,110,116,101,110,116,45,76,101,110,103,116,104]⟩:ay),c)],p.1.size<=2000∧p.2.size<=2000:=fun p D=>by
  rcases bq.1 D with D | D
  . exact hs p D
  . simp at D;subst D;exact⟨by show(14:Nat)<=2000;omega,hdl⟩
 have HFT:=H9 hfT;have HI:=H9 hI;have uT:=H9 (fun W (y:Below w.heap.size w W)=>uO l fo fZ l.length W (hl.stay y) rfl hN);have zP:=H9 hBd;have Oo:Hid (c.data.toList=Ch.iV 8 body.length∧(Fd.text Rq.MB (Ch.iV 8 body.length)).2=0∧(Fd.text Rq.MB (Ch.iV 8 body.length)).1=Rq.MB++[58,32]++Ch.iV 8 body.length):=⟨hds,hcl.1,hcl.2⟩;have JE:=H9 Zw;have ajd:first.size<=10010:=by have:=hl2 m;have:=hl2 t;omega
 obtain⟨i0,hi0,hz0,hz1,hz2⟩:=info_parts pq;have Hi:=H9 hi0;have kY:=H9 hz0;have kT:=H9 hz1;have kZ:=H9 hz2
 obtain⟨j0,hj0,hy0,hy1,hy2⟩:=info_parts jJ;have Hj:=H9 hj0;have NQ:=H9 hy0;have NR:=H9 hy1;have NS:=H9 hy2
 clear hi0 hz0 hz1 hz2 hj0 hy0 hy1 hy2 hl hs hT hb0 G z hfs hF hl2 hcl hfT hI hds hBd Zw;go_enter func152,ntmps152;go_wp2_with fail
 refine HJ.o.mono ?_;rintro e w1 ⟨rfl,hb⟩;have hB1:=HB1.o.trans (hb.mono (by simp;omega));have H:Below (w.alloc (K #[V m,V t,I J mi,Z fo l.length fZ,I J ln] 82)).heap.size (w.alloc (K #[V m,V t,I J mi,Z fo l.length fZ,I J ln] 82)) w1:=((eY _ _).alloc (aM _) _).trans (hb.mono (by simp));obtain⟨x0,x1,x2,x3,x4⟩:=HX.o w1 H;have Gn:=H9 hB1;clear hb hB1 H;go_wp2_with fail
 refine(Ja.o w1 Gn.o).mono ?_;rintro e w2 ⟨rfl,hb2⟩;have HB2:=H9 (then_ Gn.o hb2);have x3b:=(hb2.cell (fH w1 _ x3)).trans x3;clear hb2 x0 x1 x2 x4 x3;go_wp2_with fail
 refine(HI.o w2 HB2.o).mono ?_;rintro e x ⟨rfl,hb3⟩;have L:=then_ HB2.o hb3;have hB4:Below w.heap.size w (x.alloc (K #[V ⟨#[67,111,110,116,101,110,116,45,76,101,110,103,116,104]⟩,V c] 131)):=L.trans ((eY _ _).alloc L.size _);obtain⟨aeX,f,uN,C,d⟩:=Iw (P:=prog) (x.alloc (K #[V ⟨#[67,111,110,116,101,110,116,45,76,101,110,103,116,104]⟩,V c] 131)) (first++⟨#[13,10]⟩) 9 31 5 (by rw[bL];show first.size+2<=_;unfold maxLen;omega) underlying9 underlying31 underlying5;have hz4:(x.alloc (K #[V ⟨#[67,111,110,116,101,110,116,45,76,101,110,103,116,104]⟩,V c] 131)).heap.size=x.heap.size+1:=by simp
 rw[hz4] at uN C d;have H:Below w.heap.size w f:=hB4.trans (C.mono (by have:=L.size;omega));have x3c:=(hb3.cell (fH w2 _ x3b)).trans x3b;have x3d:(x.alloc (K #[V ⟨#[67,111,110,116,101,110,116,45,76,101,110,103,116,104]⟩,V c] 131)).cell? ⟨w.heap.size,3,U⟩=M (Z fo l.length fZ):=(((eY _ _).alloc (aM _) _).cell (fH x _ x3c)).trans x3c;have y3:f.cell? ⟨w.heap.size,3,U⟩=M (Z fo l.length fZ):=(C.cell (by have:=fH x _ x3c;simp at this ⊢;omega)).trans x3d;have y0:f.cell? ⟨x.heap.size,0,U⟩=M (V ⟨#[67,111,110,116,101,110,116,45,76,101,110,103,116,104]⟩):=(C.cell (p:=⟨x.heap.size,0,U⟩) (by simp)).trans (World.cell?_alloc_mark x _ _ _ 0);have y1:f.cell? ⟨x.heap.size,1,U⟩=M (V c):=(C.cell (p:=⟨x.heap.size,1,U⟩) (by simp)).trans (World.cell?_alloc_mark x _ _ _ 1);have hdt:(first++⟨#[13,10]⟩:ay).data.toList=first.data.toList++[13,10]:=by rw[Ch.data_append]
 have hsz:(first++⟨#[13,10]⟩:ay).size=first.size+2:=by rw[bL];rfl
 have hwz:w.heap.size<=x.heap.size+1:=by have:=L.size;omega
 rw[hdt] at d;rw[hsz] at uN;have ahx:Hid (Buf f w.heap.size (x.heap.size+1) aeX (first.data.toList++[13,10])):=⟨hwz,d.lt,d.le,d.max,d.holds,d.there⟩;have vP:=H9 H;have pO:Hid (∀W,Below f.heap.size f W->W.cell? ⟨w.heap.size,3,U⟩=M (Z fo l.length fZ)∧W.cell? ⟨x.heap.size,0,U⟩=M (V ⟨#[67,111,110,116,101,110,116,45,76,101,110,103,116,104]⟩)∧W.cell? ⟨x.heap.size,1,U⟩=M (V c)):=fun W y =>
  ⟨(y.cell (fH f _ y3)).trans y3,(y.cell (fH f _ y0)).trans y0,(y.cell (fH f _ y1)).trans y1⟩
 clear hb3 L hB4 C d hz4 H x3b x3c x3d hdt hsz hwz;go_upto_region 7 with fail
 go_cut [39,40,41] (fun v39 v40 v41 wd=>∃gf zA,v39=Z (M ⟨gf,0,U⟩) (l.length+1) zA∧v40=I J ((l.length:Int)+1)∧v41=I J 0∧gH wd 0 131 2 (M ⟨gf,0,U⟩) zA (l.length+1) (gG (l++[((⟨#[67,111,110,116,101,110,116,45,76,101,110,103,116,104]⟩:ay),c)]))∧Below f.heap.size f wd)
 case first =>
  have d1:Below w.heap.size w f.drew:=vP.o.trans (gy _ _);have d2:Below w.heap.size w (f.alloc (K #[V ⟨#[67,111,110,116,101,110,116,45,76,101,110,103,116,104]⟩,V c] 131)).drew:=(vP.o.trans ((eY _ _).alloc vP.o.size _)).trans (gy _ _);have Sv:Hid (Below f.heap.size f f.drew):=gy _ _;have Sw:Hid (Below f.heap.size f (f.alloc (K #[V ⟨#[67,111,110,116,101,110,116,45,76,101,110,103,116,104]⟩,V c] 131)).drew):=((eY _ _).alloc (aM _) _).trans (gy _ _);have WC:Hid (l.length+1<=maxLen∧(l.length+1)*32<=140737488355328):=⟨by unfold maxLen;omega,by omega⟩;have HD1:=H9 d1;have HD2:=H9 d2
  clear d1 d2;go_region_held_law (fun w'=>w'.cell? ⟨w.heap.size,3,U⟩=M (Z fo l.length fZ)∧w'.cell? ⟨x.heap.size,0,U⟩=M (V ⟨#[67,111,110,116,101,110,116,45,76,101,110,103,116,104]⟩)∧w'.cell? ⟨x.heap.size,1,U⟩=M (V c)) (first | go_keep | exact HK6.o | exact HK5.o | exact HKA.o) (first
   | (refine step_append_lies _ (by rfl) _ _ _ (by rfl) 0 131 i0 (.agg #[V ⟨#[]⟩,V ⟨#[]⟩]) 2 32 underlying80 Hi.o kY.o kT.o kZ.o (by rfl) (by decide) (Z xY l.length N) l.length (gG l) (by rfl) ((zk.o.mono (aA _)).alloc _) ⟨w5.heap.size,0,U⟩ 1 1 [V ⟨#[67,111,110,116,101,110,116,45,76,101,110,103,116,104]⟩,V c] (by rfl) (by rfl) (Mf _ _ _ _ rfl) (Me _ _) (by decide) WC.o.1 WC.o.2 (aA _) (w5.heap.size+1) (by simp) ?_;intro g6 cap6 w6 u v uR NU;have Yt:=H9 u;have T:=H9 (BL (nX.o.trans ((eY _ _).alloc nX.o.size _)) zk.o v HZ5.o);have HK6:=H9 (pO.o w6 T.o);clear u v uR NU;(try simp only[Act.put,List.getElem_toArray,List.getElem_cons_succ,List.getElem_cons_zero,List.setIfInBounds_toArray,dS,List.set_cons_succ]))
   | (refine step_append_lies _ (by rfl) _ _ _ (by rfl) 0 131 i0 (.agg #[V ⟨#[]⟩,V ⟨#[]⟩]) 2 32 underlying80 Hi.o kY.o kT.o kZ.o (by rfl) (by decide) (Z xY l.length N) l.length (gG l) (by rfl) (zk.o.mono (aA _)) ⟨f.heap.size,0,U⟩ 1 1 [V ⟨#[67,111,110,116,101,110,116,45,76,101,110,103,116,104]⟩,V c] (by rfl) (by rfl) HNB.o (Me _ _) (by decide) WC.o.1 WC.o.2 (aA _) w5.heap.size (by rfl) ?_;intro g6 cap6 w6 u v uR NU;have Yt:=H9 u;have T:=H9 (BL (nX.o) zk.o v HZ5.o);have HK6:=H9 (pO.o w6 T.o);clear u v uR NU;(try simp only[Act.put,List.getElem_toArray,List.getElem_cons_succ,List.getElem_cons_zero,List.setIfInBounds_toArray,dS,List.set_cons_succ]))
   | (go_at_call 190;refine(uT.o _ HD2.o).mono ?_;rintro e w5 ⟨xY,N,rfl,vX,Bq⟩;have zk:=H9 vX;have nX:=H9 (Sw.o.trans (Bq.mono (by simp)));have HZ5:Hid (f.heap.size<=(f.alloc (K #[V ⟨#[67,111,110,116,101,110,116,45,76,101,110,103,116,104]⟩,V c] 131)).drew.heap.size):=Sw.o.size;have HK5:=H9 (pO.o w5 nX.o);have HNB:=H9 (XR Bq);clear vX Bq)
   | (go_at_call 190;refine(uT.o _ HD1.o).mono ?_;rintro e w5 ⟨xY,N,rfl,vX,Bq⟩;have zk:=H9 vX;have nX:=H9 (Sv.o.trans (Bq.mono (aM _)));have HZ5:Hid (f.heap.size<=f.drew.heap.size):=Sv.o.size;have HK5:=H9 (pO.o w5 nX.o);have HKA:=H9 (pO.o _ (nX.o.trans ((eY _ w5).alloc nX.o.size (K #[V ⟨#[67,111,110,116,101,110,116,45,76,101,110,103,116,104]⟩,V c] 131))));clear vX Bq))
  all_goals (go_wp2;go_meet;exact⟨g6,cap6,rfl,rfl,rfl,by rw[pW];exact Yt.o,T.o⟩)
 case rest =>
  obtain⟨gf,zA,rfl,rfl,rfl,Ea,WE⟩:=hcut;have hfl:(l++[((⟨#[67,111,110,116,101,110,116,45,76,101,110,103,116,104]⟩:ay),c)]).length=l.length+1:=by simp
  have hfz:first.data.toList.length=first.size:=by rw[aO];rfl
  have hR0:aaV w gf zA (l++[((⟨#[67,111,110,116,101,110,116,45,76,101,110,103,116,104]⟩:ay),c)]) (first.data.toList++[13,10]) bo fU body 0 (x.heap.size+1) aeX (first.size+2) wc :=
   ⟨by simpa using ahx.o.keep WE,by simp[hfz],fun p D=>by simp at D,by rw[hfl];exact Ea.qE,zP.o.stay (vP.o.trans (WE.mono vP.o.size)),vP.o.trans (WE.mono vP.o.size)⟩
  have Ky:=H9 hR0;have Pj:=H9 hfl;obtain⟨b,hFT⟩:∃b,l++[((⟨#[67,111,110,116,101,110,116,45,76,101,110,103,116,104]⟩:ay),c)]=b:=⟨_,rfl⟩;rw[hFT] at Ky Pj HFT;have UN:=H9 hFT;clear hR0 Ea WE pO vP y0 y1 y3 uN hfl uT HI Ja HX HJ hFT;go_wp2;go_loopw [9,41] (fun vo vi wr=>∃(i n g cap:Nat),i<=l.length+1∧vi=I J i∧vo=Z (M ⟨g,0,U⟩) n cap∧aaV w gf zA b (first.data.toList++[13,10]) bo fU body i g cap n wr) (fun _ vi _=>l.length+1-(intOf vi).toNat)
  case atStart=>exact⟨0,_,_,_,aA _,rfl,rfl,Ky.o⟩
  case round =>
   obtain⟨i,n,g,cap,hi,rfl,rfl,hR⟩:=hrel;have r:=H9 hR;have hacc:=Mg (b.take i) (fun p D=>HFT.o p (List.mem_of_mem_take D));have hnl:n<=200000:=by
    have:=hR.len;rw[aV,aV] at this;have h2:(b.take i).length<=16:=by rw[bW,Pj.o];omega
    have h3:([13,10]:av).length=2:=rfl;rw[h3,hfz] at this;omega
   clear hR Ky hacc;by_cases hlt:i<l.length+1
   . have hlt':(i:Int)<(l.length:Int)+1:=by omega
     have UE:i<b.length:=by rw[Pj.o];exact hlt
     have hp1:=r.o.row.cell (mQ b i UE).1;have hp2:=r.o.row.cell (mQ b i UE).2;rw[fQ,aZ] at hp1 hp2;have hfc:=r.o.row.1;rw[Pj.o] at hfc;have hps:=HFT.o b[i] (aC UE);have htk:b.take (i+1)=b.take i++[b[i]]:=bM UE;have hbad:(Fd.text b[i].1.data.toList b[i].2.data.toList).2≠0->Rq.lines (Rq.EZ l)=.inl (Fd.text b[i].1.data.toList b[i].2.data.toList).2:=fun hc=>by
      have hil:i<l.length:=by
       rcases aT i l.length with h | h
       . exact h
       . exfalso;obtain rfl:i=l.length:=by omega
         have e:b[l.length]=((⟨#[67,111,110,116,101,110,116,45,76,101,110,103,116,104]⟩:ay),c):=by simp only[<-UN.o];simp
         rw[e] at hc;obtain⟨e1,e2,e3⟩:=Oo.o;rw[e1] at hc;exact hc e2
      have e:b[i]=l[i]:=by simp only[<-UN.o];exact List.getElem_append_left hil
      have ht:b.take i=l.take i:=by rw[<-UN.o,List.take_append_of_le_length (by omega)]
      have hz:=r.o.zero;rw[ht] at hz;rw[e] at hc ⊢;exact Rq.G9 l i hil hz hc
     have abD:=H9 hbad;have qU:=H9 htk
     generalize b[i]=p at *;have G:Below wr.heap.size wr (wr.alloc (K #[V p.1,V p.2] 131)):=(eY _ _).alloc (aM _) _;have wV:=H9 (KV p.1 p.2 (wr.alloc (K #[V p.1,V p.2] 131)) (by have:=hps.1;omega) (by have:=hps.2;omega));have hll:=QU p hps;have Zm:Hid (Rq.jB p=(Fd.text p.1.data.toList p.2.data.toList).1++[13,10]):=rfl;have Fe:=H9 G;unfold sM at wV;generalize hcd:(Fd.text p.1.data.toList p.2.data.toList).2=cd at *;generalize (Fd.text p.1.data.toList p.2.data.toList).1=tx at *;have HCd:=H9 hcd;clear hbad htk hps G UE hcd;by_cases hc0:cd=0
     . subst hc0;have hxz:((⟨tx.toArray⟩:ay)++⟨#[13,10]⟩:ay).size=tx.length+2:=by rw[bL];rfl
       have hxd:((⟨tx.toArray⟩:ay)++⟨#[13,10]⟩:ay).data.toList=tx++[13,10]:=by rw[Ch.data_append]
       have hxl:tx.length+2<=4004:=by
        have:=Zm.o;rw[this,aV] at hll;simpa using hll
       have HXz:=H9 hxz;have HXd:=H9 hxd
       clear hxz hxd hll;go_wp2_with fail
       refine wV.o.mono ?_;rintro e w5 ⟨rfl,S⟩;have hb6:=Fe.o.trans (S.mono (by simp));have T:=H9 hb6;have HU:=H9 (r.o.buf.keep hb6);clear S hb6;go_wp2_with (at_builtin;refine nT rfl (.tmp 53) (.tmp 55) 31 9 rfl 5 j0 underlying31 Hj.o NQ.o NR.o NS.o rfl HU.o r.o.len _ _ rfl (vL underlying9 _ _) (by rw[HXz.o];omega) ?_;intro g7 Fg w7 WH Eb;have HU7:=H9 WH;have OE:=H9 Eb;clear WH Eb)
       go_roundw
       case rel =>
        have hne:first.data.toList++[13,10]++(b.take i).flatMap Rq.jB≠[]:=by simp
        have aaW:=r.o.row.stay T.o;have hgf:gf≠g:=by
         have h0:0<(gG b).length:=by rw[mF,Pj.o];omega
         have hc:=aaW.cell (mQ b 0 (by rw[Pj.o];omega)).1;rw[fQ] at hc;exact acu HU.o hne (by simpa using hc)
        have hlc:first.data.toList++[13,10]++(b.take i).flatMap Rq.jB++((⟨tx.toArray⟩:ay)++⟨#[13,10]⟩:ay).data.toList=first.data.toList++[13,10]++(b.take (i+1)).flatMap Rq.jB:=by
         rw[qU.o,List.flatMap_append,HXd.o,dO];congr 2;simp[Zm.o]
        refine⟨i+1,_,g7,Fg,by omega,by go_num,rfl,⟨by rw[<-hlc];exact HU7.o,?_,?_,aaW.turns OE.o (fun a e=>by injection e with e;subst e;exact hgf),?_,?_⟩⟩
        . rw[<-hlc,aV,r.o.len,HXd.o];simp
        . intro q hq;rw[qU.o] at hq;rcases bq.1 hq with hq | hq
          . exact r.o.zero q hq
          . simp at hq;subst hq;exact HCd.o
        . exact EM zP.o (r.o.body.stay T.o) OE.o HU.o.rD
        . have h1:=r.o.below.trans (T.o.mono r.o.below.size);have h2:=OE.o.below (B:=w.heap.size) (fun k e=>by rw[e];exact HU.o.rD) h1.size;exact h1.trans h2
       case measure=>simp[intOf];omega
     . have tc:((cd:Int) != 0)=true:=by rw[cK];omega
       have HLb:=H9 (abD.o hc0);have NV:=H9 hc0
       clear hc0 hll;go_wp2_with fail
       refine wV.o.mono ?_;rintro e w5 ⟨rfl,S⟩;have T:=H9 (Fe.o.trans (S.mono (by simp)));clear S;go_wp2;(try simp only[Exit.inBlock,Exit.then]);go_ret2;refine .bad cd NV.o rfl ?_ (r.o.below.trans (T.o.mono r.o.below.size));rw[HT.o,HLb.o]
   . obtain rfl:i=l.length+1:=by omega
     have hXe:Rq.text (Rq.Z5 m t l) body=(first.data.toList++[13,10]++(b.take (l.length+1)).flatMap Rq.jB++[13,10]++body,0):=by
      have htl:b.take (l.length+1)=b:=by rw[dJ];rw[Pj.o];omega
      have hz:=r.o.zero;rw[htl] at hz;have hlz:=Rq.EL l (fun p D=>hz p (by rw[<-UN.o];exact bH _ D));obtain⟨e1,e2,e3⟩:=Oo.o;rw[HT.o,hlz,htl];simp only;rw[<-UN.o,List.flatMap_append,JE.o];have e4:[((⟨#[67,111,110,116,101,110,116,45,76,101,110,103,116,104]⟩:ay),c)].flatMap Rq.jB=Rq.MB++[58,32]++Ch.iV 8 body.length++[13,10]:=by
       have:Rq.jB ((⟨#[67,111,110,116,101,110,116,45,76,101,110,103,116,104]⟩:ay),c)=(Fd.text Rq.MB c.data.toList).1++[13,10]:=rfl;rw[aU,this,e1,e3];simp
      rw[e4];simp
     have HXe:=H9 hXe;clear hXe;go_wp2_with (first
      | (at_builtin;refine nT rfl (.tmp 58) (.const (V ⟨#[13,10]⟩)) 31 9 rfl 5 j0 underlying31 Hj.o NQ.o NR.o NS.o rfl r.o.buf r.o.len _ _ rfl (vL underlying9 _ _) (by show n+2<=_;omega) ?_;intro g7 Fg w7 WH Eb;have HU7:=H9 WH;have OE:=H9 Eb;have abF:=H9 (EM zP.o r.o.body Eb r.o.buf.rD);clear WH Eb)
      | (at_builtin;refine nT rfl (.tmp 60) (.tmp 61) 31 31 rfl 5 j0 underlying31 Hj.o NQ.o NR.o NS.o rfl HU7.o (by rw[aV,r.o.len];rfl) _ _ rfl (Uk underlying31 abF.o rfl) (by omega) ?_;intro g8 abG w8 hU8 hT8;have HU8:=H9 hU8;have HT8:=H9 hT8;clear hU8 hT8))
     go_ret2;have h7:=r.o.below.trans (OE.o.below (B:=w.heap.size) (fun k e=>by rw[e];exact r.o.buf.rD) r.o.below.size);have h8:=h7.trans (HT8.o.below (B:=w.heap.size) (fun k e=>by rw[e];exact HU7.o.rD) h7.size);refine .ok g8 abG _ rfl ?_ (by rw[HXe.o]) (by rw[HXe.o];exact HU8.o) h8;rw[HXe.o];show _=(first.data.toList++[13,10]++(b.take (l.length+1)).flatMap Rq.jB++[13,10]++body).length;rw[aV,aV,r.o.len];rfl
end Go.Proofs.YthhklgjjnaeaoaaGreatDoor