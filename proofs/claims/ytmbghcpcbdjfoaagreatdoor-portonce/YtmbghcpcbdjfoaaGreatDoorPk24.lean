import Derived.Test.YtmbghcpcbdjfoaaGreatDoorPk22
import Derived.Test.YtmbghcpcbdjfoaaGreatDoorPk14
open Go.Value renaming int->I,string->V,slice->Z,pointer->Q
open Go.IntKind renaming i64->J
open Go.Obj renaming cells->K
open Go.Ending renaming returned->Y
open Option renaming none->U,some->M
open Bool renaming false->F
open Go renaming World->X
set_option maxHeartbeats 3200000
set_option maxRecDepth 100000
open Go.Proofs.Tryz
namespace Go.Proofs.YtmbghcpcbdjfoaaGreatDoor
open Go.RowKit
def lS (l:ae)(i:Nat):Nat ⊕ (ae×Nat) :=
 if aJ l i=0 then .inl 5
 else if l[i+aJ l i]? = M 47 then
  (if aJ l (i + aJ l i + 1) = 0 then .inl 5
   else .inr (aU ((l.drop i).take (aJ l i))++[47]++aU ((l.drop (i+aJ l i+1)).take (aJ l (i+aJ l i+1))),i+aJ l i+1+aJ l (i+aJ l i+1)))
 else .inr (aU ((l.drop i).take (aJ l i)),i+aJ l i)
def Ut (m:Nat ⊕ (ae×Nat))(w:X)(g:Nat)(s:ag)(e:Ending)(w':X):Prop:=match m with
 | .inl c=>e=ft c∧al (bF g) w w'
 | .inr x=>e=Y (V ⟨x.1.toArray⟩)∧x.2<=s.size∧bE w' g s x.2∧al (bF g) w w'
theorem yP (s:ag)(i n:Nat):(s.extract i (i+n)).data.toList=(s.data.toList.drop i).take n:=by
 rw[Lib.extract_data];simp
theorem MK (a b:ae):aU (a++(47::b))=aU a++[47]++aU b:=by
 have:fR 47=47:=by decide
 simp[aU,this]
theorem RD (s:ag)(i g:Nat)(w:X)(h:bE w g s i)(f:s.size<=1000000)(z:i<=s.size):
 Calls prog 291 #[Q (M ⟨g,0,U⟩)] w fun e w'=>Ut (lS s.data.toList i) w g s e w':=by
 have k:s.data.toList.length=s.size:=by rw[cy];rfl
 have T:=vA s.data.toList i (by rw[k];exact z);rw[k] at T;by_cases j:aJ s.data.toList i=0
 . have c:Hid (lS s.data.toList i=.inl 5):=by unfold Hid lS;rw[if_pos j]
   go_enter func291,ntmps291;go_wp2_with fail;refine(xa s i g w h f z j).mono ?_;rintro e B ⟨l,d⟩;unfold ft at l;subst l;go_wp2;refine⟨rfl,?_⟩;rw[c.o];exact⟨rfl,d⟩
 . have C:=aa (zi s i g w h f z j);have hx:=yP s i (aJ s.data.toList i);have hxz:(s.extract i (i+aJ s.data.toList i)).size<=s.size:=by simp;omega
   by_cases a:s.data.toList[i+aJ s.data.toList i]? = M 47
   . have hlt:i+aJ s.data.toList i<s.size:=by
      have:=(fB.1 a).1;rwa[k] at this
     have p:=vA s.data.toList (i+aJ s.data.toList i+1) (by rw[k];omega);rw[k] at p;by_cases b:aJ s.data.toList (i+aJ s.data.toList i+1)=0
     . have c:Hid (lS s.data.toList i=.inl 5):=by unfold Hid lS;rw[if_neg j,if_pos a,if_pos b]
       have H1:=aa b;generalize aJ s.data.toList i=n at *;generalize s.extract i (i+n)=x at *;go_enter func291,ntmps291;go_wp2_with fail;refine C.o.mono ?_;rintro e w1 ⟨rfl,b,q⟩;go_wp2_with fail;refine(wU s _ g 47 _ b f a).mono ?_;rintro e B ⟨rfl,d,r⟩;have t:=q.a r (fun _ h _=>h);go_wp2_with fail;refine(xa s _ g _ d f (by omega) H1.o).mono ?_;rintro e w3 ⟨l,D⟩;unfold ft at l;subst l;have G:=t.a D (fun _ h _=>h);go_wp2;refine⟨rfl,?_⟩;rw[c.o];exact⟨rfl,G⟩
     . have hy:=yP s (i+aJ s.data.toList i+1) (aJ s.data.toList (i+aJ s.data.toList i+1));have hyz:(s.extract (i+aJ s.data.toList i+1) (i+aJ s.data.toList i+1+aJ s.data.toList (i+aJ s.data.toList i+1))).size<=s.size:=by simp;omega
       have c:Hid (lS s.data.toList i=.inr (aU (s.extract i (i+aJ s.data.toList i)).data.toList++[47]++aU (s.extract (i+aJ s.data.toList i+1) (i+aJ s.data.toList i+1+aJ s.data.toList (i+aJ s.data.toList i+1))).data.toList,i+aJ s.data.toList i+1+aJ s.data.toList (i+aJ s.data.toList i+1))):=by
        unfold Hid lS;rw[if_neg j,if_pos a,if_neg b,hx,hy]
       have HK:=fun W (H:bE W g s (i+aJ s.data.toList i+1))=>zi s (i+aJ s.data.toList i+1) g W H f (by omega) b;generalize aJ s.data.toList i=n at *;generalize aJ s.data.toList (i+n+1)=m at *;generalize s.extract i (i+n)=x at *;generalize s.extract (i+n+1) (i+n+1+m)=y at *;have hz:(x++(⟨#[47]⟩++y)).size<=maxLen:=by
        rw[mj,mj];show x.size+(1+y.size)<=maxLen;unfold maxLen;omega
       have v:=fun W=>rN (x++(⟨#[47]⟩++y)) W hz;have L:(x++(⟨#[47]⟩++y)).data.toList=x.data.toList++(47::y.data.toList):=by rw[my,my];rfl
       rw[L,MK] at v;generalize aU x.data.toList++[47]++aU y.data.toList=lo at *;go_enter func291,ntmps291;go_wp2_with fail;refine C.o.mono ?_;rintro e w1 ⟨rfl,b,q⟩;go_wp2_with fail;refine(wU s _ g 47 _ b f a).mono ?_;rintro e B ⟨rfl,d,r⟩;have t:=q.a r (fun _ h _=>h);go_wp2_with fail;refine(HK _ d).mono ?_;rintro e w3 ⟨rfl,h3,D⟩;have G:=t.a D (fun _ h _=>h);generalize hX:x++(⟨#[47]⟩++y)=xy at *;go_wp2_with fail;refine(v _).mono ?_;rintro e w4 ⟨rfl,u⟩;have N:=G.a (S':=bF g) (al.d u) (fun _ h _=>h);have S:=h3.e u;go_wp2;go_ret;rw[c.o];exact⟨rfl,p,S,N⟩
   . have c:Hid (lS s.data.toList i=.inr (aU (s.extract i (i+aJ s.data.toList i)).data.toList,i+aJ s.data.toList i)):=by
      unfold Hid lS;rw[if_neg j,if_neg a,hx]
     have HN:=fun W (H:bE W g s (i+aJ s.data.toList i))=>A3 s (i+aJ s.data.toList i) g 47 W H a;generalize aJ s.data.toList i=n at *;generalize s.extract i (i+n)=x at *;have v:=fun W=>rN x W (by unfold maxLen;omega);generalize aU x.data.toList=lo at *;go_enter func291,ntmps291;go_wp2_with fail;refine C.o.mono ?_;rintro e w1 ⟨rfl,b,q⟩;go_wp2_with fail;refine(HN _ b).mono ?_;rintro e B ⟨rfl,d,r⟩;have t:=q.a r (fun _ h _=>h);go_wp2_with fail;refine(v _).mono ?_;rintro e w4 ⟨rfl,u⟩;have N:=t.a (S':=bF g) (al.d u) (fun _ h _=>h);have S:=d.e u;go_wp2;go_ret;rw[c.o];exact⟨rfl,T,S,N⟩
def qY (l:ae)(i:Nat):Nat ⊕ (cZ×ae) :=
 if aJ l i=0 then .inl 5
 else if l[i+aJ l i]? = M 61 then (match kZ (l.drop (i+aJ l i+1)) with
  | .inl c=>.inl c
  | .inr x=>.inr ((aU ((l.drop i).take (aJ l i)),x.1),x.2))
 else .inl 5
theorem F6 (l:ae)(i:Nat):kn (l.drop i)=if l[i]? = M 59 then qY l (cl l (i+1)) else .inl 5:=by
 rw[NE];rfl
def Cp (m:Nat ⊕ (cZ×ae))(w:X)(g:Nat)(s:ag)(e:Ending)(w':X):Prop:=match m with
 | .inl c=>e=ft c∧al (bF g) w w'
 | .inr x=>e=Y (.agg #[V ⟨x.1.1.toArray⟩,V ⟨x.1.2.toArray⟩])∧(∃j,j<=s.size∧bE w' g s j∧s.data.toList.drop j=x.2)∧al (bF g) w w'
theorem Cp.a {m:Nat ⊕ (cZ×ae)}{w w':X}{g:Nat}{s:ag}{c:Nat}(a:m=.inl c)(b:al (bF g) w w'):Cp m w g s (ft c) w':=by
 subst a;exact⟨rfl,b⟩
theorem Cp.d {m:Nat ⊕ (cZ×ae)}{w w':X}{g j:Nat}{s:ag}{n v r:ae}(a:m=.inr ((n,v),r))(b:j<=s.size)(c:bE w' g s j)(hd:s.data.toList.drop j=r)(d:al (bF g) w w'):Cp m w g s (Y (.agg #[V ⟨n.toArray⟩,V ⟨v.toArray⟩])) w':=by
 subst a;exact⟨rfl,⟨j,b,c,hd⟩,d⟩
structure qQ (w:X)(g:Nat)(s:ag)(k:Nat)(W:X):Prop where
 c:W.heap[w.heap.size]? = M (K #[V ⟨#[]⟩,V ⟨#[]⟩] 237 (0,0))
 a:bE W g s k
 b:al (bF g) w W
 f:g<w.heap.size
section
variable {w W w1:X} {g k k':Nat} {s:ag}
theorem qQ.r (h:bE w g s k):qQ w g s k (w.alloc (K #[V ⟨#[]⟩,V ⟨#[]⟩] 237)) :=
 ⟨bw w _,h.e ((aq _ _).alloc (ak _) _),al.d ((aq _ _).alloc (ak _) _),h.j⟩
theorem qQ.d (h:qQ w g s k W)(b:bE w1 g s k')(a:al (bF g) W w1):qQ w g s k' w1 :=
 ⟨a.j h.c (fun e=>by have:=h.f;unfold bF at e;omega),b,h.b.a a (fun _ h _=>h),h.f⟩
theorem qQ.e (h:qQ w g s k W)(a:Below W.heap.size W w1):qQ w g s k w1:=h.d (h.a.e a) (al.d a)
theorem qQ.j (h:qQ w g s k W):W.cell? ⟨w.heap.size,0,U⟩=M (V ⟨#[]⟩)∧W.cell? ⟨w.heap.size,1,U⟩=M (V ⟨#[]⟩)∧W.frozen? ⟨w.heap.size,0,U⟩=F∧W.frozen? ⟨w.heap.size,1,U⟩=F :=
 ⟨am W _ 0 _ _ _ h.c,am W _ 1 _ _ _ h.c,aD W _ 0 _ _ h.c,aD W _ 1 _ _ h.c⟩
theorem qQ.q (h:qQ w g s k W)(a b:Value):bE ((W.setCell ⟨w.heap.size,0,U⟩ a).setCell ⟨w.heap.size,1,U⟩ b) g s k∧al (bF g) w ((W.setCell ⟨w.heap.size,0,U⟩ a).setCell ⟨w.heap.size,1,U⟩ b):=by
 have c:al (fun i=>i=w.heap.size) W ((W.setCell ⟨w.heap.size,0,U⟩ a).setCell ⟨w.heap.size,1,U⟩ b) :=
  al.a (S:=fun i=>i=w.heap.size) (al.f (fun i=>i=w.heap.size) W ⟨w.heap.size,0,U⟩ a rfl) (al.f (fun i=>i=w.heap.size) _ _ _ rfl) (fun _ h _=>h)
 have:=h.f;exact⟨h.a.r c (by omega),h.b.a c (fun i e d=>by omega)⟩
end
theorem OD (s:ag)(i g:Nat)(w:X)(h:bE w g s i)(hs:s.size<=100000)(hi:i<=s.size):
 Calls prog 294 #[Q (M ⟨g,0,U⟩)] w fun e w'=>Cp (qY s.data.toList i) w g s e w':=by
 have C:s.data.toList.length=s.size:=by rw[cy];rfl
 have hw:=vA s.data.toList i (by rw[C];exact hi);rw[C] at hw;have u:=aa (qQ.r h);clear h;by_cases h0:aJ s.data.toList i=0
 . have D:Hid (qY s.data.toList i=.inl 5):=by unfold Hid qY;rw[if_pos h0]
   have B:=aa (xa s i g _ u.o.a (by omega) hi h0);clear h0 hw C;go_enter func294,ntmps294;go_wp2_with fail;refine B.o.mono ?_;rintro e w2 ⟨k,t2⟩;unfold ft at k;subst k;have T2:=aa (u.o.b.a t2 (fun _ h _=>h));clear t2;go_wp2;exact⟨rfl,Cp.a D.o T2.out⟩
 . have B:=aa (zi s i g _ u.o.a (by omega) hi h0);have hx:=yP s i (aJ s.data.toList i);have hxz:(s.extract i (i+aJ s.data.toList i)).size<=s.size:=by simp;omega
   have d:qY s.data.toList i=if s.data.toList[i+aJ s.data.toList i]? = M 61 then (match kZ (s.data.toList.drop (i+aJ s.data.toList i+1)) with
    | .inl c=>.inl c
    | .inr x=>.inr ((aU (s.extract i (i+aJ s.data.toList i)).data.toList,x.1),x.2)) else .inl 5:=by
    unfold qY;rw[if_neg h0,hx]
   clear hx h0;generalize aJ s.data.toList i=n at *;generalize s.extract i (i+n)=x at *;have L:=aa (fun W=>rN x W (by unfold maxLen;omega));generalize aU x.data.toList=nm at *;by_cases l:s.data.toList[i+n]? = M 61
   . rw[if_pos l] at d;have hlt:i+n<s.size:=by
      have:=(fB.1 l).1;rwa[C] at this
     have N:=aa l;rw[ND] at d;have hw2:=vA s.data.toList (i+n+1) (by rw[C];omega);rw[C] at hw2;clear l;by_cases O3:s.data.toList[i+n+1]? = M 34
     . rw[if_pos O3] at d;have hlt2:i+n+1<s.size:=by
        have:=(fB.1 O3).1;rwa[C] at this
       have G:=aa O3;have HQ:=aa (fun W (S:bE W g s (i+n+1+1))=>OC s (i+n+1+1) g W S (by omega) (by omega));clear O3 C;cases hq:fy [] (s.data.toList.drop (i+n+1+1)) with
       | none =>
         rw[hq] at HQ d;have D:=aa d;clear d hq;go_enter func294,ntmps294;go_wp2_with fail;refine B.o.mono ?_;rintro e w1 ⟨rfl,a,b⟩;have q:=aa (u.o.d a b);clear a b B u;go_wp2_with fail;refine(L.o _).mono ?_;rintro e w2 ⟨rfl,t⟩;have f:=aa (q.out.e t);clear t q L;go_wp2_with fail;refine(wV s _ g 61 _ f.out.a (by omega) N.o).mono ?_;rintro e w3 ⟨rfl,a,b⟩;have p:=aa (f.out.d a b);clear a b f;go_wp2_with fail;refine(wU s _ g 34 _ p.out.a (by omega) G.o).mono ?_;rintro e w4 ⟨rfl,a,b⟩;have z:=aa (p.out.d a b);clear a b p;go_wp2_with fail;refine(HQ.o _ z.out.a).mono ?_;rintro e w5 ⟨T,k⟩;simp only[] at k;unfold ft at k;subst k;have T5:=aa (z.out.b.a T (fun _ h _=>h));clear T;go_wp2;exact⟨rfl,Cp.a D.o T5.out⟩
       | some y =>
         obtain⟨v,r⟩:=y;rw[hq] at HQ d;have D:=aa d;clear d hq;go_enter func294,ntmps294;go_wp2_with fail;refine B.o.mono ?_;rintro e w1 ⟨rfl,a,b⟩;have q:=aa (u.o.d a b);clear a b B u;go_wp2_with fail;refine(L.o _).mono ?_;rintro e w2 ⟨rfl,t⟩;have f:=aa (q.out.e t);clear t q L;go_wp2_with fail;refine(wV s _ g 61 _ f.out.a (by omega) N.o).mono ?_;rintro e w3 ⟨rfl,a,b⟩;have p:=aa (f.out.d a b);clear a b f;go_wp2_with fail;refine(wU s _ g 34 _ p.out.a (by omega) G.o).mono ?_;rintro e w4 ⟨rfl,a,b⟩;have z:=aa (p.out.d a b);clear a b p;go_wp2_with fail;refine(HQ.o _ z.out.a).mono ?_;rintro e w5 ⟨T,k⟩;simp only[] at k;obtain⟨rfl,j,hj,h5,hd⟩:=k;have P5:=aa (z.out.d h5 T);have HD:=aa hd;clear T h5 hd z;obtain⟨c0,c1,f0,f1⟩:=P5.out.j;have H:=aa (P5.out.q (V ⟨nm.toArray⟩) (V ⟨v.toArray⟩));go_wp2;refine aR (v:=.agg #[V ⟨nm.toArray⟩,V ⟨v.toArray⟩]) (by simp[results,results294,go_sem,c0,c1]) rfl ?_;exact Cp.d D.o hj H.o.1 HD.o H.o.2
     . rw[if_neg O3] at d;have G:=aa (fun W (S:bE W g s (i+n+1))=>A3 s (i+n+1) g 34 W S O3);clear O3;by_cases a:aJ s.data.toList (i+n+1)=0
       . rw[if_pos a] at d;have HK:=aa (fun W (S:bE W g s (i+n+1))=>xa s (i+n+1) g W S (by omega) (by omega) a);have D:=aa d;clear d a C;go_enter func294,ntmps294;go_wp2_with fail;refine B.o.mono ?_;rintro e w1 ⟨rfl,a,b⟩;have q:=aa (u.o.d a b);clear a b B u;go_wp2_with fail;refine(L.o _).mono ?_;rintro e w2 ⟨rfl,t⟩;have f:=aa (q.out.e t);clear t q L;go_wp2_with fail;refine(wV s _ g 61 _ f.out.a (by omega) N.o).mono ?_;rintro e w3 ⟨rfl,a,b⟩;have p:=aa (f.out.d a b);clear a b f;go_wp2_with fail;refine(G.o _ p.out.a).mono ?_;rintro e w4 ⟨rfl,a,b⟩;have z:=aa (p.out.d a b);clear a b p;go_wp2_with fail;refine(HK.o _ z.out.a).mono ?_;rintro e w5 ⟨k,T⟩;unfold ft at k;subst k;have T5:=aa (z.out.b.a T (fun _ h _=>h));clear T;go_wp2;exact⟨rfl,Cp.a D.o T5.out⟩
       . have hy:=yP s (i+n+1) (aJ s.data.toList (i+n+1));have hyz:(s.extract (i+n+1) (i+n+1+aJ s.data.toList (i+n+1))).size<=s.size:=by simp;omega
         rw[if_neg a,<-hy] at d;have HK:=aa (fun W (S:bE W g s (i+n+1))=>zi s (i+n+1) g W S (by omega) (by omega) a);have D:=aa d;clear d a C hy;generalize aJ s.data.toList (i+n+1)=m at *;generalize s.extract (i+n+1) (i+n+1+m)=y at *;have yS:=aa (fun W=>pr y W (by omega));have hye:(⟨y.data.toList.toArray⟩:ag)=y:=rfl;go_enter func294,ntmps294;go_wp2_with fail;refine B.o.mono ?_;rintro e w1 ⟨rfl,a,b⟩;have q:=aa (u.o.d a b);clear a b B u;go_wp2_with fail;refine(L.o _).mono ?_;rintro e w2 ⟨rfl,t⟩;have f:=aa (q.out.e t);clear t q L;go_wp2_with fail;refine(wV s _ g 61 _ f.out.a (by omega) N.o).mono ?_;rintro e w3 ⟨rfl,a,b⟩;have p:=aa (f.out.d a b);clear a b f;go_wp2_with fail;refine(G.o _ p.out.a).mono ?_;rintro e w4 ⟨rfl,a,b⟩;have z:=aa (p.out.d a b);clear a b p;go_wp2_with fail;refine(HK.o _ z.out.a).mono ?_;rintro e w5 ⟨rfl,a,b⟩;have P5:=aa (z.out.d a b);clear a b z;go_wp2_with fail;refine(yS.o _).mono ?_;rintro e w6 ⟨rfl,b6⟩;have P6:=aa (P5.out.e b6);clear b6 P5;obtain⟨c0,c1,f0,f1⟩:=P6.out.j;have H:=aa (P6.out.q (V ⟨nm.toArray⟩) (V y));go_wp2;refine aR (v:=.agg #[V ⟨nm.toArray⟩,V y]) (by simp[results,results294,go_sem,c0,c1]) rfl ?_;exact Cp.d D.o (j:=i+n+1+m) hw2 H.o.1 rfl H.o.2
   . rw[if_neg l] at d;have D:=aa d;have HN:=aa (fun W (S:bE W g s (i+n))=>Ij s (i+n) g 61 W S l);clear d l C;go_enter func294,ntmps294;go_wp2_with fail;refine B.o.mono ?_;rintro e w1 ⟨rfl,a,b⟩;have q:=aa (u.o.d a b);clear a b B u;go_wp2_with fail;refine(L.o _).mono ?_;rintro e w2 ⟨rfl,t⟩;have f:=aa (q.out.e t);clear t q L;go_wp2_with fail;refine(HN.o _ f.out.a).mono ?_;rintro e w3 ⟨k,t3⟩;unfold ft at k;subst k;have T3:=aa (f.out.b.a t3 (fun _ h _=>h));clear t3;go_wp2;exact⟨rfl,Cp.a D.o T3.out⟩
def yq (l:aC)(nm:ag)(r:Int):Prop :=
 (r=-1∧∀p∈l,p.1.data.toList≠nm.data.toList)∨∃k,∃h:k<l.length,r=k∧l[k].1.data.toList=nm.data.toList∧∀p∈l.take k,p.1.data.toList≠nm.data.toList
theorem MM (n v a:ag)(b:Nat)(w:X)(d:w.cell? ⟨b,0,U⟩=M (V a)):
 Calls prog 308 #[.agg #[V n,V v],Q (M ⟨b,0,U⟩)] w fun e w'=>e=Y (.bool (decide (n.data.toList=a.data.toList)))∧w'=w.alloc (K #[V n,V v] 237):=by
 have c:=RE n a;have f:=bI w _ d;have g:(w.alloc (K #[V n,V v] 237)).cell? ⟨b,0,U⟩=M (V a):=by
  rw[((aq w.heap.size w).alloc (ak _) _).cell (p:=⟨b,0,U⟩) f];exact d
 generalize decide (n.data.toList=a.data.toList)=t at c;go_enter func308,ntmps308;go_wp2;go_ret;exact⟨by rw[<-c];rfl,rfl⟩
theorem KP (l:aC)(d:ag)(ao:ai)(cap n b:Nat)(w:X)(y:bx w ao cap n (aI l))(D:l.length=n)(W:n<=1000000)(z:w.cell? ⟨b,0,U⟩=M (V d)):
 Calls prog 307 #[Z ao n cap,.func (.func 308) #[] #[Q (M ⟨b,0,U⟩)]] w fun e w'=>∃r:Int,e=Y (I J r)∧yq l d r∧Below w.heap.size w w':=by
 subst D;have B:=y.1;have G:=bI w _ z;go_enter func307,ntmps307;go_wp2;go_loopw [8] (fun t wr=>∃k:Nat,k<=l.length∧t=I J k∧Below w.heap.size w wr∧∀p∈l.take k,p.1.data.toList≠d.data.toList) (fun t _=>l.length-(intOf t).toNat)
 case atStart=>exact⟨0,ax _,rfl,aq _ _,fun p u=>by simp at u⟩
 case round =>
  obtain⟨k,hk,rfl,j,f⟩:=hrel;by_cases a:k<l.length
  . obtain⟨H,L,rfl,m⟩:=(y.a j).e (by rw[rI];omega);have N:=m _ _ (mU l k a).1;have S:wr.cell? ⟨H,L+k*2+1,U⟩=M (V l[k].2):=by
     have:=m _ _ (mU l k a).2;rwa[<-fC] at this
    have C:(k:Int)<l.length:=by omega
    have T:l.take (k+1)=l.take k++[l[k]]:=go a;have q:=MM l[k].1 l[k].2 d b wr (by rw[j.cell (p:=⟨b,0,U⟩) G];exact z);have c:Below w.heap.size w (wr.alloc (K #[V l[k].1,V l[k].2] 237)):=j.alloc j.size _;by_cases s:l[k].1.data.toList=d.data.toList
    . rw[aV s] at q;have v:yq l d k:=Or.inr ⟨k,a,rfl,s,f⟩;generalize l[k]=p at *;go_wp2_with fail;refine q.mono ?_;rintro e x ⟨rfl,o⟩;have g:Below w.heap.size w x:=by rw[o];exact c
      clear o c;go_wp2;go_ret;exact⟨k,rfl,v,g⟩
    . rw[aW s] at q;generalize l[k]=p at *;go_wp2_with fail;refine q.mono ?_;rintro e x ⟨rfl,o⟩;have g:Below w.heap.size w x:=by rw[o];exact c
      clear o c;go_wp2;go_roundw
      case rel =>
       refine⟨k+1,by omega,by go_num,g,fun r i=>?_⟩;rw[T,dm] at i;rcases i with i | i
       . exact f r i
       . rw[cD] at i;subst i;exact s
      case measure=>simp[intOf];omega
  . obtain rfl:k=l.length:=by omega
    have v:yq l d (-1):=Or.inl ⟨rfl,fun p u=>f p (by rw[fD];exact u)⟩;go_wp2;go_ret;exact⟨-1,rfl,v,j⟩
theorem zj (l:aC)(a:ag)(ao:ai)(cap n:Nat)(w:X)(f:bx w ao cap n (aI l))(g:l.length=n)(i:n<=1000000):
 Calls prog 272 #[Z ao n cap,V a] w fun e w'=>∃r:Int,e=Y (I J r)∧yq l a r∧Below w.heap.size w w':=by
 have c:Below w.heap.size w (w.alloc (K #[V a] 9)):=(aq _ _).alloc (ak _) _;have m:∀(d:Fn) (first cap:Array Value) (w:X),(Instr.makeFunc d first cap).run prog w=.ok (.func d first cap) w:=fun _ _ _ _=>rfl;go_enter func272,ntmps272;go_wp2_with fail;refine(KP l a ao cap n w.heap.size (w.alloc (K #[V a] 9)) (f.a c) g i (World.cell?_alloc_mark w _ _ _ 0)).mono ?_;rintro e o ⟨r,rfl,j,k⟩;have b:=ar c k;go_wp2;go_ret;exact⟨r,rfl,j,b⟩
theorem SY (l:aC)(a v:ag)(ao:ai)(cap n:Nat)(w:X)(f:bx w ao cap n (aI l))(g:l.length=n)(m:n<8)(b:∀p∈l,p.1.data.toList≠a.data.toList):
 Calls prog 295 #[.agg #[V a,V v],Z ao n cap] w fun e w'=>e=Y (.tuple #[])∧Below w.heap.size w w':=by
 have d:Below w.heap.size w (w.alloc (K #[V a,V v] 237)):=(aq _ _).alloc (ak _) _;have o:decide ((n:Int)≥8)=F:=by rw[cz];omega
 go_enter func295,ntmps295;go_wp2_with fail;refine(zj l a ao cap n (w.alloc (K #[V a,V v] 237)) (f.a d) g (by omega)).mono ?_;rintro e q ⟨r,rfl,i,j⟩;have c:=ar d j;obtain rfl:r=-1:=by
  rcases i with ⟨e,_⟩ | ⟨k,h,_,e,_⟩
  . exact e
  . exact absurd e (b _ (dG h))
 go_wp2;go_end0
 exact⟨rfl,c⟩
theorem OG (l:aC)(a v:ag)(ao:ai)(cap n:Nat)(w:X)(f:bx w ao cap n (aI l))(g:l.length=n)(o:8<=n)(i:n<=1000000)(b:∀p∈l,p.1.data.toList≠a.data.toList):
 Calls prog 295 #[.agg #[V a,V v],Z ao n cap] w fun e w'=>e=ft 8∧Below w.heap.size w w':=by
 have d:Below w.heap.size w (w.alloc (K #[V a,V v] 237)):=(aq _ _).alloc (ak _) _;have q:decide ((n:Int)≥8)=true:=by rw[bS];omega
 go_enter func295,ntmps295;go_wp2_with fail;refine(zj l a ao cap n (w.alloc (K #[V a,V v] 237)) (f.a d) g (by omega)).mono ?_;rintro e s ⟨r,rfl,j,m⟩;have c:=ar d m;obtain rfl:r=-1:=by
  rcases j with ⟨e,_⟩ | ⟨k,h,_,e,_⟩
  . exact e
  . exact absurd e (b _ (dG h))
 go_wp2;exact⟨rfl,rfl,c⟩
theorem MP (l:aC)(a v:ag)(ao:ai)(cap n:Nat)(w:X)(f:bx w ao cap n (aI l))(b:l.length=n)(q:n<=8)(g:∃p∈l,p.1.data.toList=a.data.toList):
 Calls prog 295 #[.agg #[V a,V v],Z ao n cap] w fun e w'=>e=ft 9∧Below w.heap.size w w':=by
 have d:Below w.heap.size w (w.alloc (K #[V a,V v] 237)):=(aq _ _).alloc (ak _) _;go_enter func295,ntmps295;go_wp2_with fail;refine(zj l a ao cap n (w.alloc (K #[V a,V v] 237)) (f.a d) b (by omega)).mono ?_;rintro e s ⟨r,rfl,i,j⟩;have c:=ar d j;have m:0<=r:=by
  rcases i with ⟨_,b⟩ | ⟨k,h,rfl,_,_⟩
  . obtain⟨p,o,e⟩:=g;exact absurd e (b p o)
  . omega
 have t:decide (r≥0)=true:=by rw[bS];exact m
 go_wp2;exact⟨rfl,rfl,c⟩
theorem Ns {r v r':ae}(h:kZ r=.inr (v,r')):r'.length<=r.length:=by
 unfold kZ at h;split at h
 . split at h
   . cases h
   . rename_i x a;injection h with h;subst h;have:=(FU _ _ _ _ _ (ak _) a).1;rw[rB] at this;omega
 . split at h
   . cases h
   . injection h with h;injection h with _ b;subst b;exact(tD (l:=r) dD).length_le
theorem Nt {r r':ae}{p:cZ}(h:kn r=.inr (p,r')):r'.length<r.length:=by
 unfold kn at h;split at h
 . rename_i b;simp only[] at h;split at h
   . cases h
   . split at h
     . split at h
       . cases h
       . rename_i x c;injection h with h;injection h with _ d;subst d;have e:=Ns (v:=x.1) (r':=x.2) c;rw[rB] at e;have g:=(tD (l:=r.tail.dropWhile eg) dD).length_le;have f:=(tD (l:=r.tail) eg).length_le;rw[rB] at f;cases r with
         | nil=>simp at b
         | cons a t =>
           rw[bO] at *;omega
     . cases h
 . cases h
def nB (l:ae)(i:Nat):Nat ⊕ (ae×List cZ):=match lS l (cl l i) with
 | .inl c=>.inl c
 | .inr x=>kY (l.length+1) x.1 (l.drop x.2) []
theorem NB (l:ae)(d:cF l=true):eh l=nB l 0:=by
 rw[Nw l d _ _ rfl rfl];unfold nB lS;by_cases b:aJ l (cl l 0)=0
 . rw[if_pos b,if_pos b]
 . rw[if_neg b,if_neg b];by_cases a:l[cl l 0+aJ l (cl l 0)]? = M 47
   . rw[if_pos a,if_pos a];by_cases c:aJ l (cl l 0+aJ l (cl l 0)+1)=0
     . rw[if_pos c,if_pos c]
     . rw[if_neg c,if_neg c]
   . rw[if_neg a,if_neg a]
def De (m:Nat ⊕ (ae×List cZ))(w:X)(g:Nat)(e:Ending)(w':X):Prop:=match m with
 | .inl c=>e=ft c∧al (bF g) w w'
 | .inr x=>∃word ps ao cap,e=Y (.agg #[V word,Z ao ps.length cap])∧word.data.toList=x.1∧dy ps=x.2∧aG w' w.heap.size 237 2 ao cap ps.length (aI ps)∧al (bF g) w w'
theorem De.a {m:Nat ⊕ (ae×List cZ)}{w w':X}{g c:Nat}(a:m=.inl c)(b:al (bF g) w w'):De m w g (ft c) w':=by
 subst a;exact⟨rfl,b⟩
structure lN (w:X)(g mb:Nat)(s:ag)(k:Nat)(word:ag)(ps:aC)(ao:ai)(cap:Nat)(wr:X):Prop where
 e:wr.heap[w.heap.size]? = M (K #[V ⟨#[]⟩,Z U 0 0] 203 (0,0))
 c:wr.heap[mb]? = M (K #[V word,Z ao ps.length cap] 203 (0,0))
 b:aG wr w.heap.size 237 2 ao cap ps.length (aI ps)
 a:bE wr g s k
 d:al (bF g) w wr
 h:g<w.heap.size
 i:w.heap.size<mb
section
variable {w wr w1 w3:X} {g mb k k':Nat} {s word:ag} {ps ps':aC} {ao gQ:ai} {cap cap':Nat}
theorem lN.q (h:lN w g mb s k word ps ao cap wr)(a:Addr)(e:ao=M a):a.block≠w.heap.size∧a.block≠mb:=by
 have b:=iJ h.e h.b (by decide);have c:=iJ h.c h.b (by decide);rw[dI,e] at b c;exact⟨fun e=>b (by simp[au,e]),fun e=>c (by simp[au,e])⟩
theorem lN.f (h:lN w g mb s k word ps ao cap wr)(c:bE w1 g s k')(b:al (bF g) wr w1):lN w g mb s k' word ps ao cap w1:=by
 have d:=h.h;have f:=h.i;exact⟨b.j h.e (fun e=>by unfold bF at e;omega),b.j h.c (fun e=>by unfold bF at e;omega),h.b.e b (fun a e i=>by have:=(h.b.d a e).1;unfold bF at i;omega),c,h.d.a b (fun _ h _=>h),d,f⟩
theorem lN.j (h:lN w g mb s k word ps ao cap wr)(a:Below wr.heap.size wr w1):lN w g mb s k word ps ao cap w1:=h.f (h.a.e a) (al.d a)
theorem lN.r (h:lN w g mb s k word ps ao cap wr):wr.cell? ⟨w.heap.size,0,U⟩=M (V ⟨#[]⟩)∧wr.cell? ⟨w.heap.size,1,U⟩=M (Z U 0 0)∧wr.frozen? ⟨w.heap.size,0,U⟩=F∧wr.frozen? ⟨w.heap.size,1,U⟩=F ∧
 wr.cell? ⟨mb,0,U⟩=M (V word)∧wr.cell? ⟨mb,1,U⟩=M (Z ao ps.length cap)∧wr.frozen? ⟨mb,0,U⟩=F∧wr.frozen? ⟨mb,1,U⟩=F :=
 ⟨am wr _ 0 _ _ _ h.e,am wr _ 1 _ _ _ h.e,aD wr _ 0 _ _ h.e,aD wr _ 1 _ _ h.e,am wr _ 0 _ _ _ h.c,am wr _ 1 _ _ _ h.c,aD wr _ 0 _ _ h.c,aD wr _ 1 _ _ h.c⟩
theorem lN.y (h:lN w g mb s k word ps ao cap wr)(b:Obj)(c:(wr.alloc b).grownBy w3 (au ao)):al (fun i=>w.heap.size<=i∧i≠w.heap.size∧i≠mb) wr w3 :=
 (al.q (qv wr b U) (fun k e => by cases e)).a (al.q (S := fun i => w.heap.size <= i ∧ i ≠ w.heap.size ∧ i ≠ mb) c (fun i e => by
  cases ao with
  | none=>simp[au] at e
  | some a=>simp only[au,iV] at e;subst e;exact⟨(h.b.d a rfl).1,(h.q a rfl).1,(h.q a rfl).2⟩)) (fun _ h _=>h)
theorem lN.G (h:lN w g mb s k word ps ao cap wr)(f:aG w3 w.heap.size 237 2 gQ cap' ps'.length (aI ps'))(b:al (fun i=>w.heap.size<=i∧i≠w.heap.size∧i≠mb) wr w3)(n:Nat)(m:n=ps'.length):lN w g mb s k word ps' gQ cap' (w3.setCell ⟨mb,1,U⟩ (Z gQ n cap')):=by
 subst m;have o:=h.h;have p:=h.i;have q:=b.j h.e (fun e=>e.2.1 rfl);have j:=b.j h.c (fun e=>e.2.2 rfl);have r:=h.a.r b (fun e=>by omega);have d:∀a,gQ=M a->a.block≠mb:=fun a e=>by
  have l:=iJ j f (by decide);rw[dI,e] at l;exact fun e=>l (by simp[au,e])
 have c:=al.f (fun i=>i=mb) w3 ⟨mb,1,U⟩ (Z gQ ps'.length cap') rfl;refine⟨c.j q (by omega),?_,f.e c (fun a e t=>d a e t),r.r c (by omega),(h.d.a b (fun i e u=>by omega)).a c (fun i e u=>by omega),o,p⟩;rw[aQ w3 mb 1 _ _ _ j];rfl
theorem lN.B (b:wr.heap[w.heap.size]? = M (K #[V ⟨#[]⟩,Z U 0 0] 203 (0,0)))(h:bE wr g s k)(d:al (bF g) w wr)(e:g<w.heap.size)(x:ag):lN w g wr.heap.size s k x [] U 0 (wr.alloc (K #[V x,Z U 0 0] 203)):=by
 have a:Below wr.heap.size wr (wr.alloc (K #[V x,Z U 0 0] 203)):=(aq _ _).alloc (ak _) _;have c:=(bH.1 b).1;exact⟨(a.block _ c).trans b,bw wr _,aG.f _ _ _ _,h.e a,d.a (S':=bF g) (al.d a) (fun _ h _=>h),e,c⟩
theorem lN.E (h:lN w g mb s k word ps ao cap wr)(a b:Value):aG ((wr.setCell ⟨w.heap.size,0,U⟩ a).setCell ⟨w.heap.size,1,U⟩ b) w.heap.size 237 2 ao cap ps.length (aI ps)∧al (bF g) w ((wr.setCell ⟨w.heap.size,0,U⟩ a).setCell ⟨w.heap.size,1,U⟩ b):=by
 have c:al (fun i=>i=w.heap.size) wr ((wr.setCell ⟨w.heap.size,0,U⟩ a).setCell ⟨w.heap.size,1,U⟩ b) :=
  al.a (S:=fun i=>i=w.heap.size) (al.f (fun i=>i=w.heap.size) wr ⟨w.heap.size,0,U⟩ a rfl) (al.f (fun i=>i=w.heap.size) _ _ _ rfl) (fun _ h _=>h)
 exact⟨h.b.e c (fun a e d=>(h.q a e).1 d),h.d.a c (fun i e f=>by omega)⟩
end
theorem RF {a:aC}{b:ae}(h:((dy a).any fun q=>q.1==b)=true):∃p∈a,p.1.data.toList=b:=by grind [dy]
theorem OH {a:aC}{b:ae}(h:¬((dy a).any fun q=>q.1==b)=true):∀p∈a,p.1.data.toList≠b:=by
 intro p c e;exact h (List.any_eq_true.2 ⟨_,jT.2 ⟨p,c,rfl⟩,by simp[e]⟩)
theorem Du (s:ag)(g:Nat)(w:X)(h:bE w g s 0)(hs:s.size<=100000):
 Calls prog 262 #[Q (M ⟨g,0,U⟩)] w fun e w'=>De (nB s.data.toList 0) w g e w':=by
 have hl:s.data.toList.length=s.size:=by rw[cy];rfl
 have hlt:=h.j;have hb0:=xX s.data.toList 0 (ax _);rw[hl] at hb0;have hB:Below w.heap.size w (w.alloc (K #[V ⟨#[]⟩,Z U 0 0] 203)):=(aq _ _).alloc (ak _) _;have R0:(w.alloc (K #[V ⟨#[]⟩,Z U 0 0] 203)).heap[w.heap.size]? = M (K #[V ⟨#[]⟩,Z U 0 0] 203 (0,0)):=bw w _;have HB:=za s 0 g _ (h.e hB) (by omega) (ax _);have T0:=al.d (S:=bF g) hB;have HW:=fun W (hW:bE W g s (cl s.data.toList 0))=>RD s (cl s.data.toList 0) g W hW (by omega) hb0;have a:nB s.data.toList 0=match lS s.data.toList (cl s.data.toList 0) with
  | .inl c=>.inl c
  | .inr x=>kY (s.data.toList.length+1) x.1 (s.data.toList.drop x.2) []:=rfl
 clear hB h;cases hm:lS s.data.toList (cl s.data.toList 0) with
 | inl c =>
   rw[hm] at HW a;clear  hm;go_enter func262,ntmps262;go_wp2_with fail;refine HB.mono ?_;rintro e w1 ⟨rfl,h1,D⟩;have T1:=T0.a D (fun _ h _=>h);clear D  T0;go_wp2_with fail;refine(HW _ h1).mono ?_;rintro e w2 ⟨z,t2⟩;unfold ft at z;subst z;have T2:=T1.a t2 (fun _ h _=>h);clear t2;go_wp2;exact⟨rfl,De.a a T2⟩
 | inr x =>
   obtain⟨wo,i1⟩:=x;rw[hm] at HW a;simp only[] at a;clear  hm;go_enter func262,ntmps262;go_wp2_with fail;refine HB.mono ?_;rintro e w1 ⟨rfl,h1,D⟩;have T1:=T0.a D (fun _ h _=>h);have S1:=D.j R0 (fun e=>by unfold bF at e;omega);clear D  T0 HB R0;go_wp2_with fail;refine(HW _ h1).mono ?_;rintro e w2 ⟨rfl,hi1,h2,t2⟩;simp only[] at hi1 h2;have T2:=T1.a t2 (fun _ h _=>h);have S2:=t2.j S1 (fun e=>by unfold bF at e;omega);have HA2:=lN.B S2 h2 T2 hlt ⟨wo.toArray⟩;clear t2 h2 T1 S1 S2 T2 HW;have hwo:(⟨wo.toArray⟩:ag).data.toList=wo:=rfl;generalize (⟨wo.toArray⟩:ag)=wb at *;go_wp2_with fail;refine(za s i1 g _ HA2.a (by omega) hi1).mono ?_;rintro e w3 ⟨rfl,h3,t3⟩;have Lc:=HA2.f h3 t3;clear h3 t3 HA2;go_wp2;go_loopw [] (fun wr=>∃(i f:Nat) (d:aC) (G:ai) (k:Nat),i<=s.size∧lN w g w2.heap.size s (cl s.data.toList i) wb d G k wr∧s.size<f+i∧d.length<=8∧nB s.data.toList 0=kY f wo (s.data.toList.drop i) (dy d)) (fun wr=>s.size-uu wr g)
   case atStart=>exact⟨i1,s.size+1,[],U,0,hi1,Lc,by omega,by simp,by have:=a;rw[hl] at this;exact this⟩
   case round =>
    clear Lc  hi1;obtain⟨i,f,d,G,k,hi,hA,hf,h8,a⟩:=hrel;obtain⟨f',rfl⟩:∃f',f=f'+1:=⟨f-1,by omega⟩;rw[NG s.data.toList f' i _ _ (by rw[hl];exact hi),hl] at a;have hb1:=xX s.data.toList i (by rw[hl];exact hi);have hb2:=FV s.data.toList i;rw[hl] at hb1;generalize cl s.data.toList i=b at *;have HAt:=hA.a.f;have B:=rR s b g wr hA.a;by_cases H:b=s.size
    . subst H;have D:decide (s.size<s.size)=F:=by rw[cz];omega
      rw[D] at B;have HR:nB s.data.toList 0=.inr (wo,dy d):=by have:=a;rw[if_pos rfl] at this;exact this
      clear  D;go_wp2_with fail;refine B.mono ?_;rintro e w4 ⟨rfl,q,hw⟩;have l:lN w g w2.heap.size s s.size wb d G k w4:=by rw[hw];exact hA.j (jp ⟨q,rfl⟩)
      clear hw  B;obtain⟨c0,c1,f0,f1,d0,d1,g0,g1⟩:=l.r;have HT:=l.E (V wb) (Z G d.length k);go_wp2;refine aR (v:=.agg #[V wb,Z G d.length k]) (by simp[results,results262,go_sem,c0,c1]) rfl ?_;rw[HR];exact⟨wb,d,G,k,rfl,hwo,rfl,HT.1,HT.2⟩
    . have hlt1:b<s.size:=by omega
      have D:decide (b<s.size)=true:=by rw[bS];omega
      rw[D] at B;have a:=a;rw[if_neg H] at a;clear  D H;go_wp2_with fail;refine B.mono ?_;rintro e w4 ⟨rfl,q,hw⟩;have l:lN w g w2.heap.size s b wb d G k w4:=by rw[hw];exact hA.j (jp ⟨q,rfl⟩)
      clear hw  B;by_cases L:s.data.toList[b]? = M 59
      . have t:=F6 s.data.toList b;rw[if_pos L] at t;have N:=fun p r'=>Nt (r:=s.data.toList.drop b) (r':=r') (p:=p);rw[t] at a N;have hb3:=xX s.data.toList (b+1) (by rw[hl];omega);rw[hl] at hb3;clear t;go_wp2_with fail;refine(wV s b g 59 _ l.a (by omega) L).mono ?_;rintro e w5 ⟨rfl,h5,t5⟩;have HA5:=l.f h5 t5;clear h5 t5 l;go_wp2_with fail;refine(za s (b+1) g _ HA5.a (by omega) (by omega)).mono ?_;rintro e w6 ⟨rfl,h6,t6⟩;have HA6:=HA5.f h6 t6;clear h6 t6 HA5;generalize cl s.data.toList (b+1)=i2 at *;have HP:=OD s i2 g w6 HA6.a hs hb3;cases hp:qY s.data.toList i2 with
        | inl c =>
          rw[hp] at a HP;clear  hp ;go_wp2_with fail;refine HP.mono ?_;rintro e w7 ⟨z,t7⟩;unfold ft at z;subst z;have T7:=HA6.d.a t7 (fun _ h _=>h);clear t7;go_wp2;exact⟨rfl,De.a a T7⟩
        | inr y =>
          obtain⟨⟨n,v⟩,r⟩:=y;rw[hp] at a HP;simp only[] at a;have N:=N _ _ hp;rw[bV,hl] at N;clear hp;go_wp2_with fail;refine HP.mono ?_;rintro e w7 ⟨rfl,⟨j,hj,h7,hd⟩,t7⟩;simp only[] at hd;subst hd;rw[bV,hl] at N;have hjb:b<j:=by omega
          have HA7:=HA6.f h7 t7;clear t7 h7  HA6 HP;have hnb:(⟨n.toArray⟩:ag).data.toList=n:=rfl;have hvb:(⟨v.toArray⟩:ag).data.toList=v:=rfl;generalize (⟨n.toArray⟩:ag)=nb at *;generalize (⟨v.toArray⟩:ag)=T at *;subst hnb;subst hvb;have hBp:Below w7.heap.size w7 (w7.alloc (K #[V nb,V T] 237)):=(aq _ _).alloc (ak _) _;have m:=HA7.j hBp;have HPb:(w7.alloc (K #[V nb,V T] 237)).heap[w7.heap.size]? = M (K #[V nb,V T] 237 (0,0)):=bw w7 _;clear hBp HA7;obtain⟨c0,c1,f0,f1,d0,d1,g0,g1⟩:=m.r;by_cases h9:((dy d).any fun q=>q.1==nb.data.toList)=true
          . rw[if_pos h9] at a;have HY:=RF h9;clear h9;go_wp2_with fail;refine(MP d nb T G k d.length _ m.b.a rfl h8 HY).mono ?_;rintro e w9 ⟨z,b9⟩;unfold ft at z;subst z;have T9:=(m.j b9).d;clear b9;go_wp2;exact⟨rfl,De.a a T9⟩
          . rw[if_neg h9] at a;have xE:=OH h9;clear h9;by_cases C:(dy d).length=8
            . rw[if_pos C] at a;rw[zb] at C;have H8:=aa C;clear  C;go_wp2_with fail;refine(OG d nb T G k d.length _ m.b.a rfl (by have:=H8.o;omega) (by omega) xE).mono ?_;rintro e w9 ⟨z,b9⟩;unfold ft at z;subst z;have T9:=aa (m.j b9).d;clear b9;go_wp2;exact⟨rfl,De.a a T9.out⟩
            . rw[if_neg C] at a;have HR:=aa a;rw[zb] at C;go_wp2_with fail;refine(SY d nb T G k d.length _ m.b.a rfl (by omega) xE).mono ?_;rintro e w9 ⟨rfl,b9⟩;have Vu:=aa (m.j b9);have agV:=aa ((b9.block _ (bH.1 HPb).1).trans HPb);clear b9 m HPb c0 c1 f0 f1 d0 d1 g0 g1 xE;obtain⟨c0,c1,f0,f1,d0,d1,g0,g1⟩:=Vu.o.r;have p0:w9.cell? ⟨w7.heap.size,0,U⟩=M (V nb):=am w9 _ 0 _ _ _ agV.o;have p1:w9.cell? ⟨w7.heap.size,1,U⟩=M (V T):=am w9 _ 1 _ _ _ agV.o;obtain⟨t0,hi0,hz0,hz1,hz2⟩:=info_parts OE;have Hi:=aa hi0;have kT:=aa hz0;have kL:=aa hz1;have kU:=aa hz2
              clear hi0 hz0 hz1 hz2;go_wp2_with (at_builtin;refine fE rfl (.tmp 27) (.tmp 29) 201 rfl w.heap.size 237 t0 (.agg #[V ⟨#[]⟩,V ⟨#[]⟩]) 2 32 underlying201 Hi.o kT.o kL.o kU.o rfl (by decide) rfl (Vu.o.b.q _) rfl (bx.d _ _ 1 _ _) rfl (fun u hu=>by simp at hu;rcases hu with rfl | rfl <;> rfl) (by omega) (by omega) (by have:=Vu.o.d.b;simp;omega) ?_;intro AZ cap5 GX yT O4 _;have wG:=Vu.o.y _ O4;have hm5:=wG.j Vu.o.c (fun e=>e.2.2 rfl);have m1:GX.cell? ⟨w2.heap.size,1,U⟩=M (Z G d.length k):=am GX _ 1 _ _ _ hm5;have mf:GX.frozen? ⟨w2.heap.size,1,U⟩=F:=aD GX _ 1 _ _ hm5;have AL:=aa yT;have oP:=aa wG;clear yT O4 wG hm5)
              have hO:=AL.o;rw[show aI d++(#[Value.string nb,Value.string T]).toList=aI (d++[(nb,T)]) by rw[wI];rfl] at hO;have aeJ:=aa (Vu.o.G (ps':=d++[(nb,T)]) (by rw[aF];exact hO) oP.o (d.length+1) (by rw[aF];rfl));clear hO AL oP Vu;refine(za s j g _ aeJ.o.a (by omega) hj).mono ?_;rintro e w11 ⟨rfl,h11,t11⟩;have agX:=aa (aeJ.o.f h11 t11);have hge:=FV s.data.toList j;clear h11 t11 aeJ;go_wp2;go_roundw
              case rel=>exact⟨j,f',d++[(nb,T)],AZ,cap5,hj,agX.o,by omega,by rw[aF];simp;omega,by rw[a,ML];rfl⟩
              case measure=>rw[agX.o.a.f,HAt];omega
      . have t:=F6 s.data.toList b;rw[if_neg L] at t;rw[t] at a;have HR:=aa a;have HN:=aa (Ij s b g 59 _ l.a L);clear  t L;go_wp2_with fail;refine HN.o.mono ?_;rintro e w5 ⟨z,t5⟩;unfold ft at z;subst z;have T5:=aa (l.d.a t5 (fun _ h _=>h));clear t5;go_wp2;exact⟨rfl,De.a HR.o T5.out⟩
theorem Jr (p:Addr)(x c:Int)(a:List PanicEntry)(w:X)(i:w.cell? p=M (I J x))(j:w.frozen? p=F):
 CallsD prog 289 #[Q (M p)] (.panicking ({ v:=.iface 323 (I J c),recovered:=F }::a)) w fun e d w' =>
  e=Y (.tuple #[])∧d=.panicking ({ v:=.iface 323 (I J c),recovered:=true }::a)∧w'=w.setCell p (I J c):=by
 refine callsD_of_wpS func289 rfl fun b k f=>?_;apply wpS_seq;apply wpS_region;simp[wpOpsS,go_sem,recoverD,f,ntmps289,Exit.thenS];change Code.wpS _ _ _ { tmps:=#[Q (M p),.iface 323 (I J c),.iface 323 (I J c),undef,undef,undef,undef],defers:=[] } _ _;refine wpS_of_wp ?_;have g:∀w:X,(Instr.typeAssert (.iface 323 (I J c)) 20 323 F).run prog w=.ok (I J c) w:=fun _=>by kernel_rfl
 go_wp2;simp[bodyPostS,results,results289]
theorem OI (p:Addr)(w:X):
 CallsD prog 289 #[Q (M p)] .returning w fun e b w'=>e=Y (.tuple #[])∧b=.returning∧w'=w:=by
 refine callsD_of_wpS func289 rfl fun a d c=>?_;apply wpS_seq;apply wpS_region;simp[wpOpsS,go_sem,recoverD,c,ntmps289,Exit.thenS];change Code.wpS _ _ _ { tmps:=#[Q (M p),.nilIface,.nilIface,undef,undef,undef,undef],defers:=[] } _ _;refine wpS_of_wp ?_;go_wp2;cases a;simp_all [bodyPostS,results,results289]
def qp (g rb:Nat):Nat->Prop:=fun k=>k=g∨k=rb
def Ce (x:ae×List cZ)(base rb:Nat)(w':X):Prop :=
 ∃word ps ao cap,w'.heap[rb]? = M (K #[V word,Z ao ps.length cap] 203 (0,0))∧word.data.toList=x.1∧dy ps=x.2∧aG w' base 237 2 ao cap ps.length (aI ps)
theorem RG (s:ag)(g d:Nat)(w:X)(h:bE w g s 0)(f:s.size<=100000)(c:Nat)(i:nB s.data.toList 0=.inl c):
 Calls prog 261 #[Q (M ⟨g,0,U⟩),Q (M ⟨d,0,U⟩)] w fun e w'=>e=ft c∧al (bF g) w w':=by
 have a:=Du s g w h f;rw[i] at a;go_enter func261,ntmps261;go_wp2_with fail;refine a.mono ?_;rintro e k ⟨b,j⟩;unfold ft at b;subst b;go_wp2;exact⟨rfl,rfl,j⟩
theorem OK (s:ag)(g b:Nat)(w:X)(h:bE w g s 0)(n:w.heap[b]? = M (K #[V ⟨#[]⟩,Z U 0 0] 203 (0,0)))(B:s.size<=100000)(x:ae×List cZ)(C:nB s.data.toList 0=.inr x):
 Calls prog 261 #[Q (M ⟨g,0,U⟩),Q (M ⟨b,0,U⟩)] w fun e w'=>e=Y (.tuple #[])∧Ce x w.heap.size b w'∧al (qp g b) w w':=by
 have t:=Du s g w h B;rw[C] at t;have p:b≠g:=by
  rintro rfl;unfold bE at h;rw[n] at h;injection h with h;injection h with _ h _;exact absurd h (by decide)
 have D:=(bH.1 n).1;go_enter func261,ntmps261;go_wp2_with fail;refine t.mono ?_;rintro e f ⟨j,l,m,c,rfl,q,r,u,v⟩;have d:=aa (v.j n (fun e=>p e));have W:=am f _ 0 _ _ _ d.o;have c1:=am f _ 1 _ _ _ d.o;have f0:=aD f _ 0 _ _ d.o;have f1:=aD f _ 1 _ _ d.o;have y:Hid (al (fun i=>i=b) f ((f.setCell ⟨b,0,U⟩ (V j)).setCell ⟨b,1,U⟩ (Z m l.length c))) :=
  al.a (S:=fun i=>i=b) (al.f (fun i=>i=b) f ⟨b,0,U⟩ (V j) rfl) (al.f (fun i=>i=b) _ _ _ rfl) (fun _ h _=>h)
 have G:Hid (((f.setCell ⟨b,0,U⟩ (V j)).setCell ⟨b,1,U⟩ (Z m l.length c)).heap[b]? = M (K #[V j,Z m l.length c] 203 (0,0))):=by
  have H:=aQ f b 0 _ _ (V j) d.o;have L:=aQ _ b 1 _ _ (Z m l.length c) H;unfold Hid;rw[L];rfl
 have N:=u.e y.o (fun a e e2=>by have:=(u.d a e).1;omega);have T:al (qp g b) w ((f.setCell ⟨b,0,U⟩ (V j)).setCell ⟨b,1,U⟩ (Z m l.length c)):=(v.e (S':=qp g b) (fun k e=>Or.inl e)).a y.o (fun i e _=>Or.inr e);have z:j.data.toList=x.1∧dy l=x.2:=⟨q,r⟩;go_wp2;go_end0
 exact⟨rfl,⟨j,l,m,c,G.o,z.1,z.2,N⟩,T⟩
theorem RH (s:ag)(g d:Nat)(w:X)(h:bE w g s 0)(q:s.size<=100000)(c:Nat)(r:nB s.data.toList 0=.inl c):
 Calls prog 260 #[.func (.func 261) #[] #[Q (M ⟨g,0,U⟩),Q (M ⟨d,0,U⟩)]] w fun e w'=>e=Y (I J (c:Int))∧al (bF g) w w':=by
 have D:∀(j:Fn) (first a:Array Value) (w:X),(Instr.makeFunc j first a).run prog w=.ok (.func j first a) w:=fun _ _ _ _=>rfl;have t:=h.j;have l:Below w.heap.size w (w.alloc (K #[I J 0] 3)):=(aq _ _).alloc (ak _) _;have u:(w.alloc (K #[I J 0] 3)).heap[w.heap.size]? = M (K #[I J 0] 3 (0,0)):=bw w _;have v:=al.d (S:=bF g) l;go_enter_defers func260,ntmps260
 go_wp2_with fail;refine(RG s g d _ (h.e l) q c r).mono ?_;rintro e b ⟨m,n⟩;unfold ft at m;subst m;have o:=n.j u (fun e=>by unfold bF at e;omega);have x:=v.a n (fun _ h _=>h);have p:=am b _ 0 _ _ _ o;have y:=aD b _ 0 _ _ o;have z:al (bF g) w (b.setCell ⟨w.heap.size,0,U⟩ (I J c)):=x.a (al.f (fun k=>k=w.heap.size) _ _ _ rfl) (fun i e G=>by omega);have B:(b.setCell ⟨w.heap.size,0,U⟩ (I J c)).cell? ⟨w.heap.size,0,U⟩=M (I J c):=tJ b _ _ p;go_wp2;refine leaves_cons (f:=289) (args:=#[Q (M ⟨w.heap.size,0,U⟩)]) (by simp) (by simp[go_sem]) ?_;refine(Jr ⟨w.heap.size,0,U⟩ 0 c [] _ p y).mono ?_;rintro e H C ⟨rfl,rfl,rfl⟩;simp[Leaves,settle,results,results260,go_sem,B];exact z
theorem OL (s:ag)(g b:Nat)(w:X)(h:bE w g s 0)(q:w.heap[b]? = M (K #[V ⟨#[]⟩,Z U 0 0] 203 (0,0)))(z:s.size<=100000)(x:ae×List cZ)(B:nB s.data.toList 0=.inr x):
 Calls prog 260 #[.func (.func 261) #[] #[Q (M ⟨g,0,U⟩),Q (M ⟨b,0,U⟩)]] w fun e w'=>e=Y (I J 0)∧Ce x w.heap.size b w'∧al (qp g b) w w':=by
 have Te:∀(r:Fn) (first c:Array Value) (w:X),(Instr.makeFunc r first c).run prog w=.ok (.func r first c) w:=fun _ _ _ _=>rfl;have C:=h.j;have j:=(bH.1 q).1;have l:Below w.heap.size w (w.alloc (K #[I J 0] 3)):=(aq _ _).alloc (ak _) _;have D:(w.alloc (K #[I J 0] 3)).heap[w.heap.size]? = M (K #[I J 0] 3 (0,0)):=bw w _;have t:=OK s g b _ (h.e l) ((l.block b j).trans q) z x B;have G:=al.d (S:=qp g b) l;have H:(w.alloc (K #[I J 0] 3)).heap.size=w.heap.size+1:=by simp
 rw[H] at t;go_enter_defers func260,ntmps260
 go_wp2_with fail;refine t.mono ?_;rintro e d ⟨rfl,⟨L,N,T,c,W,m,n,u⟩,v⟩;have y:=v.j D (fun e=>by unfold qp at e;omega);have T1:=G.a v (fun _ h _=>h);have c0:=am d _ 0 _ _ _ y;have f0:=aD d _ 0 _ _ y;have p:=al.f (fun k=>k=w.heap.size) d ⟨w.heap.size,0,U⟩ (I J 0) rfl;have T2:al (qp g b) w (d.setCell ⟨w.heap.size,0,U⟩ (I J 0)):=T1.a p (fun i e hi=>by omega);have HI:Hid (Ce x w.heap.size b (d.setCell ⟨w.heap.size,0,U⟩ (I J 0))) :=
  ⟨L,N,T,c,p.j W (by omega),m,n,(u.e p (fun a e e2=>by have:=(u.d a e).1;omega)).j (by omega)⟩
 have c2:(d.setCell ⟨w.heap.size,0,U⟩ (I J 0)).cell? ⟨w.heap.size,0,U⟩=M (I J 0):=tJ d _ _ c0;go_wp2;refine leaves_cons (f:=289) (args:=#[Q (M ⟨w.heap.size,0,U⟩)]) (by simp) (by simp[go_sem]) ?_;refine(OI ⟨w.heap.size,0,U⟩ _).mono ?_;rintro e u' w'' ⟨rfl,rfl,rfl⟩;simp[Leaves,settle,results,results260,go_sem,c2];exact⟨HI.o,T2⟩
