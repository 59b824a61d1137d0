import Derived.Test.YtodmelffkfbalaaGreatDoorPk24
import Derived.Test.YtodmelffkfbalaaGreatDoorPk16
open Go.Value renaming int->I,string->V,slice->Z,pointer->Q
open Go.IntKind renaming i64->J
open Go.Obj renaming cells->K
open Go.Ending renaming returned->Y
open Option renaming none->U,some->M
open Bool renaming false->F
open Go renaming World->X
set_option maxHeartbeats 3200000
set_option maxRecDepth 100000
open Go.Proofs.Tryz
namespace Go.Proofs.YtodmelffkfbalaaGreatDoor
open Go.RowKit
def ly (l:ab)(i:Nat):Nat ⊕ (ab×Nat) :=
 if aF l i=0 then .inl 5
 else if l[i+aF l i]? = M 47 then
  (if aF l (i + aF l i + 1) = 0 then .inl 5
   else .inr (be ((l.drop i).take (aF l i))++[47]++be ((l.drop (i+aF l i+1)).take (aF l (i+aF l i+1))),i+aF l i+1+aF l (i+aF l i+1)))
 else .inr (be ((l.drop i).take (aF l i)),i+aF l i)
def Tb (m:Nat ⊕ (ab×Nat))(w:X)(g:Nat)(s:ae)(e:Ending)(w':X):Prop:=match m with
 | .inl c=>e=eU c∧am (bD g) w w'
 | .inr x=>e=Y (V ⟨x.1.toArray⟩)∧x.2<=s.size∧bC w' g s x.2∧am (bD g) w w'
theorem ye (s:ae)(i n:Nat):(s.extract i (i+n)).data.toList=(s.data.toList.drop i).take n:=by
 rw[Lib.extract_data];simp
theorem L9 (a b:ab):be (a++(47::b))=be a++[47]++be b:=by
 have:lZ 47=47:=by decide
 simp[be,this]
theorem PF (s:ae)(i g:Nat)(w:X)(h:bC w g s i)(f:s.size<=1000000)(z:i<=s.size):
 Calls prog 334 #[Q (M ⟨g,0,U⟩)] w fun e w'=>Tb (ly s.data.toList i) w g s e w':=by
 have k:s.data.toList.length=s.size:=by rw[cJ];rfl
 have T:=uD s.data.toList i (by rw[k];exact z);rw[k] at T;by_cases j:aF s.data.toList i=0
 . have c:Hid (ly s.data.toList i=.inl 5):=by unfold Hid ly;rw[if_pos j]
   go_enter func334,ntmps334;go_wp2_with fail;refine(yz s i g w h f z j).mono ?_;rintro e B ⟨l,d⟩;unfold eU at l;subst l;go_wp2;refine⟨rfl,?_⟩;rw[c.o];exact⟨rfl,d⟩
 . have C:=aa (yr s i g w h f z j);have hx:=ye s i (aF s.data.toList i);have hxz:(s.extract i (i+aF s.data.toList i)).size<=s.size:=by simp;omega
   by_cases a:s.data.toList[i+aF s.data.toList i]? = M 47
   . have hlt:i+aF s.data.toList i<s.size:=by
      have:=(fe.1 a).1;rwa[k] at this
     have p:=uD s.data.toList (i+aF s.data.toList i+1) (by rw[k];omega);rw[k] at p;by_cases b:aF s.data.toList (i+aF s.data.toList i+1)=0
     . have c:Hid (ly s.data.toList i=.inl 5):=by unfold Hid ly;rw[if_neg j,if_pos a,if_pos b]
       have H1:=aa b;generalize aF s.data.toList i=n at *;generalize s.extract i (i+n)=x at *;go_enter func334,ntmps334;go_wp2_with fail;refine C.o.mono ?_;rintro e w1 ⟨rfl,b,q⟩;go_wp2_with fail;refine(vQ s _ g 47 _ b f a).mono ?_;rintro e B ⟨rfl,d,r⟩;have t:=q.a r (fun _ h _=>h);go_wp2_with fail;refine(yz s _ g _ d f (by omega) H1.o).mono ?_;rintro e w3 ⟨l,D⟩;unfold eU at l;subst l;have G:=t.a D (fun _ h _=>h);go_wp2;refine⟨rfl,?_⟩;rw[c.o];exact⟨rfl,G⟩
     . have hy:=ye s (i+aF s.data.toList i+1) (aF s.data.toList (i+aF s.data.toList i+1));have hyz:(s.extract (i+aF s.data.toList i+1) (i+aF s.data.toList i+1+aF s.data.toList (i+aF s.data.toList i+1))).size<=s.size:=by simp;omega
       have c:Hid (ly s.data.toList i=.inr (be (s.extract i (i+aF s.data.toList i)).data.toList++[47]++be (s.extract (i+aF s.data.toList i+1) (i+aF s.data.toList i+1+aF s.data.toList (i+aF s.data.toList i+1))).data.toList,i+aF s.data.toList i+1+aF s.data.toList (i+aF s.data.toList i+1))):=by
        unfold Hid ly;rw[if_neg j,if_pos a,if_neg b,hx,hy]
       have HK:=fun W (H:bC W g s (i+aF s.data.toList i+1))=>yr s (i+aF s.data.toList i+1) g W H f (by omega) b;generalize aF s.data.toList i=n at *;generalize aF s.data.toList (i+n+1)=m at *;generalize s.extract i (i+n)=x at *;generalize s.extract (i+n+1) (i+n+1+m)=y at *;have hz:(x++(⟨#[47]⟩++y)).size<=maxLen:=by
        rw[mB,mB];show x.size+(1+y.size)<=maxLen;unfold maxLen;omega
       have v:=fun W=>rj (x++(⟨#[47]⟩++y)) W hz;have L:(x++(⟨#[47]⟩++y)).data.toList=x.data.toList++(47::y.data.toList):=by rw[ma,ma];rfl
       rw[L,L9] at v;generalize be x.data.toList++[47]++be y.data.toList=lo at *;go_enter func334,ntmps334;go_wp2_with fail;refine C.o.mono ?_;rintro e w1 ⟨rfl,b,q⟩;go_wp2_with fail;refine(vQ s _ g 47 _ b f a).mono ?_;rintro e B ⟨rfl,d,r⟩;have t:=q.a r (fun _ h _=>h);go_wp2_with fail;refine(HK _ d).mono ?_;rintro e w3 ⟨rfl,h3,D⟩;have G:=t.a D (fun _ h _=>h);generalize hX:x++(⟨#[47]⟩++y)=xy at *;go_wp2_with fail;refine(v _).mono ?_;rintro e w4 ⟨rfl,u⟩;have N:=G.a (S':=bD g) (am.f u) (fun _ h _=>h);have S:=h3.j u;go_wp2;go_ret;rw[c.o];exact⟨rfl,p,S,N⟩
   . have c:Hid (ly s.data.toList i=.inr (be (s.extract i (i+aF s.data.toList i)).data.toList,i+aF s.data.toList i)):=by
      unfold Hid ly;rw[if_neg j,if_neg a,hx]
     have HN:=fun W (H:bC W g s (i+aF s.data.toList i))=>Aj s (i+aF s.data.toList i) g 47 W H a;generalize aF s.data.toList i=n at *;generalize s.extract i (i+n)=x at *;have v:=fun W=>rj x W (by unfold maxLen;omega);generalize be x.data.toList=lo at *;go_enter func334,ntmps334;go_wp2_with fail;refine C.o.mono ?_;rintro e w1 ⟨rfl,b,q⟩;go_wp2_with fail;refine(HN _ b).mono ?_;rintro e B ⟨rfl,d,r⟩;have t:=q.a r (fun _ h _=>h);go_wp2_with fail;refine(v _).mono ?_;rintro e w4 ⟨rfl,u⟩;have N:=t.a (S':=bD g) (am.f u) (fun _ h _=>h);have S:=d.j u;go_wp2;go_ret;rw[c.o];exact⟨rfl,T,S,N⟩
def qv (l:ab)(i:Nat):Nat ⊕ (cW×ab) :=
 if aF l i=0 then .inl 5
 else if l[i+aF l i]? = M 61 then (match kI (l.drop (i+aF l i+1)) with
  | .inl c=>.inl c
  | .inr x=>.inr ((be ((l.drop i).take (aF l i)),x.1),x.2))
 else .inl 5
theorem Fq (l:ab)(i:Nat):kd (l.drop i)=if l[i]? = M 59 then qv l (cn l (i+1)) else .inl 5:=by
 rw[NG];rfl
def BC (m:Nat ⊕ (cW×ab))(w:X)(g:Nat)(s:ae)(e:Ending)(w':X):Prop:=match m with
 | .inl c=>e=eU c∧am (bD g) w w'
 | .inr x=>e=Y (.agg #[V ⟨x.1.1.toArray⟩,V ⟨x.1.2.toArray⟩])∧(∃j,j<=s.size∧bC w' g s j∧s.data.toList.drop j=x.2)∧am (bD g) w w'
theorem BC.a {m:Nat ⊕ (cW×ab)}{w w':X}{g:Nat}{s:ae}{c:Nat}(a:m=.inl c)(b:am (bD g) w w'):BC m w g s (eU c) w':=by
 subst a;exact⟨rfl,b⟩
theorem BC.f {m:Nat ⊕ (cW×ab)}{w w':X}{g j:Nat}{s:ae}{n v r:ab}(a:m=.inr ((n,v),r))(b:j<=s.size)(c:bC w' g s j)(hd:s.data.toList.drop j=r)(d:am (bD g) w w'):BC m w g s (Y (.agg #[V ⟨n.toArray⟩,V ⟨v.toArray⟩])) w':=by
 subst a;exact⟨rfl,⟨j,b,c,hd⟩,d⟩
structure qc (w:X)(g:Nat)(s:ae)(k:Nat)(W:X):Prop where
 c:W.heap[w.heap.size]? = M (K #[V ⟨#[]⟩,V ⟨#[]⟩] 283 (0,0))
 a:bC W g s k
 b:am (bD g) w W
 d:g<w.heap.size
section
variable {w W w1:X} {g k k':Nat} {s:ae}
theorem qc.B (h:bC w g s k):qc w g s k (w.alloc (K #[V ⟨#[]⟩,V ⟨#[]⟩] 283)) :=
 ⟨aX w _,h.j ((ar _ _).alloc (ak _) _),am.f ((ar _ _).alloc (ak _) _),h.y⟩
theorem qc.f (h:qc w g s k W)(b:bC w1 g s k')(a:am (bD g) W w1):qc w g s k' w1 :=
 ⟨a.y h.c (fun e=>by have:=h.d;unfold bD at e;omega),b,h.b.a a (fun _ h _=>h),h.d⟩
theorem qc.j (h:qc w g s k W)(a:Below W.heap.size W w1):qc w g s k w1:=h.f (h.a.j a) (am.f a)
theorem qc.r (h:qc w g s k W):W.cell? ⟨w.heap.size,0,U⟩=M (V ⟨#[]⟩)∧W.cell? ⟨w.heap.size,1,U⟩=M (V ⟨#[]⟩)∧W.frozen? ⟨w.heap.size,0,U⟩=F∧W.frozen? ⟨w.heap.size,1,U⟩=F :=
 ⟨aq W _ 0 _ _ _ h.c,aq W _ 1 _ _ _ h.c,aN W _ 0 _ _ h.c,aN W _ 1 _ _ h.c⟩
theorem qc.y (h:qc w g s k W)(a b:Value):bC ((W.setCell ⟨w.heap.size,0,U⟩ a).setCell ⟨w.heap.size,1,U⟩ b) g s k∧am (bD g) w ((W.setCell ⟨w.heap.size,0,U⟩ a).setCell ⟨w.heap.size,1,U⟩ b):=by
 have c:am (fun i=>i=w.heap.size) W ((W.setCell ⟨w.heap.size,0,U⟩ a).setCell ⟨w.heap.size,1,U⟩ b) :=
  am.a (S:=fun i=>i=w.heap.size) (am.r (fun i=>i=w.heap.size) W ⟨w.heap.size,0,U⟩ a rfl) (am.r (fun i=>i=w.heap.size) _ _ _ rfl) (fun _ h _=>h)
 have:=h.d;exact⟨h.a.G c (by omega),h.b.a c (fun i e d=>by omega)⟩
end
theorem Nb (s:ae)(i g:Nat)(w:X)(h:bC w g s i)(hs:s.size<=100000)(hi:i<=s.size):
 Calls prog 337 #[Q (M ⟨g,0,U⟩)] w fun e w'=>BC (qv s.data.toList i) w g s e w':=by
 have C:s.data.toList.length=s.size:=by rw[cJ];rfl
 have hw:=uD s.data.toList i (by rw[C];exact hi);rw[C] at hw;have u:=aa (qc.B h);clear h;by_cases h0:aF s.data.toList i=0
 . have D:Hid (qv s.data.toList i=.inl 5):=by unfold Hid qv;rw[if_pos h0]
   have B:=aa (yz s i g _ u.o.a (by omega) hi h0);clear h0 hw C;go_enter func337,ntmps337;go_wp2_with fail;refine B.o.mono ?_;rintro e w2 ⟨k,t2⟩;unfold eU at k;subst k;have T2:=aa (u.o.b.a t2 (fun _ h _=>h));clear t2;go_wp2;exact⟨rfl,BC.a D.o T2.out⟩
 . have B:=aa (yr s i g _ u.o.a (by omega) hi h0);have hx:=ye s i (aF s.data.toList i);have hxz:(s.extract i (i+aF s.data.toList i)).size<=s.size:=by simp;omega
   have d:qv s.data.toList i=if s.data.toList[i+aF s.data.toList i]? = M 61 then (match kI (s.data.toList.drop (i+aF s.data.toList i+1)) with
    | .inl c=>.inl c
    | .inr x=>.inr ((be (s.extract i (i+aF s.data.toList i)).data.toList,x.1),x.2)) else .inl 5:=by
    unfold qv;rw[if_neg h0,hx]
   clear hx h0;generalize aF s.data.toList i=n at *;generalize s.extract i (i+n)=x at *;have L:=aa (fun W=>rj x W (by unfold maxLen;omega));generalize be x.data.toList=nm at *;by_cases l:s.data.toList[i+n]? = M 61
   . rw[if_pos l] at d;have hlt:i+n<s.size:=by
      have:=(fe.1 l).1;rwa[C] at this
     have N:=aa l;rw[NF] at d;have hw2:=uD s.data.toList (i+n+1) (by rw[C];omega);rw[C] at hw2;clear l;by_cases NK:s.data.toList[i+n+1]? = M 34
     . rw[if_pos NK] at d;have hlt2:i+n+1<s.size:=by
        have:=(fe.1 NK).1;rwa[C] at this
       have G:=aa NK;have HQ:=aa (fun W (S:bC W g s (i+n+1+1))=>Na s (i+n+1+1) g W S (by omega) (by omega));clear NK C;cases hq:eY [] (s.data.toList.drop (i+n+1+1)) with
       | none =>
         rw[hq] at HQ d;have D:=aa d;clear d hq;go_enter func337,ntmps337;go_wp2_with fail;refine B.o.mono ?_;rintro e w1 ⟨rfl,a,b⟩;have q:=aa (u.o.f a b);clear a b B u;go_wp2_with fail;refine(L.o _).mono ?_;rintro e w2 ⟨rfl,t⟩;have f:=aa (q.out.j t);clear t q L;go_wp2_with fail;refine(vR s _ g 61 _ f.out.a (by omega) N.o).mono ?_;rintro e w3 ⟨rfl,a,b⟩;have p:=aa (f.out.f a b);clear a b f;go_wp2_with fail;refine(vQ s _ g 34 _ p.out.a (by omega) G.o).mono ?_;rintro e w4 ⟨rfl,a,b⟩;have z:=aa (p.out.f a b);clear a b p;go_wp2_with fail;refine(HQ.o _ z.out.a).mono ?_;rintro e w5 ⟨T,k⟩;simp only[] at k;unfold eU at k;subst k;have T5:=aa (z.out.b.a T (fun _ h _=>h));clear T;go_wp2;exact⟨rfl,BC.a D.o T5.out⟩
       | some y =>
         obtain⟨v,r⟩:=y;rw[hq] at HQ d;have D:=aa d;clear d hq;go_enter func337,ntmps337;go_wp2_with fail;refine B.o.mono ?_;rintro e w1 ⟨rfl,a,b⟩;have q:=aa (u.o.f a b);clear a b B u;go_wp2_with fail;refine(L.o _).mono ?_;rintro e w2 ⟨rfl,t⟩;have f:=aa (q.out.j t);clear t q L;go_wp2_with fail;refine(vR s _ g 61 _ f.out.a (by omega) N.o).mono ?_;rintro e w3 ⟨rfl,a,b⟩;have p:=aa (f.out.f a b);clear a b f;go_wp2_with fail;refine(vQ s _ g 34 _ p.out.a (by omega) G.o).mono ?_;rintro e w4 ⟨rfl,a,b⟩;have z:=aa (p.out.f a b);clear a b p;go_wp2_with fail;refine(HQ.o _ z.out.a).mono ?_;rintro e w5 ⟨T,k⟩;simp only[] at k;obtain⟨rfl,j,hj,h5,hd⟩:=k;have P5:=aa (z.out.f h5 T);have HD:=aa hd;clear T h5 hd z;obtain⟨c0,c1,f0,f1⟩:=P5.out.r;have H:=aa (P5.out.y (V ⟨nm.toArray⟩) (V ⟨v.toArray⟩));go_wp2;refine aR (v:=.agg #[V ⟨nm.toArray⟩,V ⟨v.toArray⟩]) (by simp[results,results337,go_sem,c0,c1]) rfl ?_;exact BC.f D.o hj H.o.1 HD.o H.o.2
     . rw[if_neg NK] at d;have G:=aa (fun W (S:bC W g s (i+n+1))=>Aj s (i+n+1) g 34 W S NK);clear NK;by_cases a:aF s.data.toList (i+n+1)=0
       . rw[if_pos a] at d;have HK:=aa (fun W (S:bC W g s (i+n+1))=>yz s (i+n+1) g W S (by omega) (by omega) a);have D:=aa d;clear d a C;go_enter func337,ntmps337;go_wp2_with fail;refine B.o.mono ?_;rintro e w1 ⟨rfl,a,b⟩;have q:=aa (u.o.f a b);clear a b B u;go_wp2_with fail;refine(L.o _).mono ?_;rintro e w2 ⟨rfl,t⟩;have f:=aa (q.out.j t);clear t q L;go_wp2_with fail;refine(vR s _ g 61 _ f.out.a (by omega) N.o).mono ?_;rintro e w3 ⟨rfl,a,b⟩;have p:=aa (f.out.f a b);clear a b f;go_wp2_with fail;refine(G.o _ p.out.a).mono ?_;rintro e w4 ⟨rfl,a,b⟩;have z:=aa (p.out.f a b);clear a b p;go_wp2_with fail;refine(HK.o _ z.out.a).mono ?_;rintro e w5 ⟨k,T⟩;unfold eU at k;subst k;have T5:=aa (z.out.b.a T (fun _ h _=>h));clear T;go_wp2;exact⟨rfl,BC.a D.o T5.out⟩
       . have hy:=ye s (i+n+1) (aF s.data.toList (i+n+1));have hyz:(s.extract (i+n+1) (i+n+1+aF s.data.toList (i+n+1))).size<=s.size:=by simp;omega
         rw[if_neg a,<-hy] at d;have HK:=aa (fun W (S:bC W g s (i+n+1))=>yr s (i+n+1) g W S (by omega) (by omega) a);have D:=aa d;clear d a C hy;generalize aF s.data.toList (i+n+1)=m at *;generalize s.extract (i+n+1) (i+n+1+m)=y at *;have xC:=aa (fun W=>oS y W (by omega));have hye:(⟨y.data.toList.toArray⟩:ae)=y:=rfl;go_enter func337,ntmps337;go_wp2_with fail;refine B.o.mono ?_;rintro e w1 ⟨rfl,a,b⟩;have q:=aa (u.o.f a b);clear a b B u;go_wp2_with fail;refine(L.o _).mono ?_;rintro e w2 ⟨rfl,t⟩;have f:=aa (q.out.j t);clear t q L;go_wp2_with fail;refine(vR s _ g 61 _ f.out.a (by omega) N.o).mono ?_;rintro e w3 ⟨rfl,a,b⟩;have p:=aa (f.out.f a b);clear a b f;go_wp2_with fail;refine(G.o _ p.out.a).mono ?_;rintro e w4 ⟨rfl,a,b⟩;have z:=aa (p.out.f a b);clear a b p;go_wp2_with fail;refine(HK.o _ z.out.a).mono ?_;rintro e w5 ⟨rfl,a,b⟩;have P5:=aa (z.out.f a b);clear a b z;go_wp2_with fail;refine(xC.o _).mono ?_;rintro e w6 ⟨rfl,b6⟩;have P6:=aa (P5.out.j b6);clear b6 P5;obtain⟨c0,c1,f0,f1⟩:=P6.out.r;have H:=aa (P6.out.y (V ⟨nm.toArray⟩) (V y));go_wp2;refine aR (v:=.agg #[V ⟨nm.toArray⟩,V y]) (by simp[results,results337,go_sem,c0,c1]) rfl ?_;exact BC.f D.o (j:=i+n+1+m) hw2 H.o.1 rfl H.o.2
   . rw[if_neg l] at d;have D:=aa d;have HN:=aa (fun W (S:bC W g s (i+n))=>FD s (i+n) g 61 W S l);clear d l C;go_enter func337,ntmps337;go_wp2_with fail;refine B.o.mono ?_;rintro e w1 ⟨rfl,a,b⟩;have q:=aa (u.o.f a b);clear a b B u;go_wp2_with fail;refine(L.o _).mono ?_;rintro e w2 ⟨rfl,t⟩;have f:=aa (q.out.j t);clear t q L;go_wp2_with fail;refine(HN.o _ f.out.a).mono ?_;rintro e w3 ⟨k,t3⟩;unfold eU at k;subst k;have T3:=aa (f.out.b.a t3 (fun _ h _=>h));clear t3;go_wp2;exact⟨rfl,BC.a D.o T3.out⟩
def xr (l:aC)(nm:ae)(r:Int):Prop :=
 (r=-1∧∀p∈l,p.1.data.toList≠nm.data.toList)∨∃k,∃h:k<l.length,r=k∧l[k].1.data.toList=nm.data.toList∧∀p∈l.take k,p.1.data.toList≠nm.data.toList
theorem Mb (n v a:ae)(b:Nat)(w:X)(d:w.cell? ⟨b,0,U⟩=M (V a)):
 Calls prog 350 #[.agg #[V n,V v],Q (M ⟨b,0,U⟩)] w fun e w'=>e=Y (.bool (decide (n.data.toList=a.data.toList)))∧w'=w.alloc (K #[V n,V v] 283):=by
 have c:=PG n a;have f:=bY w _ d;have g:(w.alloc (K #[V n,V v] 283)).cell? ⟨b,0,U⟩=M (V a):=by
  rw[((ar w.heap.size w).alloc (ak _) _).cell (p:=⟨b,0,U⟩) f];exact d
 generalize decide (n.data.toList=a.data.toList)=t at c;go_enter func350,ntmps350;go_wp2;go_ret;exact⟨by rw[<-c];rfl,rfl⟩
theorem KO (l:aC)(d:ae)(ao:ag)(cap n b:Nat)(w:X)(y:bq w ao cap n (aI l))(D:l.length=n)(W:n<=1000000)(z:w.cell? ⟨b,0,U⟩=M (V d)):
 Calls prog 349 #[Z ao n cap,.func (.func 350) #[] #[Q (M ⟨b,0,U⟩)]] w fun e w'=>∃r:Int,e=Y (I J r)∧xr l d r∧Below w.heap.size w w':=by
 subst D;have B:=y.1;have G:=bY w _ z;go_enter func349,ntmps349;go_wp2;go_loopw [8] (fun t wr=>∃k:Nat,k<=l.length∧t=I J k∧Below w.heap.size w wr∧∀p∈l.take k,p.1.data.toList≠d.data.toList) (fun t _=>l.length-(intOf t).toNat)
 case atStart=>exact⟨0,ax _,rfl,ar _ _,fun p u=>by simp at u⟩
 case round =>
  obtain⟨k,hk,rfl,j,f⟩:=hrel;by_cases a:k<l.length
  . obtain⟨H,L,rfl,m⟩:=(y.a j).f (by rw[sO];omega);have N:=m _ _ (om l k a).1;have S:wr.cell? ⟨H,L+k*2+1,U⟩=M (V l[k].2):=by
     have:=m _ _ (om l k a).2;rwa[<-gE] at this
    have C:(k:Int)<l.length:=by omega
    have T:l.take (k+1)=l.take k++[l[k]]:=fR a;have q:=Mb l[k].1 l[k].2 d b wr (by rw[j.cell (p:=⟨b,0,U⟩) G];exact z);have c:Below w.heap.size w (wr.alloc (K #[V l[k].1,V l[k].2] 283)):=j.alloc j.size _;by_cases s:l[k].1.data.toList=d.data.toList
    . rw[br s] at q;have v:xr l d k:=Or.inr ⟨k,a,rfl,s,f⟩;generalize l[k]=p at *;go_wp2_with fail;refine q.mono ?_;rintro e x ⟨rfl,o⟩;have g:Below w.heap.size w x:=by rw[o];exact c
      clear o c;go_wp2;go_ret;exact⟨k,rfl,v,g⟩
    . rw[ba s] at q;generalize l[k]=p at *;go_wp2_with fail;refine q.mono ?_;rintro e x ⟨rfl,o⟩;have g:Below w.heap.size w x:=by rw[o];exact c
      clear o c;go_wp2;go_roundw
      case rel =>
       refine⟨k+1,by omega,by go_num,g,fun r i=>?_⟩;rw[T,eC] at i;rcases i with i | i
       . exact f r i
       . rw[cY] at i;subst i;exact s
      case measure=>simp[intOf];omega
  . obtain rfl:k=l.length:=by omega
    have v:xr l d (-1):=Or.inl ⟨rfl,fun p u=>f p (by rw[eQ];exact u)⟩;go_wp2;go_ret;exact⟨-1,rfl,v,j⟩
theorem ys (l:aC)(a:ae)(ao:ag)(cap n:Nat)(w:X)(f:bq w ao cap n (aI l))(g:l.length=n)(i:n<=1000000):
 Calls prog 316 #[Z ao n cap,V a] w fun e w'=>∃r:Int,e=Y (I J r)∧xr l a r∧Below w.heap.size w w':=by
 have c:Below w.heap.size w (w.alloc (K #[V a] 9)):=(ar _ _).alloc (ak _) _;have m:∀(d:Fn) (first cap:Array Value) (w:X),(Instr.makeFunc d first cap).run prog w=.ok (.func d first cap) w:=fun _ _ _ _=>rfl;go_enter func316,ntmps316;go_wp2_with fail;refine(KO l a ao cap n w.heap.size (w.alloc (K #[V a] 9)) (f.a c) g i (World.cell?_alloc_mark w _ _ _ 0)).mono ?_;rintro e o ⟨r,rfl,j,k⟩;have b:=au c k;go_wp2;go_ret;exact⟨r,rfl,j,b⟩
theorem RG (l:aC)(a v:ae)(ao:ag)(cap n:Nat)(w:X)(f:bq w ao cap n (aI l))(g:l.length=n)(m:n<8)(b:∀p∈l,p.1.data.toList≠a.data.toList):
 Calls prog 338 #[.agg #[V a,V v],Z ao n cap] w fun e w'=>e=Y (.tuple #[])∧Below w.heap.size w w':=by
 have d:Below w.heap.size w (w.alloc (K #[V a,V v] 283)):=(ar _ _).alloc (ak _) _;have o:decide ((n:Int)≥8)=F:=by rw[cC];omega
 go_enter func338,ntmps338;go_wp2_with fail;refine(ys l a ao cap n (w.alloc (K #[V a,V v] 283)) (f.a d) g (by omega)).mono ?_;rintro e q ⟨r,rfl,i,j⟩;have c:=au d j;obtain rfl:r=-1:=by
  rcases i with ⟨e,_⟩ | ⟨k,h,_,e,_⟩
  . exact e
  . exact absurd e (b _ (fb h))
 go_wp2;go_end0
 exact⟨rfl,c⟩
theorem Nd (l:aC)(a v:ae)(ao:ag)(cap n:Nat)(w:X)(f:bq w ao cap n (aI l))(g:l.length=n)(o:8<=n)(i:n<=1000000)(b:∀p∈l,p.1.data.toList≠a.data.toList):
 Calls prog 338 #[.agg #[V a,V v],Z ao n cap] w fun e w'=>e=eU 8∧Below w.heap.size w w':=by
 have d:Below w.heap.size w (w.alloc (K #[V a,V v] 283)):=(ar _ _).alloc (ak _) _;have q:decide ((n:Int)≥8)=true:=by rw[bR];omega
 go_enter func338,ntmps338;go_wp2_with fail;refine(ys l a ao cap n (w.alloc (K #[V a,V v] 283)) (f.a d) g (by omega)).mono ?_;rintro e s ⟨r,rfl,j,m⟩;have c:=au d m;obtain rfl:r=-1:=by
  rcases j with ⟨e,_⟩ | ⟨k,h,_,e,_⟩
  . exact e
  . exact absurd e (b _ (fb h))
 go_wp2;exact⟨rfl,rfl,c⟩
theorem Md (l:aC)(a v:ae)(ao:ag)(cap n:Nat)(w:X)(f:bq w ao cap n (aI l))(b:l.length=n)(q:n<=8)(g:∃p∈l,p.1.data.toList=a.data.toList):
 Calls prog 338 #[.agg #[V a,V v],Z ao n cap] w fun e w'=>e=eU 9∧Below w.heap.size w w':=by
 have d:Below w.heap.size w (w.alloc (K #[V a,V v] 283)):=(ar _ _).alloc (ak _) _;go_enter func338,ntmps338;go_wp2_with fail;refine(ys l a ao cap n (w.alloc (K #[V a,V v] 283)) (f.a d) b (by omega)).mono ?_;rintro e s ⟨r,rfl,i,j⟩;have c:=au d j;have m:0<=r:=by
  rcases i with ⟨_,b⟩ | ⟨k,h,rfl,_,_⟩
  . obtain⟨p,o,e⟩:=g;exact absurd e (b p o)
  . omega
 have t:decide (r≥0)=true:=by rw[bR];exact m
 go_wp2;exact⟨rfl,rfl,c⟩
theorem Nt {r v r':ab}(h:kI r=.inr (v,r')):r'.length<=r.length:=by
 unfold kI at h;split at h
 . split at h
   . cases h
   . rename_i x a;injection h with h;subst h;have:=(Fc _ _ _ _ _ (ak _) a).1;rw[qU] at this;omega
 . split at h
   . cases h
   . injection h with h;injection h with _ b;subst b;exact(sA (l:=r) dD).length_le
theorem Nu {r r':ab}{p:cW}(h:kd r=.inr (p,r')):r'.length<r.length:=by
 unfold kd at h;split at h
 . rename_i b;simp only[] at h;split at h
   . cases h
   . split at h
     . split at h
       . cases h
       . rename_i x c;injection h with h;injection h with _ d;subst d;have e:=Nt (v:=x.1) (r':=x.2) c;rw[qU] at e;have g:=(sA (l:=r.tail.dropWhile dX) dD).length_le;have f:=(sA (l:=r.tail) dX).length_le;rw[qU] at f;cases r with
         | nil=>simp at b
         | cons a t =>
           rw[bG] at *;omega
     . cases h
 . cases h
def mV (l:ab)(i:Nat):Nat ⊕ (ab×List cW):=match ly l (cn l i) with
 | .inl c=>.inl c
 | .inr x=>kH (l.length+1) x.1 (l.drop x.2) []
theorem Ny (l:ab)(d:dO l=true):dY l=mV l 0:=by
 rw[Nx l d _ _ rfl rfl];unfold mV ly;by_cases b:aF l (cn l 0)=0
 . rw[if_pos b,if_pos b]
 . rw[if_neg b,if_neg b];by_cases a:l[cn l 0+aF l (cn l 0)]? = M 47
   . rw[if_pos a,if_pos a];by_cases c:aF l (cn l 0+aF l (cn l 0)+1)=0
     . rw[if_pos c,if_pos c]
     . rw[if_neg c,if_neg c]
   . rw[if_neg a,if_neg a]
def Cl (m:Nat ⊕ (ab×List cW))(w:X)(g:Nat)(e:Ending)(w':X):Prop:=match m with
 | .inl c=>e=eU c∧am (bD g) w w'
 | .inr x=>∃word ps ao cap,e=Y (.agg #[V word,Z ao ps.length cap])∧word.data.toList=x.1∧dy ps=x.2∧aK w' w.heap.size 283 2 ao cap ps.length (aI ps)∧am (bD g) w w'
theorem Cl.a {m:Nat ⊕ (ab×List cW)}{w w':X}{g c:Nat}(a:m=.inl c)(b:am (bD g) w w'):Cl m w g (eU c) w':=by
 subst a;exact⟨rfl,b⟩
structure lk (w:X)(g mb:Nat)(s:ae)(k:Nat)(word:ae)(ps:aC)(ao:ag)(cap:Nat)(wr:X):Prop where
 e:wr.heap[w.heap.size]? = M (K #[V ⟨#[]⟩,Z U 0 0] 244 (0,0))
 c:wr.heap[mb]? = M (K #[V word,Z ao ps.length cap] 244 (0,0))
 b:aK wr w.heap.size 283 2 ao cap ps.length (aI ps)
 a:bC wr g s k
 d:am (bD g) w wr
 h:g<w.heap.size
 i:w.heap.size<mb
section
variable {w wr w1 w3:X} {g mb k k':Nat} {s word:ae} {ps ps':aC} {ao gL:ag} {cap cap':Nat}
theorem lk.r (h:lk w g mb s k word ps ao cap wr)(a:Addr)(e:ao=M a):a.block≠w.heap.size∧a.block≠mb:=by
 have b:=gH h.e h.b (by decide);have c:=gH h.c h.b (by decide);rw[dq,e] at b c;exact⟨fun e=>b (by simp[aw,e]),fun e=>c (by simp[aw,e])⟩
theorem lk.f (h:lk w g mb s k word ps ao cap wr)(c:bC w1 g s k')(b:am (bD g) wr w1):lk w g mb s k' word ps ao cap w1:=by
 have d:=h.h;have f:=h.i;exact⟨b.y h.e (fun e=>by unfold bD at e;omega),b.y h.c (fun e=>by unfold bD at e;omega),h.b.j b (fun a e i=>by have:=(h.b.f a e).1;unfold bD at i;omega),c,h.d.a b (fun _ h _=>h),d,f⟩
theorem lk.j (h:lk w g mb s k word ps ao cap wr)(a:Below wr.heap.size wr w1):lk w g mb s k word ps ao cap w1:=h.f (h.a.j a) (am.f a)
theorem lk.y (h:lk w g mb s k word ps ao cap wr):wr.cell? ⟨w.heap.size,0,U⟩=M (V ⟨#[]⟩)∧wr.cell? ⟨w.heap.size,1,U⟩=M (Z U 0 0)∧wr.frozen? ⟨w.heap.size,0,U⟩=F∧wr.frozen? ⟨w.heap.size,1,U⟩=F ∧
 wr.cell? ⟨mb,0,U⟩=M (V word)∧wr.cell? ⟨mb,1,U⟩=M (Z ao ps.length cap)∧wr.frozen? ⟨mb,0,U⟩=F∧wr.frozen? ⟨mb,1,U⟩=F :=
 ⟨aq wr _ 0 _ _ _ h.e,aq wr _ 1 _ _ _ h.e,aN wr _ 0 _ _ h.e,aN wr _ 1 _ _ h.e,aq wr _ 0 _ _ _ h.c,aq wr _ 1 _ _ _ h.c,aN wr _ 0 _ _ h.c,aN wr _ 1 _ _ h.c⟩
theorem lk.B (h:lk w g mb s k word ps ao cap wr)(b:Obj)(c:(wr.alloc b).grownBy w3 (aw ao)):am (fun i=>w.heap.size<=i∧i≠w.heap.size∧i≠mb) wr w3 :=
 (am.G (re wr b U) (fun k e => by cases e)).a (am.G (S := fun i => w.heap.size <= i ∧ i ≠ w.heap.size ∧ i ≠ mb) c (fun i e => by
  cases ao with
  | none=>simp[aw] at e
  | some a=>simp only[aw,jq] at e;subst e;exact⟨(h.b.f a rfl).1,(h.r a rfl).1,(h.r a rfl).2⟩)) (fun _ h _=>h)
theorem lk.jK (h:lk w g mb s k word ps ao cap wr)(f:aK w3 w.heap.size 283 2 gL cap' ps'.length (aI ps'))(b:am (fun i=>w.heap.size<=i∧i≠w.heap.size∧i≠mb) wr w3)(n:Nat)(m:n=ps'.length):lk w g mb s k word ps' gL cap' (w3.setCell ⟨mb,1,U⟩ (Z gL n cap')):=by
 subst m;have o:=h.h;have p:=h.i;have q:=b.y h.e (fun e=>e.2.1 rfl);have j:=b.y h.c (fun e=>e.2.2 rfl);have r:=h.a.G b (fun e=>by omega);have d:∀a,gL=M a->a.block≠mb:=fun a e=>by
  have l:=gH j f (by decide);rw[dq,e] at l;exact fun e=>l (by simp[aw,e])
 have c:=am.r (fun i=>i=mb) w3 ⟨mb,1,U⟩ (Z gL ps'.length cap') rfl;refine⟨c.y q (by omega),?_,f.j c (fun a e t=>d a e t),r.G c (by omega),(h.d.a b (fun i e u=>by omega)).a c (fun i e u=>by omega),o,p⟩;rw[aP w3 mb 1 _ _ _ j];rfl
theorem lk.G (b:wr.heap[w.heap.size]? = M (K #[V ⟨#[]⟩,Z U 0 0] 244 (0,0)))(h:bC wr g s k)(d:am (bD g) w wr)(e:g<w.heap.size)(x:ae):lk w g wr.heap.size s k x [] U 0 (wr.alloc (K #[V x,Z U 0 0] 244)):=by
 have a:Below wr.heap.size wr (wr.alloc (K #[V x,Z U 0 0] 244)):=(ar _ _).alloc (ak _) _;have c:=(bO.1 b).1;exact⟨(a.block _ c).trans b,aX wr _,aK.y _ _ _ _,h.j a,d.a (S':=bD g) (am.f a) (fun _ h _=>h),e,c⟩
theorem lk.H (h:lk w g mb s k word ps ao cap wr)(a b:Value):aK ((wr.setCell ⟨w.heap.size,0,U⟩ a).setCell ⟨w.heap.size,1,U⟩ b) w.heap.size 283 2 ao cap ps.length (aI ps)∧am (bD g) w ((wr.setCell ⟨w.heap.size,0,U⟩ a).setCell ⟨w.heap.size,1,U⟩ b):=by
 have c:am (fun i=>i=w.heap.size) wr ((wr.setCell ⟨w.heap.size,0,U⟩ a).setCell ⟨w.heap.size,1,U⟩ b) :=
  am.a (S:=fun i=>i=w.heap.size) (am.r (fun i=>i=w.heap.size) wr ⟨w.heap.size,0,U⟩ a rfl) (am.r (fun i=>i=w.heap.size) _ _ _ rfl) (fun _ h _=>h)
 exact⟨h.b.j c (fun a e d=>(h.r a e).1 d),h.d.a c (fun i e f=>by omega)⟩
end
theorem PH {a:aC}{b:ab}(h:((dy a).any fun q=>q.1==b)=true):∃p∈a,p.1.data.toList=b:=by grind [dy]
theorem Nf {a:aC}{b:ab}(h:¬((dy a).any fun q=>q.1==b)=true):∀p∈a,p.1.data.toList≠b:=by
 intro p c e;exact h (List.any_eq_true.2 ⟨_,my.2 ⟨p,c,rfl⟩,by simp[e]⟩)
theorem CV (s:ae)(g:Nat)(w:X)(h:bC w g s 0)(hs:s.size<=100000):
 Calls prog 308 #[Q (M ⟨g,0,U⟩)] w fun e w'=>Cl (mV s.data.toList 0) w g e w':=by
 have hl:s.data.toList.length=s.size:=by rw[cJ];rfl
 have hlt:=h.y;have hb0:=xn s.data.toList 0 (ax _);rw[hl] at hb0;have hB:Below w.heap.size w (w.alloc (K #[V ⟨#[]⟩,Z U 0 0] 244)):=(ar _ _).alloc (ak _) _;have R0:(w.alloc (K #[V ⟨#[]⟩,Z U 0 0] 244)).heap[w.heap.size]? = M (K #[V ⟨#[]⟩,Z U 0 0] 244 (0,0)):=aX w _;have HB:=yk s 0 g _ (h.j hB) (by omega) (ax _);have T0:=am.f (S:=bD g) hB;have HW:=fun W (hW:bC W g s (cn s.data.toList 0))=>PF s (cn s.data.toList 0) g W hW (by omega) hb0;have a:mV s.data.toList 0=match ly s.data.toList (cn s.data.toList 0) with
  | .inl c=>.inl c
  | .inr x=>kH (s.data.toList.length+1) x.1 (s.data.toList.drop x.2) []:=rfl
 clear hB h;cases hm:ly s.data.toList (cn s.data.toList 0) with
 | inl c =>
   rw[hm] at HW a;clear  hm;go_enter func308,ntmps308;go_wp2_with fail;refine HB.mono ?_;rintro e w1 ⟨rfl,h1,D⟩;have T1:=T0.a D (fun _ h _=>h);clear D  T0;go_wp2_with fail;refine(HW _ h1).mono ?_;rintro e w2 ⟨z,t2⟩;unfold eU at z;subst z;have T2:=T1.a t2 (fun _ h _=>h);clear t2;go_wp2;exact⟨rfl,Cl.a a T2⟩
 | inr x =>
   obtain⟨wo,i1⟩:=x;rw[hm] at HW a;simp only[] at a;clear  hm;go_enter func308,ntmps308;go_wp2_with fail;refine HB.mono ?_;rintro e w1 ⟨rfl,h1,D⟩;have T1:=T0.a D (fun _ h _=>h);have S1:=D.y R0 (fun e=>by unfold bD at e;omega);clear D  T0 HB R0;go_wp2_with fail;refine(HW _ h1).mono ?_;rintro e w2 ⟨rfl,hi1,h2,t2⟩;simp only[] at hi1 h2;have T2:=T1.a t2 (fun _ h _=>h);have S2:=t2.y S1 (fun e=>by unfold bD at e;omega);have HA2:=lk.G S2 h2 T2 hlt ⟨wo.toArray⟩;clear t2 h2 T1 S1 S2 T2 HW;have hwo:(⟨wo.toArray⟩:ae).data.toList=wo:=rfl;generalize (⟨wo.toArray⟩:ae)=wb at *;go_wp2_with fail;refine(yk s i1 g _ HA2.a (by omega) hi1).mono ?_;rintro e w3 ⟨rfl,h3,t3⟩;have Km:=HA2.f h3 t3;clear h3 t3 HA2;go_wp2;go_loopw [] (fun wr=>∃(i f:Nat) (d:aC) (G:ag) (k:Nat),i<=s.size∧lk w g w2.heap.size s (cn s.data.toList i) wb d G k wr∧s.size<f+i∧d.length<=8∧mV s.data.toList 0=kH f wo (s.data.toList.drop i) (dy d)) (fun wr=>s.size-tH wr g)
   case atStart=>exact⟨i1,s.size+1,[],U,0,hi1,Km,by omega,by simp,by have:=a;rw[hl] at this;exact this⟩
   case round =>
    clear Km  hi1;obtain⟨i,f,d,G,k,hi,hA,hf,h8,a⟩:=hrel;obtain⟨f',rfl⟩:∃f',f=f'+1:=⟨f-1,by omega⟩;rw[NI s.data.toList f' i _ _ (by rw[hl];exact hi),hl] at a;have hb1:=xn s.data.toList i (by rw[hl];exact hi);have hb2:=Fd s.data.toList i;rw[hl] at hb1;generalize cn s.data.toList i=b at *;have ZI:=hA.a.r;have B:=rs s b g wr hA.a;by_cases H:b=s.size
    . subst H;have D:decide (s.size<s.size)=F:=by rw[cC];omega
      rw[D] at B;have HR:mV s.data.toList 0=.inr (wo,dy d):=by have:=a;rw[if_pos rfl] at this;exact this
      clear  D;go_wp2_with fail;refine B.mono ?_;rintro e w4 ⟨rfl,q,hw⟩;have XV:lk w g w2.heap.size s s.size wb d G k w4:=by rw[hw];exact hA.j (iZ ⟨q,rfl⟩)
      clear hw  B;obtain⟨c0,c1,f0,f1,d0,d1,g0,g1⟩:=XV.y;have HT:=XV.H (V wb) (Z G d.length k);go_wp2;refine aR (v:=.agg #[V wb,Z G d.length k]) (by simp[results,results308,go_sem,c0,c1]) rfl ?_;rw[HR];exact⟨wb,d,G,k,rfl,hwo,rfl,HT.1,HT.2⟩
    . have hlt1:b<s.size:=by omega
      have D:decide (b<s.size)=true:=by rw[bR];omega
      rw[D] at B;have a:=a;rw[if_neg H] at a;clear  D H;go_wp2_with fail;refine B.mono ?_;rintro e w4 ⟨rfl,q,hw⟩;have XV:lk w g w2.heap.size s b wb d G k w4:=by rw[hw];exact hA.j (iZ ⟨q,rfl⟩)
      clear hw  B;by_cases L:s.data.toList[b]? = M 59
      . have m:=Fq s.data.toList b;rw[if_pos L] at m;have N:=fun p r'=>Nu (r:=s.data.toList.drop b) (r':=r') (p:=p);rw[m] at a N;have hb3:=xn s.data.toList (b+1) (by rw[hl];omega);rw[hl] at hb3;clear m;go_wp2_with fail;refine(vR s b g 59 _ XV.a (by omega) L).mono ?_;rintro e w5 ⟨rfl,h5,t5⟩;have HA5:=XV.f h5 t5;clear h5 t5 XV;go_wp2_with fail;refine(yk s (b+1) g _ HA5.a (by omega) (by omega)).mono ?_;rintro e w6 ⟨rfl,h6,t6⟩;have HA6:=HA5.f h6 t6;clear h6 t6 HA5;generalize cn s.data.toList (b+1)=i2 at *;have HP:=Nb s i2 g w6 HA6.a hs hb3;cases hp:qv s.data.toList i2 with
        | inl c =>
          rw[hp] at a HP;clear  hp ;go_wp2_with fail;refine HP.mono ?_;rintro e w7 ⟨z,t7⟩;unfold eU at z;subst z;have T7:=HA6.d.a t7 (fun _ h _=>h);clear t7;go_wp2;exact⟨rfl,Cl.a a T7⟩
        | inr y =>
          obtain⟨⟨n,v⟩,r⟩:=y;rw[hp] at a HP;simp only[] at a;have N:=N _ _ hp;rw[cO,hl] at N;clear hp;go_wp2_with fail;refine HP.mono ?_;rintro e w7 ⟨rfl,⟨j,hj,h7,hd⟩,t7⟩;simp only[] at hd;subst hd;rw[cO,hl] at N;have hjb:b<j:=by omega
          have HA7:=HA6.f h7 t7;clear t7 h7  HA6 HP;have hnb:(⟨n.toArray⟩:ae).data.toList=n:=rfl;have hvb:(⟨v.toArray⟩:ae).data.toList=v:=rfl;generalize (⟨n.toArray⟩:ae)=nb at *;generalize (⟨v.toArray⟩:ae)=T at *;subst hnb;subst hvb;have hBp:Below w7.heap.size w7 (w7.alloc (K #[V nb,V T] 283)):=(ar _ _).alloc (ak _) _;have l:=HA7.j hBp;have HPb:(w7.alloc (K #[V nb,V T] 283)).heap[w7.heap.size]? = M (K #[V nb,V T] 283 (0,0)):=aX w7 _;clear hBp HA7;obtain⟨c0,c1,f0,f1,d0,d1,g0,g1⟩:=l.y;by_cases h9:((dy d).any fun q=>q.1==nb.data.toList)=true
          . rw[if_pos h9] at a;have HY:=PH h9;clear h9;go_wp2_with fail;refine(Md d nb T G k d.length _ l.b.a rfl h8 HY).mono ?_;rintro e w9 ⟨z,b9⟩;unfold eU at z;subst z;have T9:=(l.j b9).d;clear b9;go_wp2;exact⟨rfl,Cl.a a T9⟩
          . rw[if_neg h9] at a;have sS:=Nf h9;clear h9;by_cases C:(dy d).length=8
            . rw[if_pos C] at a;rw[yl] at C;have H8:=aa C;clear  C;go_wp2_with fail;refine(Nd d nb T G k d.length _ l.b.a rfl (by have:=H8.o;omega) (by omega) sS).mono ?_;rintro e w9 ⟨z,b9⟩;unfold eU at z;subst z;have T9:=aa (l.j b9).d;clear b9;go_wp2;exact⟨rfl,Cl.a a T9.out⟩
            . rw[if_neg C] at a;have HR:=aa a;rw[yl] at C;go_wp2_with fail;refine(RG d nb T G k d.length _ l.b.a rfl (by omega) sS).mono ?_;rintro e w9 ⟨rfl,b9⟩;have t:=aa (l.j b9);have aff:=aa ((b9.block _ (bO.1 HPb).1).trans HPb);clear b9 l HPb c0 c1 f0 f1 d0 d1 g0 g1 sS;obtain⟨c0,c1,f0,f1,d0,d1,g0,g1⟩:=t.o.y;have p0:w9.cell? ⟨w7.heap.size,0,U⟩=M (V nb):=aq w9 _ 0 _ _ _ aff.o;have p1:w9.cell? ⟨w7.heap.size,1,U⟩=M (V T):=aq w9 _ 1 _ _ _ aff.o;obtain⟨t0,hi0,hz0,hz1,hz2⟩:=info_parts Nc;have Hi:=aa hi0;have lg:=aa hz0;have kZ:=aa hz1;have lq:=aa hz2
              clear hi0 hz0 hz1 hz2;go_wp2_with (at_builtin;refine lO rfl (.tmp 27) (.tmp 29) 242 rfl w.heap.size 283 t0 (.agg #[V ⟨#[]⟩,V ⟨#[]⟩]) 2 32 underlying242 Hi.o lg.o kZ.o lq.o rfl (by decide) rfl (t.o.b.G _) rfl (bq.j _ _ 1 _ _) rfl (fun u hu=>by simp at hu;rcases hu with rfl | rfl <;> rfl) (by omega) (by omega) (by have:=t.o.d.b;simp;omega) ?_;intro zU cap5 w10 xW NM _;have Cu:=t.o.B _ NM;have hm5:=Cu.y t.o.c (fun e=>e.2.2 rfl);have m1:w10.cell? ⟨w2.heap.size,1,U⟩=M (Z G d.length k):=aq w10 _ 1 _ _ _ hm5;have mf:w10.frozen? ⟨w2.heap.size,1,U⟩=F:=aN w10 _ 1 _ _ hm5;have zL:=aa xW;have oC:=aa Cu;clear xW NM Cu hm5)
              have hO:=zL.o;rw[show aI d++(#[Value.string nb,Value.string T]).toList=aI (d++[(nb,T)]) by rw[yg];rfl] at hO;have adb:=aa (t.o.jK (ps':=d++[(nb,T)]) (by rw[aD];exact hO) oC.o (d.length+1) (by rw[aD];rfl));clear hO zL oC t;refine(yk s j g _ adb.o.a (by omega) hj).mono ?_;rintro e w11 ⟨rfl,h11,t11⟩;have afg:=aa (adb.o.f h11 t11);have hge:=Fd s.data.toList j;clear h11 t11 adb;go_wp2;go_roundw
              case rel=>exact⟨j,f',d++[(nb,T)],zU,cap5,hj,afg.o,by omega,by rw[aD];simp;omega,by rw[a,Ma];rfl⟩
              case measure=>rw[afg.o.a.r,ZI];omega
      . have m:=Fq s.data.toList b;rw[if_neg L] at m;rw[m] at a;have HR:=aa a;have HN:=aa (FD s b g 59 _ XV.a L);clear  m L;go_wp2_with fail;refine HN.o.mono ?_;rintro e w5 ⟨z,t5⟩;unfold eU at z;subst z;have T5:=aa (XV.d.a t5 (fun _ h _=>h));clear t5;go_wp2;exact⟨rfl,Cl.a HR.o T5.out⟩
theorem Iw (p:Addr)(x c:Int)(a:List PanicEntry)(w:X)(i:w.cell? p=M (I J x))(j:w.frozen? p=F):
 CallsD prog 332 #[Q (M p)] (.panicking ({ v:=.iface 363 (I J c),recovered:=F }::a)) w fun e d w' =>
  e=Y (.tuple #[])∧d=.panicking ({ v:=.iface 363 (I J c),recovered:=true }::a)∧w'=w.setCell p (I J c):=by
 refine callsD_of_wpS func332 rfl fun b k f=>?_;apply wpS_seq;apply wpS_region;simp[wpOpsS,go_sem,recoverD,f,ntmps332,Exit.thenS];change Code.wpS _ _ _ { tmps:=#[Q (M p),.iface 363 (I J c),.iface 363 (I J c),undef,undef,undef,undef],defers:=[] } _ _;refine wpS_of_wp ?_;have g:∀w:X,(Instr.typeAssert (.iface 363 (I J c)) 20 363 F).run prog w=.ok (I J c) w:=fun _=>by kernel_rfl
 go_wp2;simp[bodyPostS,results,results332]
theorem Ng (p:Addr)(w:X):
 CallsD prog 332 #[Q (M p)] .returning w fun e b w'=>e=Y (.tuple #[])∧b=.returning∧w'=w:=by
 refine callsD_of_wpS func332 rfl fun a d c=>?_;apply wpS_seq;apply wpS_region;simp[wpOpsS,go_sem,recoverD,c,ntmps332,Exit.thenS];change Code.wpS _ _ _ { tmps:=#[Q (M p),.nilIface,.nilIface,undef,undef,undef,undef],defers:=[] } _ _;refine wpS_of_wp ?_;go_wp2;cases a;simp_all [bodyPostS,results,results332]
def pM (g rb:Nat):Nat->Prop:=fun k=>k=g∨k=rb
def Bv (x:ab×List cW)(base rb:Nat)(w':X):Prop :=
 ∃word ps ao cap,w'.heap[rb]? = M (K #[V word,Z ao ps.length cap] 244 (0,0))∧word.data.toList=x.1∧dy ps=x.2∧aK w' base 283 2 ao cap ps.length (aI ps)
theorem PI (s:ae)(g d:Nat)(w:X)(h:bC w g s 0)(f:s.size<=100000)(c:Nat)(i:mV s.data.toList 0=.inl c):
 Calls prog 307 #[Q (M ⟨g,0,U⟩),Q (M ⟨d,0,U⟩)] w fun e w'=>e=eU c∧am (bD g) w w':=by
 have a:=CV s g w h f;rw[i] at a;go_enter func307,ntmps307;go_wp2_with fail;refine a.mono ?_;rintro e k ⟨b,j⟩;unfold eU at b;subst b;go_wp2;exact⟨rfl,rfl,j⟩
theorem ML (s:ae)(g b:Nat)(w:X)(h:bC w g s 0)(n:w.heap[b]? = M (K #[V ⟨#[]⟩,Z U 0 0] 244 (0,0)))(B:s.size<=100000)(x:ab×List cW)(C:mV s.data.toList 0=.inr x):
 Calls prog 307 #[Q (M ⟨g,0,U⟩),Q (M ⟨b,0,U⟩)] w fun e w'=>e=Y (.tuple #[])∧Bv x w.heap.size b w'∧am (pM g b) w w':=by
 have t:=CV s g w h B;rw[C] at t;have p:b≠g:=by
  rintro rfl;unfold bC at h;rw[n] at h;injection h with h;injection h with _ h _;exact absurd h (by decide)
 have D:=(bO.1 n).1;go_enter func307,ntmps307;go_wp2_with fail;refine t.mono ?_;rintro e f ⟨j,l,m,c,rfl,q,r,u,v⟩;have d:=aa (v.y n (fun e=>p e));have W:=aq f _ 0 _ _ _ d.o;have c1:=aq f _ 1 _ _ _ d.o;have f0:=aN f _ 0 _ _ d.o;have f1:=aN f _ 1 _ _ d.o;have y:Hid (am (fun i=>i=b) f ((f.setCell ⟨b,0,U⟩ (V j)).setCell ⟨b,1,U⟩ (Z m l.length c))) :=
  am.a (S:=fun i=>i=b) (am.r (fun i=>i=b) f ⟨b,0,U⟩ (V j) rfl) (am.r (fun i=>i=b) _ _ _ rfl) (fun _ h _=>h)
 have G:Hid (((f.setCell ⟨b,0,U⟩ (V j)).setCell ⟨b,1,U⟩ (Z m l.length c)).heap[b]? = M (K #[V j,Z m l.length c] 244 (0,0))):=by
  have H:=aP f b 0 _ _ (V j) d.o;have L:=aP _ b 1 _ _ (Z m l.length c) H;unfold Hid;rw[L];rfl
 have N:=u.j y.o (fun a e e2=>by have:=(u.f a e).1;omega);have T:am (pM g b) w ((f.setCell ⟨b,0,U⟩ (V j)).setCell ⟨b,1,U⟩ (Z m l.length c)):=(v.j (S':=pM g b) (fun k e=>Or.inl e)).a y.o (fun i e _=>Or.inr e);have z:j.data.toList=x.1∧dy l=x.2:=⟨q,r⟩;go_wp2;go_end0
 exact⟨rfl,⟨j,l,m,c,G.o,z.1,z.2,N⟩,T⟩
theorem PJ (s:ae)(g d:Nat)(w:X)(h:bC w g s 0)(q:s.size<=100000)(c:Nat)(r:mV s.data.toList 0=.inl c):
 Calls prog 306 #[.func (.func 307) #[] #[Q (M ⟨g,0,U⟩),Q (M ⟨d,0,U⟩)]] w fun e w'=>e=Y (I J (c:Int))∧am (bD g) w w':=by
 have D:∀(j:Fn) (first a:Array Value) (w:X),(Instr.makeFunc j first a).run prog w=.ok (.func j first a) w:=fun _ _ _ _=>rfl;have t:=h.y;have l:Below w.heap.size w (w.alloc (K #[I J 0] 3)):=(ar _ _).alloc (ak _) _;have u:(w.alloc (K #[I J 0] 3)).heap[w.heap.size]? = M (K #[I J 0] 3 (0,0)):=aX w _;have v:=am.f (S:=bD g) l;go_enter_defers func306,ntmps306
 go_wp2_with fail;refine(PI s g d _ (h.j l) q c r).mono ?_;rintro e b ⟨m,n⟩;unfold eU at m;subst m;have o:=n.y u (fun e=>by unfold bD at e;omega);have x:=v.a n (fun _ h _=>h);have p:=aq b _ 0 _ _ _ o;have y:=aN b _ 0 _ _ o;have z:am (bD g) w (b.setCell ⟨w.heap.size,0,U⟩ (I J c)):=x.a (am.r (fun k=>k=w.heap.size) _ _ _ rfl) (fun i e G=>by omega);have B:(b.setCell ⟨w.heap.size,0,U⟩ (I J c)).cell? ⟨w.heap.size,0,U⟩=M (I J c):=sI b _ _ p;go_wp2;refine leaves_cons (f:=332) (args:=#[Q (M ⟨w.heap.size,0,U⟩)]) (by simp) (by simp[go_sem]) ?_;refine(Iw ⟨w.heap.size,0,U⟩ 0 c [] _ p y).mono ?_;rintro e H C ⟨rfl,rfl,rfl⟩;simp[Leaves,settle,results,results306,go_sem,B];exact z
theorem MM (s:ae)(g b:Nat)(w:X)(h:bC w g s 0)(q:w.heap[b]? = M (K #[V ⟨#[]⟩,Z U 0 0] 244 (0,0)))(z:s.size<=100000)(x:ab×List cW)(B:mV s.data.toList 0=.inr x):
 Calls prog 306 #[.func (.func 307) #[] #[Q (M ⟨g,0,U⟩),Q (M ⟨b,0,U⟩)]] w fun e w'=>e=Y (I J 0)∧Bv x w.heap.size b w'∧am (pM g b) w w':=by
 have Rs:∀(r:Fn) (first c:Array Value) (w:X),(Instr.makeFunc r first c).run prog w=.ok (.func r first c) w:=fun _ _ _ _=>rfl;have C:=h.y;have j:=(bO.1 q).1;have l:Below w.heap.size w (w.alloc (K #[I J 0] 3)):=(ar _ _).alloc (ak _) _;have D:(w.alloc (K #[I J 0] 3)).heap[w.heap.size]? = M (K #[I J 0] 3 (0,0)):=aX w _;have t:=ML s g b _ (h.j l) ((l.block b j).trans q) z x B;have G:=am.f (S:=pM g b) l;have H:(w.alloc (K #[I J 0] 3)).heap.size=w.heap.size+1:=by simp
 rw[H] at t;go_enter_defers func306,ntmps306
 go_wp2_with fail;refine t.mono ?_;rintro e d ⟨rfl,⟨L,N,T,c,W,m,n,u⟩,v⟩;have y:=v.y D (fun e=>by unfold pM at e;omega);have T1:=G.a v (fun _ h _=>h);have c0:=aq d _ 0 _ _ _ y;have f0:=aN d _ 0 _ _ y;have p:=am.r (fun k=>k=w.heap.size) d ⟨w.heap.size,0,U⟩ (I J 0) rfl;have T2:am (pM g b) w (d.setCell ⟨w.heap.size,0,U⟩ (I J 0)):=T1.a p (fun i e hi=>by omega);have HI:Hid (Bv x w.heap.size b (d.setCell ⟨w.heap.size,0,U⟩ (I J 0))) :=
  ⟨L,N,T,c,p.y W (by omega),m,n,(u.j p (fun a e e2=>by have:=(u.f a e).1;omega)).r (by omega)⟩
 have c2:(d.setCell ⟨w.heap.size,0,U⟩ (I J 0)).cell? ⟨w.heap.size,0,U⟩=M (I J 0):=sI d _ _ c0;go_wp2;refine leaves_cons (f:=332) (args:=#[Q (M ⟨w.heap.size,0,U⟩)]) (by simp) (by simp[go_sem]) ?_;refine(Ng ⟨w.heap.size,0,U⟩ _).mono ?_;rintro e u' w'' ⟨rfl,rfl,rfl⟩;simp[Leaves,settle,results,results306,go_sem,c2];exact⟨HI.o,T2⟩
