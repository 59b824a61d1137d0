import Derived.Test.YtodmelffkfbalaaGreatDoorRqA
import Derived.Test.YtodmelffkfbalaaGreatDoorPk40
import Derived.Test.YtodmelffkfbalaaGreatDoorPk39
import Derived.Test.YtodmelffkfbalaaGreatDoorPk26
import Derived.Test.YtodmelffkfbalaaGreatDoorPk34
open Go.Value renaming int->I,string->V,slice->Z,pointer->Q
open Go.IntKind renaming i64->J
open Go.Obj renaming cells->K
open Go.Ending renaming returned->Y
open Option renaming none->U,some->M
open Bool renaming false->F
open Or renaming inl->A,inr->R
open Go renaming World->X
set_option maxHeartbeats 4000000
set_option maxRecDepth 100000
open Go.Proofs.Tryz
namespace Go.Proofs.YtodmelffkfbalaaGreatDoor
open Go.RowKit
structure kR where
 e:Nat
 c:ag
 d:Nat
 a:ag
 b:Nat
def mx (c:da)(x:kR):List Value:=[Q (M ⟨x.e,0,U⟩),V ⟨c.a.e.toArray⟩,V ⟨c.a.b.toArray⟩,I J (c.a.d:Int),Z x.c c.a.a.length x.d,I J c.a.c,Z x.a c.b.length x.b]
def kS (gs:Nat)(v:Nat->List Value):List Value:=Q (M ⟨gs,0,U⟩)::(v 0++(v 1++(v 2++v 3)))
def ep (c:Nat->da)(x:Nat->kR):Nat->List Value:=fun k=>mx (c k) (x k)
theorem rt {l:List Value}(h:l.length=7):∃a b a2 c d e f,l=[a,b,a2,c,d,e,f]:=by
 match l,h with
 | [a,b,a2,c,d,e,f],_=>exact⟨a,b,a2,c,d,e,f,rfl⟩
theorem Ta (gs:Nat)(v:Nat->List Value)(a:∀k,k<4->(v k).length=7){k:Nat}(b:k<4){j:Nat}(c:j<7):(kS gs v).toArray[1+k*7+j]? = (v k)[j]?:=by grind [kS]
theorem SR (gs:Nat)(v:Nat->List Value)(a:∀k,k<4->(v k).length=7){k:Nat}(f:k<4){j:Nat}(g:j<7)(u:Value):(kS gs v).set (1+k*7+j) u=kS gs (bL v k ((v k).set j u)):=by
 obtain⟨i,l,m,n,o,p,q,b⟩:=rt (a 0 (by omega));obtain⟨r,s,t,w,x,y,z,c⟩:=rt (a 1 (by omega));obtain⟨B,C,D,G,H,L,N,d⟩:=rt (a 2 (by omega));obtain⟨S,T,W,s3,s4,s5,s6,e⟩:=rt (a 3 (by omega));obtain rfl | rfl | rfl | rfl:k=0∨k=1∨k=2∨k=3:=by omega
 . show _=Q (M ⟨gs,0,U⟩)::((v 0).set j u++(v 1++(v 2++v 3)));unfold kS;rw[b,c,d,e];obtain rfl | rfl | rfl | rfl | rfl | rfl | rfl:j=0∨j=1∨j=2∨j=3∨j=4∨j=5∨j=6:=by omega
   all_goals rfl
 . show _=Q (M ⟨gs,0,U⟩)::(v 0++((v 1).set j u++(v 2++v 3)));unfold kS;rw[b,c,d,e];obtain rfl | rfl | rfl | rfl | rfl | rfl | rfl:j=0∨j=1∨j=2∨j=3∨j=4∨j=5∨j=6:=by omega
   all_goals rfl
 . show _=Q (M ⟨gs,0,U⟩)::(v 0++(v 1++((v 2).set j u++v 3)));unfold kS;rw[b,c,d,e];obtain rfl | rfl | rfl | rfl | rfl | rfl | rfl:j=0∨j=1∨j=2∨j=3∨j=4∨j=5∨j=6:=by omega
   all_goals rfl
 . show _=Q (M ⟨gs,0,U⟩)::(v 0++(v 1++(v 2++(v 3).set j u)));unfold kS;rw[b,c,d,e];obtain rfl | rfl | rfl | rfl | rfl | rfl | rfl:j=0∨j=1∨j=2∨j=3∨j=4∨j=5∨j=6:=by omega
   all_goals rfl
theorem vV (c:Nat->da)(x:Nat->kR)(k:Nat)(a:da)(b:kR):ep (bL c k a) (bL x k b)=bL (ep c x) k (mx a b):=by
 funext i;unfold ep bL;split <;> rfl
structure gj (w:X)(g gs:Nat)(v:Nat->List Value):Prop where
 c:w.heap[g]? = M (K (kS gs v).toArray 89 (0,0))
 b:∀k,k<4->(v k).length=7
theorem gj.B {w:X}{g gs:Nat}{v:Nat->List Value}(h:gj w g gs v):w.cell? ⟨g,0,U⟩=M (Q (M ⟨gs,0,U⟩)):=aq w g 0 _ _ _ h.c
theorem gj.a {w:X}{g gs:Nat}{v:Nat->List Value}(h:gj w g gs v){k:Nat}(a:k<4){j:Nat}(b:j<7){u:Value}(c:(v k)[j]? = M u):w.cell? ⟨g,1+k*7+j,U⟩=M u:=by
 rw[aq w g _ _ _ _ h.c,Ta gs v h.b a b];exact c
theorem gj.j {w:X}{g gs:Nat}{v:Nat->List Value}(h:gj w g gs v)(j:Nat):w.frozen? ⟨g,j,U⟩=F:=aN w g j _ _ h.c
theorem gj.r {w:X}{g gs:Nat}{v:Nat->List Value}(h:gj w g gs v):g<w.heap.size:=(bO.1 h.c).1
theorem gj.f {w:X}{g gs:Nat}{v:Nat->List Value}(h:gj w g gs v){k:Nat}(a:k<4){j:Nat}(b:j<7)(u:Value):gj (w.setCell ⟨g,1+k*7+j,U⟩ u) g gs (bL v k ((v k).set j u)):=by
 refine⟨?_,fun i c=>?_⟩
 . rw[aP w g _ _ _ _ h.c];congr 2;rw[<-SR gs v h.b a b];simp
 . unfold bL;split
   . rw[pI];exact h.b k a
   . exact h.b i c
inductive lY
 | row
 | jd
 | rq (k:Nat)
 | fl (k:Nat)
 | bd (k:Nat)
 | ret
 | out
def fN (g gs:Nat)(s:av)(v:Nat->List Value)(n:Nat)(c:Nat->da)(x:Nat->kR)(z:Nat->dC)(o:dC):lY->dC
 | .row=>fun w S=>gj w g gs v∧S g
 | .jd=>fun w S=>aS w S gs s
 | .rq k=>fun w S=>k<n->dM w S (x k).e (c k).c
 | .fl k=>fun w S=>(k<n->js w S (x k).c (x k).d (c k).a.a.length (aI (co (c k).a.a)))∧z k w S
 | .bd k=>fun w S=>k<n->bK w S 5 (x k).a (x k).b (c k).b
 | .ret=>o
 | .out=>fun _ _=>True
theorem le {g gs:Nat}{s:av}{v:Nat->List Value}{n:Nat}{c:Nat->da}{x:Nat->kR}{z:Nat->dC}{o:dC}(f:∀k,bM (z k))(i:bM o):∀d,bM (fN g gs s v n c x z o d)
 | .row=>⟨fun h e a=>⟨⟨e.y h.1.c (a g h.2),h.1.b⟩,h.2⟩,fun h a=>⟨h.1,a g h.1.r h.2⟩⟩
 | .jd=>⟨fun h e a=>aS.j h e a,fun h a=>aS.a h a⟩
 | .rq _=>⟨fun h e a b=>(h b).f e a,fun h a b=>(h b).a a⟩
 | .fl k=>⟨fun h e a=>⟨fun b=>(h.1 b).f e a,(f k).c h.2 e a⟩,fun h a=>⟨fun b=>(h.1 b).j a,(f k).b h.2 a⟩⟩
 | .bd _=>⟨fun h e a b=>(h b).a e a,fun h a b=>(h b).j a⟩
 | .ret=>i
 | .out=>bM.a
def jj:Nat->dC:=fun _ _ _=>True
def eE:dC:=fun _ _=>True
def gi (w:X)(S:Nat->Prop)(g gs:Nat)(s:av)(c:Nat->da):Prop:=∃κ x,eJ (fN g gs s (ep c x) 4 c x jj eE) κ w∧∀k,κ k≠.out->S k
section
variable {w w':X} {S S':Nat->Prop} {g gs:Nat} {s:av} {c:Nat->da}
theorem gi.f (h:gi w S g gs s c)(f:am S' w w')(i:∀k,S k->¬S' k):gi w' S g gs s c:=by
 obtain⟨j,x,l,a⟩:=h;refine⟨j,x,fun d=>?_,a⟩;by_cases b:d=.out
 . subst b;exact trivial
 . exact(le (fun _=>bM.a) bM.a d).c (l d) f (fun k e=>i k (a k (by rw[e];exact b)))
theorem gi.r (h:gi w S g gs s c)(a:Below w.heap.size w w'):gi w' S g gs s c:=h.f (am.f (S:=fun _=>False) a) (fun _ _ e=>e)
theorem gi.a (h:gi w S g gs s c)(f:∀k,k<w.heap.size->S k->S' k):gi w S' g gs s c:=by
 obtain⟨i,x,j,l⟩:=h;refine⟨cA i w.heap.size .out,x,fun d=>?_,fun k a=>?_⟩
 . by_cases m:d=.out
   . subst m;exact trivial
   . exact(le (fun _=>bM.a) bM.a d).b (j d) (fun k a e=>(fg a).trans e)
 . rcases eN k w.heap.size with b | b
   . rw[fg b] at a;exact f k b (l k a)
   . exact absurd (pR b) a
end
theorem QW (a b:ae):(a.toList==b.toList)=decide (a.data.toList=b.data.toList):=by
 rw[Lib.toList_data,Lib.toList_data,iM];simp
theorem gI.G {w:X}{S:Nat->Prop}{a c d g:Nat}{s:aA}(h:gI w S a c d g s)(v:Int):gI (w.setCell ⟨g,1,U⟩ (I J v)) S a c d g ⟨s.l,v⟩∧am (fun k=>k=g) w (w.setCell ⟨g,1,U⟩ (I J v)):=by
 obtain⟨i,b,j,m,n⟩:=h;have f:am (fun k=>k=g) w (w.setCell ⟨g,1,U⟩ (I J v)):=am.r (fun k=>k=g) w _ _ rfl;exact⟨⟨i,b,aP w g 1 _ a _ j,m,n.y f (fun k e o=>e.2 o)⟩,f⟩
theorem Ee (s:aA)(S:Nat->Prop)(g:Nat)(w:X)(h:cD w S g s)(k:0<=s.a)(l:s.a<=1000000):
 Calls prog 264 #[Q (M ⟨g,0,U⟩)] w fun e w'=>e=Y (I J (s.a+1))∧w'=w:=by
 obtain⟨m,a,b,n,c,d,f,i,j⟩:=h.j;clear j f i b c d h;generalize s.a=t at *;go_enter func264,ntmps264;go_wp2;go_ret;exact⟨rfl,rfl⟩
structure pv (S:Nat->Prop)(tO:Nat)(w:X)(g:Nat)(r:aA×Int×Nat)(e:Ending)(w':X):Prop where
 d:e=Y (.tuple #[I J r.2.1,I J (r.2.2:Int)])
 b:gI w' (ay S w) tO 92 5 g r.1
 c:am S w w'
theorem pv.a {w w':X}{S:Nat->Prop}{a g:Nat}{s:aA}{c:Nat}(h:gI w S a 92 5 g s)(b:Below w.heap.size w w'){r:aA×Int×Nat}(d:r=(s,0,c)):pv S a w g r (Y (.tuple #[I J 0,I J (c:Int)])) w':=by
 subst d;exact⟨rfl,(h.a b).f (fun k _ e=>A e),am.f b⟩
theorem B0 (s:aA)(S:Nat->Prop)(g:Nat)(c:Int)(m:ae)(w:X)(h:cD w S g s)(ok:cN s)(hl:s.a<=1000000)(hm:m.size<=1000000):
 Calls prog 248 #[Q (M ⟨g,0,U⟩),I J c,V m] w (pv S 141 w g (eZ s c m)):=by
 have hN:=ok.b;have hl0:=ok.c;obtain⟨ao,cap,c0,c1,f0,f1,hg,hS,hU⟩:=h.j;have hcap:=hU.f;by_cases L:c < -1
 . have y:pv S 141 w g (eZ s c m) (Y (.tuple #[I J 0,I J (1:Nat)])) w:=pv.a h (ar _ _) (by unfold eZ;rw[if_pos L]);go_enter func248,ntmps248;go_wp2;go_ret2;exact y
 . have n1:decide (c < -1)=F:=by rw[cC];exact L
   by_cases h2:2000<c
   . have y:pv S 141 w g (eZ s c m) (Y (.tuple #[I J 0,I J (4:Nat)])) w:=pv.a h (ar _ _) (by unfold eZ;rw[if_neg L,if_pos (A h2)]);have n2:decide (c > 2000)=true:=by rw[bR];exact h2
     go_enter func248,ntmps248;go_wp2;go_ret2;exact y
   . have n2:decide (c > 2000)=F:=by rw[cC];exact h2
     by_cases h3:100<m.size
     . have y:pv S 141 w g (eZ s c m) (Y (.tuple #[I J 0,I J (4:Nat)])) w:=pv.a h (ar _ _) (by unfold eZ;rw[if_neg L,if_pos (R h3)]);have n3:decide ((m.size:Int) > 100)=true:=by rw[bR];omega
       go_enter func248,ntmps248;go_wp2;go_ret2;exact y
     . have n3:decide ((m.size:Int) > 100)=F:=by rw[cC];omega
       have e2:¬(2000<c∨100<m.size):=by omega
       have HV:=rf m w (by unfold maxLen;omega);cases hv:dO m.data.toList with
       | false =>
         rw[hv] at HV;have y:pv S 141 w g (eZ s c m) (Y (.tuple #[I J 0,I J (3:Nat)])) w:=pv.a h (ar _ _) (by unfold eZ;rw[if_neg L,if_neg e2,if_pos (A hv)]);go_enter func248,ntmps248;go_wp2_with (go_at_call 280;refine HV.mono ?_;rintro e z ⟨rfl,rfl⟩)
         go_ret2;exact y
       | true =>
         rw[hv] at HV;have Ca:=ty m w (by omega);have G:=QW ⟨(Lib.trimS m.data.toList cf).toArray⟩ m;obtain⟨T,hT⟩:∃T:ae,T=⟨(Lib.trimS m.data.toList cf).toArray⟩:=⟨_,rfl⟩;have hTd:T.data.toList=Lib.trimS m.data.toList cf:=by rw[hT]
         rw[<-hT] at Ca G;rw[hTd] at G;by_cases h4:Lib.trimS m.data.toList cf=m.data.toList
         . rw[br h4] at G;have e3:¬(dO m.data.toList=F∨Lib.trimS m.data.toList cf≠m.data.toList):=by rw[hv];simpa using h4
           by_cases h5:12<=s.l.length
           . have y:∀W,Below w.heap.size w W->W.cell? ⟨g,0,U⟩=M (Z ao s.l.length cap)∧pv S 141 w g (eZ s c m) (Y (.tuple #[I J 0,I J (8:Nat)])) W:=fun W D=>⟨by rw[D.cell (p:=⟨g,0,U⟩) h.r];exact c0,pv.a h D (by unfold eZ;rw[if_neg L,if_neg e2,if_neg e3,if_pos h5])⟩;have n5:decide ((s.l.length:Int)≥12)=true:=by rw[bR];omega
             go_enter func248,ntmps248;go_wp2_with (first | (go_at_call 280;refine HV.mono ?_;rintro e z ⟨rfl,rfl⟩) | (go_at_call 281;refine Ca.mono ?_;rintro e z ⟨rfl,B⟩;obtain⟨d0,hd⟩:=y z B;have HD:=aa hd;clear hd B))
             go_ret2;exact HD.o
           . have n5:decide ((s.l.length:Int)≥12)=F:=by rw[cC];omega
             have Mw:Hid (eZ s c m=(⟨s.l++[⟨s.a+1,c,m,[],0⟩],s.a+1⟩,s.a+1,0)):=by unfold eZ;rw[if_neg L,if_neg e2,if_neg e3,if_neg h5];exact rfl
             have Gq:∀W,Below w.heap.size w W->Calls prog 264 #[Q (M ⟨g,0,U⟩)] W fun e w'=>e=Y (I J (s.a+1))∧w'=W:=fun W D=>Ee s S g W (h.a D) hl0 hl;have xC:=fun W=>oS m W hm;have HC:∀W,Below w.heap.size w W->W.cell? ⟨g,0,U⟩=M (Z ao s.l.length cap)∧W.cell? ⟨g,1,U⟩=M (I J s.a)∧W.frozen? ⟨g,1,U⟩=F:=fun W D=>⟨by rw[D.cell (p:=⟨g,0,U⟩) h.r];exact c0,by rw[D.cell (p:=⟨g,1,U⟩) h.r];exact c1,by rw[D.frozen (p:=⟨g,1,U⟩) h.r];exact f1⟩;go_enter func248,ntmps248;go_wp2_with (first | (go_at_call 280;refine HV.mono ?_;rintro e z ⟨rfl,hw⟩;rw[hw];clear hw) | (go_at_call 281;refine Ca.mono ?_;rintro e z ⟨rfl,B⟩;obtain⟨d0,d1,d2⟩:=HC z B;have HB:=aa B;clear B) | (go_at_call 264;refine(Gq _ HB.o).mono ?_;rintro e wn ⟨rfl,hw⟩;rw[hw];clear hw))
             obtain⟨hs2,ht2⟩:=(h.a HB.o).G (s.a+1);have jG:am S w (z.setCell ⟨g,1,U⟩ (I J (s.a+1))):=(am.f HB.o).a (ht2.j (fun k e=>by subst e;exact h.j.choose_spec.choose_spec.2.2.2.2.2.1)) (fun _ e _=>e);generalize hw3:z.setCell ⟨g,1,U⟩ (I J (s.a+1))=b at *;obtain⟨N,iy,c0,c1,f0,f1,hg3,IE,hU3⟩:=hs2.j;have hlt:=hs2.r;have yE:=hg3;have HU3:=aa hU3
             simp only at c0 c1;have afx:Calls prog 135 #[V m] (b.alloc (K #[I J 0,I J 0,V ⟨#[]⟩,Z U 0 0,I J 0] 92)).drew fun e d=>e=Y (V m)∧Below b.heap.size b d∧d.heap[b.heap.size]? = M (K #[I J 0,I J 0,V ⟨#[]⟩,Z U 0 0,I J 0] 92 (0,0)):=(xC _).mono fun e d ⟨he,f⟩=>by
              refine⟨he,(((ar _ b).alloc (ak _) _).trans (bj _ _)).trans (f.mono (by show b.heap.size<=(b.alloc _).heap.size;rw[bF];omega)),?_⟩;rw[f.block b.heap.size (by show b.heap.size<(b.alloc _).heap.size;rw[bF];omega)];exact aX b _
             have afy:Calls prog 135 #[V m] b.drew fun e d=>e=Y (V m)∧Below b.heap.size b d:=(xC _).mono fun e d ⟨he,f⟩=>⟨he,(bj _ _).trans f⟩;have alL:¬b.heap.size=g:=by omega
             have ajS:¬g=b.heap.size:=by omega
             clear xC;have HMt:∀d,Below b.heap.size b d->d.heap[b.heap.size]? = M (K #[I J 0,I J 0,V ⟨#[]⟩,Z U 0 0,I J 0] 92 (0,0))->Below b.heap.size b (((((d.setCell ⟨b.heap.size,0,U⟩ (I J (s.a+1))).setCell ⟨b.heap.size,1,U⟩ (I J c)).setCell ⟨b.heap.size,2,U⟩ (V m)).setCell ⟨b.heap.size,3,U⟩ (Z U 0 0)).setCell ⟨b.heap.size,4,U⟩ (I J 0))∧(((((d.setCell ⟨b.heap.size,0,U⟩ (I J (s.a+1))).setCell ⟨b.heap.size,1,U⟩ (I J c)).setCell ⟨b.heap.size,2,U⟩ (V m)).setCell ⟨b.heap.size,3,U⟩ (Z U 0 0)).setCell ⟨b.heap.size,4,U⟩ (I J 0)).heap[b.heap.size]? = M (K #[I J (s.a+1),I J c,V m,Z U 0 0,I J 0] 92 (0,0)):=fun d B hr=>by
              refine⟨((((B.setCell (ak _) _).setCell (ak _) _).setCell (ak _) _).setCell (ak _) _).setCell (ak _) _,?_⟩;exact aP _ _ 4 _ _ _ (aP _ _ 3 _ _ _ (aP _ _ 2 _ _ _ (aP _ _ 1 _ _ _ (aP _ _ 0 _ _ _ hr))))
             go_cut [8] (fun t wd=>∃nb,t=Q (M ⟨nb,0,U⟩)∧b.heap.size<=nb∧Below b.heap.size b wd∧wd.heap[nb]? = M (K #[I J (s.a+1),I J c,V m,Z U 0 0,I J 0] 92 (0,0)))
             case first =>
              go_region_held3 (fun w'=>w'.cell? ⟨g,1,U⟩=M (I J (s.a+1))) (go_keep) (first
               | (go_at_call 135;refine afx.mono ?_;rintro e d ⟨rfl,i,v⟩;have c1':d.cell? ⟨g,1,U⟩=M (I J (s.a+1)):=(i.cell (p:=⟨g,1,U⟩) hlt).trans c1;have z0:=aq d _ 0 _ _ _ v;have z1:=aq d _ 1 _ _ _ v;have z2:=aq d _ 2 _ _ _ v;have z3:=aq d _ 3 _ _ _ v;have z4:=aq d _ 4 _ _ _ v;have y0:=aN d _ 0 _ _ v;have y1:=aN d _ 1 _ _ v;have y2:=aN d _ 2 _ _ v;have y3:=aN d _ 3 _ _ v;have y4:=aN d _ 4 _ _ v;simp at z0 z1 z2 z3 z4;have jL:=aa i;have HR4:=aa v;clear i v)
               | (go_at_call 135;refine afy.mono ?_;rintro e d ⟨rfl,i⟩;have c1':d.cell? ⟨g,1,U⟩=M (I J (s.a+1)):=(i.cell (p:=⟨g,1,U⟩) hlt).trans c1;have alM:¬d.heap.size=g:=(by have:=i.size;omega);have ajT:¬g=d.heap.size:=(by have:=i.size;omega);have jL:=aa i;clear i))
              all_goals go_wp2
              all_goals go_meet
              . exact⟨_,rfl,jL.o.size,jL.o.alloc jL.o.size _,aX d _⟩
              . exact⟨_,rfl,ak _,HMt d jL.o HR4.o⟩
             case rest =>
              obtain⟨nb,rfl,hnb,f,q⟩:=hcut;have hU4:=HU3.o.B f;obtain⟨xs,hO,hP⟩:=hU4.kU (K #[I J (s.a+1),I J c,V m,Z U 0 0,I J 0] 92);have H:wc.heap[g]? = M _:=(f.block g hlt).trans yE;have jf:=(ar _ wc).alloc (ak _) (K #[I J (s.a+1),I J c,V m,Z U 0 0,I J 0] 92);have c0a:(wc.alloc (K #[I J (s.a+1),I J c,V m,Z U 0 0,I J 0] 92)).cell? ⟨g,0,U⟩=M (Z N s.l.length iy):=(jf.cell (p:=⟨g,0,U⟩) (by show g<wc.heap.size;have:=f.size;omega)).trans (aq wc g 0 _ _ _ H);have c0b:wc.cell? ⟨g,0,U⟩=M (Z N s.l.length iy):=aq wc g 0 _ _ _ H;have z0:wc.cell? ⟨nb,0,U⟩=M (I J (s.a+1)):=aq wc nb 0 _ _ _ q;have z1:wc.cell? ⟨nb,1,U⟩=M (I J c):=aq wc nb 1 _ _ _ q;have z2:wc.cell? ⟨nb,2,U⟩=M (V m):=aq wc nb 2 _ _ _ q;have z3:wc.cell? ⟨nb,3,U⟩=M (Z U 0 0):=aq wc nb 3 _ _ _ q;have z4:wc.cell? ⟨nb,4,U⟩=M (I J 0):=aq wc nb 4 _ _ _ q;have ado:=f.size;have hbl:∀k,aw N=M k->(S k∧k≠g)∧k<b.heap.size:=fun k e=>by
               obtain⟨us,_,h2,h3,_⟩:=HU3.o;cases N with
               | none=>cases e
               | some a=>injection e with e;subst e;exact⟨h3 a rfl,(h2.f a rfl).2⟩
              have alN:nb<wc.heap.size:=(bO.1 q).1;have HK:∀x,(wc.alloc (K #[I J (s.a+1),I J c,V m,Z U 0 0,I J 0] 92)).drew.grownBy x (Value.slice N s.l.length iy).ownBlock->x.heap[g]? = M (K #[Z N s.l.length iy,I J (s.a+1)] 141 (0,0))∧x.heap[nb]? = M (K #[I J (s.a+1),I J c,V m,Z U 0 0,I J 0] 92 (0,0)):=fun x hG=>by
               rw[dq] at hG;refine⟨?_,?_⟩
               . rw[hG.block g (by show g<(wc.alloc _).heap.size;rw[bF];omega) (fun e=>(hbl g e.symm).1.2 rfl)];exact(jf.block g (by omega)).trans H
               . rw[hG.block nb (by show nb<(wc.alloc _).heap.size;rw[bF];omega) (fun e=>by have:=(hbl nb e.symm).2;omega)];exact(jf.block nb (by omega)).trans q
              have HO:=aK.B hO (bj _ _);have Yi:∀j u,(dv ⟨s.a+1,c,m,[],0⟩ ⟨U,0⟩)[j]? = M u->(wc.alloc (K #[I J (s.a+1),I J c,V m,Z U 0 0,I J 0] 92)).drew.cell? (Addr.add ⟨wc.heap.size,0,U⟩ j)=M u:=fun j u hu=>by
               rw[ge,ee];show(wc.alloc _).cell? _=_;rw[World.cell?_alloc_at _ _ _ _ rfl,mD];exact hu
              obtain⟨i0,hi0,hz0,hz1,hz2⟩:=info_parts Al;have Hi:=hi0;have lg:=aa hz0;have kZ:=aa hz1;have lq:=aa hz2
              have HN:s.l.length+1<=maxLen∧(s.l.length+1)*64<=140737488355328:=⟨by unfold maxLen;omega,by omega⟩;have hng:¬nb=g:=by omega
              have alO:¬g=nb:=by omega
              clear hi0 hz0 hz1 hz2 hO   jf H hU4  q HMt afx afy;go_wp2;go_region_law
               ((refine step_append_lies _ (by rfl) _ _ _ (by rfl) 0 92 i0 (.agg #[I J 0,I J 0,V ⟨#[]⟩,Z U 0 0,I J 0]) 5 64 underlying40 Hi lg.o kZ.o lq.o (by rfl) (by decide) (Z N s.l.length iy) s.l.length _ (by rfl) HO ⟨wc.heap.size,0,U⟩ 1 1 (dv ⟨s.a+1,c,m,[],0⟩ ⟨U,0⟩) (by rfl) (by rfl) Yi (FK _ _) (by decide) HN.1 HN.2 (ax _) (wc.heap.size+1) (by simp) ?_;intro g5 cap5 x C r sN ah3;obtain⟨r5,r6⟩:=HK _ r;have q0:x.cell? ⟨g,0,U⟩=M (Z N s.l.length iy):=aq x g 0 _ _ _ r5;have q1:x.frozen? ⟨g,0,U⟩=F:=aN x g 0 _ _ r5;have q2:x.cell? ⟨nb,0,U⟩=M (I J (s.a+1)):=aq x nb 0 _ _ _ r6;have HR5:=aa r5;have HG5:=aa r;have zL:=aa C;have HA5:=aa sN;clear r C sN r5 r6 ah3))
              all_goals
               go_wp2;go_ret2;have hG:=HG5.o;have hat:=HA5.o;rw[dq] at hG hat;obtain⟨r1,r2⟩:=hP (M ⟨g5,0,U⟩) cap5 x ⟨s.a+1,c,m,[],0⟩ ⟨U,0⟩ (fun _=>False) (bK.f _ _ _) (fun _ _ e=>e) zL.o (og (vJ _ _) hG) (by
                rcases hat with e | e
                . exact A e.symm
                . exact R (by rw[bF,e];rfl))
               have alP:=jG.b;obtain⟨hL,hTL⟩:=gI.B (S:=ay S w) HR5.o (A IE) (n:=s.l.length+1) (r1.a (fun k _ e=>by
                rcases e with e | e | e
                . exact⟨A e.1,e.2⟩
                . exact e.elim
                . exact⟨R (by omega),by omega⟩)) (by simp)
               refine⟨by rw[Mw.o];rfl,by rw[Mw.o];exact hL,?_⟩;exact((jG.a (am.f f) (fun _ e _=>e)).a (r2.j (fun k e=>e.1)) (fun _ e _=>e)).a (hTL.j (fun k e=>by subst e;exact IE)) (fun _ e _=>e)
         . rw[ba h4] at G;have y:∀W,Below w.heap.size w W->pv S 141 w g (eZ s c m) (Y (.tuple #[I J 0,I J (3:Nat)])) W:=fun W D=>pv.a h D (by unfold eZ;rw[if_neg L,if_neg e2,if_pos (R h4)]);clear h ok hU hg c0 c1 hT hTd h4 hv;go_enter func248,ntmps248;go_wp2_with (first | (go_at_call 280;refine HV.mono ?_;rintro e z ⟨rfl,rfl⟩) | (go_at_call 281;refine Ca.mono ?_;rintro e z ⟨rfl,B⟩;have HD:=aa (y z B);clear B))
           go_ret2;exact HD.o
theorem QX (s:aA)(S:Nat->Prop)(g b:Nat)(a:Int)(w:X)(h:cD w S g s)(ok:cN s)(i:w.cell? ⟨b,0,U⟩=M (I J a)):
 Calls prog 183 #[Q (M ⟨g,0,U⟩),Q (M ⟨b,0,U⟩)] w (bE S 141 w g (lD s a)):=by
 have d:=aa (E3 s S g a w h ok);generalize lD s a=r at *;clear ok h;go_enter func183,ntmps183;go_wp2_with fail;refine d.o.mono ?_;intro e j c;have f:=aa c;obtain⟨rfl,_,_⟩:=c;go_wp2;go_ret;exact f.o
theorem QY (s:aA)(S:Nat->Prop)(g b:Nat)(a:Int)(w:X)(h:cD w S g s)(ok:cN s)(i:w.cell? ⟨b,0,U⟩=M (I J a)):
 Calls prog 179 #[Q (M ⟨g,0,U⟩),Q (M ⟨b,0,U⟩)] w (bE S 141 w g (kh s a)):=by
 have d:=aa (DU s S g a w h ok);generalize kh s a=r at *;clear ok h;go_enter func179,ntmps179;go_wp2_with fail;refine d.o.mono ?_;intro e j c;have f:=aa c;obtain⟨rfl,_,_⟩:=c;go_wp2;go_ret;exact f.o
theorem Qq (s:aA)(S:Nat->Prop)(g b:Nat)(a:Int)(w:X)(h:cD w S g s)(ok:cN s)(i:w.cell? ⟨b,0,U⟩=M (I J a)):
 Calls prog 273 #[Q (M ⟨g,0,U⟩),Q (M ⟨b,0,U⟩)] w (bE S 141 w g (mt s a)):=by
 have d:=Ed s S g a w h ok;generalize mt s a=r at *;go_enter func273,ntmps273;go_wp2_with fail;refine d.mono ?_;intro e j c;have f:=aa c;obtain⟨rfl,_,_⟩:=c;go_wp2;go_ret;exact f.o
theorem Qr (s:aA)(S:Nat->Prop)(g c d:Nat)(a:Int)(b:Int)(w:X)(h:cD w S g s)(ok:cN s)(k:w.cell? ⟨c,0,U⟩=M (I J a))(l:w.cell? ⟨d,0,U⟩=M (I J b)):
 Calls prog 272 #[Q (M ⟨g,0,U⟩),Q (M ⟨c,0,U⟩),Q (M ⟨d,0,U⟩)] w (bE S 141 w g (lC s a b)):=by
 have i:=Ii s S g a b w h ok;generalize lC s a b=r at *;go_enter func272,ntmps272;go_wp2_with fail;refine i.mono ?_;intro e m f;have j:=aa f;obtain⟨rfl,_,_⟩:=f;go_wp2;go_ret;exact j.o
theorem Qs (s:aA)(S:Nat->Prop)(g f i j:Nat)(b:Int)(a:Int)(bo:ag)(c d:Nat)(l:ab)(w:X)(h:cD w S g s)(ok:cN s)(u:w.cell? ⟨f,0,U⟩=M (I J b))(v:w.cell? ⟨i,0,U⟩=M (I J a))(x:w.cell? ⟨j,0,U⟩=M (Z bo c d))(m:aB w bo d l)(n:l.length=c)(p:c<=1000000):
 Calls prog 271 #[Q (M ⟨g,0,U⟩),Q (M ⟨f,0,U⟩),Q (M ⟨i,0,U⟩),Q (M ⟨j,0,U⟩)] w (bE S 141 w g (iL s b a l)):=by
 have q:=BY s S g b a bo c d l w h ok m n p;generalize iL s b a l=r at *;go_enter func271,ntmps271;go_wp2_with fail;refine q.mono ?_;intro e y k;have t:=aa k;obtain⟨rfl,_,_⟩:=k;go_wp2;go_ret;exact t.o
theorem Qt (s:aA)(S:Nat->Prop)(g c d:Nat)(a:Int)(m:ae)(w:X)(h:cD w S g s)(ok:cN s)(p:w.cell? ⟨c,0,U⟩=M (I J a))(t:w.cell? ⟨d,0,U⟩=M (V m))(f:s.a<=1000000)(i:m.size<=1000000):
 Calls prog 265 #[Q (M ⟨g,0,U⟩),Q (M ⟨c,0,U⟩),Q (M ⟨d,0,U⟩)] w (bE S 141 w g (ng s a m)):=by
 have j:=B0 s S g a m w h ok f i;have k:ng s a m=((eZ s a m).1,(eZ s a m).2.2):=rfl;generalize eZ s a m=q at *;obtain⟨u,v,l⟩:=q;generalize ng s a m=r at *;go_enter func265,ntmps265;go_wp2_with fail;refine j.mono ?_;intro e n b;have o:bE S 141 w g r (Y (I J (l:Int))) n:=by
  rw[k];exact⟨rfl,b.b,b.c⟩
 obtain⟨rfl,_,_⟩:=b;go_wp2;go_ret;exact o
abbrev Tt (B:Nat)(w:X)(g:Nat)(s:aA):Prop:=cD w (fun k=>B<=k) g s
theorem bE.f {B:Nat}{w w':X}{g:Nat}{r:aA×Nat}{e:Ending}(h:bE (fun k=>B<=k) 141 w g r e w')(a:B<=w.heap.size):e=Y (I J (r.2:Int))∧Tt B w' g r.1∧Below B w w':=by
 refine⟨h.d,h.b.f (fun k _ e=>?_),h.c.below (fun k e=>e) a⟩;rcases e with e | e
 . exact e
 . omega
theorem DV (i z t:Int)(m:ae)(bo:ag)(n fZ:Nat)(bs:ab)(w:X)(hB:aB w bo fZ bs)(hn:bs.length=n)(hN:n<=1000000)(hm:m.size<=1000000):
 Calls prog 82 #[.agg #[I J i,I J z,V m,Z bo n fZ,I J t]] w fun e w'=>∃ao cap,e=Y (.agg #[I J i,I J z,V m,Z ao n cap,I J t])∧bK w' (fun k=>w.heap.size<=k) 5 ao cap bs∧Below w.heap.size w w':=by
 have q:∀W,Below w.heap.size w W->Calls prog 136 #[Z bo n fZ] W fun e w'=>∃ao cap,e=Y (Z ao n cap)∧bK w' (fun k=>W.heap.size<=k) 5 ao cap bs∧Below W.heap.size W w':=fun W hW=>KA bs bo fZ n W (hB.a hW) hn (by omega);go_enter func82,ntmps82;go_upto_region 1 with fail
 have C:=kv.H w #[I J i,I J z,V m,Z bo n fZ,I J t] #[I J 0,I J 0,V ⟨#[]⟩,Z U 0 0,I J 0] 92 92;have r:∀W,kv w (K #[I J i,I J z,V m,Z bo n fZ,I J t] 92 (0,0)) (K #[I J 0,I J 0,V ⟨#[]⟩,Z U 0 0,I J 0] 92 (0,0)) W->W.cell? ⟨w.heap.size,2,U⟩=M (V m)∧W.cell? ⟨w.heap.size,3,U⟩=M (Z bo n fZ)∧W.frozen? ⟨w.heap.size,2,U⟩=F∧W.frozen? ⟨w.heap.size,3,U⟩=F:=fun W h=>⟨h.f 2,h.f 3,h.y 2,h.y 3⟩;have c2:=r _ C;have j:w.heap.size+2<=((w.alloc (K #[I J i,I J z,V m,Z bo n fZ,I J t] 92)).alloc (K #[I J 0,I J 0,V ⟨#[]⟩,Z U 0 0,I J 0] 92)).heap.size:=by simp
 generalize ((w.alloc (K #[I J i,I J z,V m,Z bo n fZ,I J t] 92)).alloc (K #[I J 0,I J 0,V ⟨#[]⟩,Z U 0 0,I J 0] 92))=w1 at *;have ZM:=aa j;go_cut [3] (fun _ D=>∃ao cap,kv w (K #[I J i,I J z,V m,Z ao n cap,I J t] 92 (0,0)) (K #[I J 0,I J 0,V ⟨#[]⟩,Z U 0 0,I J 0] 92 (0,0)) D∧bK D (fun k=>w.heap.size+2<=k) 5 ao cap bs)
 case first =>
  go_region_with (first
   | (go_at_call 135;refine((fun W=>oS m W hm) _).mono ?_;rintro e w2 ⟨rfl,c⟩;have d:=C.B ((bj _ _).trans c);obtain⟨G,H,g2,g3⟩:=r _ d;have L:=aa d;have s:Hid (w1.heap.size<=w2.heap.size):=c.size;clear c d)
   | (go_at_call 136;refine(q _ L.o.below).mono ?_;rintro e u ⟨ao,cap,rfl,p,l⟩;have f:=L.o.B l;obtain⟨N,S,k2,k3⟩:=r _ f;have x:=aa f;have HO:=aa p;clear l f p))
  all_goals
   go_wp2;go_meet;have y:=x.o.jK 2 (V m) rfl;obtain⟨B,AQ⟩:=y.G 3 (Z ao n cap);have EN:am (fun k=>w.heap.size<=k∧k<w.heap.size+2) u (u.setCell ⟨w.heap.size,2,U⟩ (V m)):=am.r _ u _ _ ⟨ak _,by show w.heap.size<_;omega⟩;have j:=ZM.o;have hs2:=s.o;refine⟨ao,cap,B,((HO.o.H (S':=fun k=>w.heap.size+2<=k) (fun k e _ _=>by omega)).a EN (fun k e h=>by omega)).a AQ (fun k e h=>by omega)⟩
 case rest =>
  obtain⟨ao,cap,a,p⟩:=hcut;have d0:=a.f 0;have d1:=a.f 1;have G:=a.f 2;have H:=a.f 3;have d4:=a.f 4
  have g0:=a.r 0;have g1:=a.r 1;have g2:=a.r 2;have g3:=a.r 3;have g4:=a.r 4
  have e0:=a.a 0;have e1:=a.a 1;have N:=a.a 2;have S:=a.a 3;have e4:=a.a 4
  simp at d0 d1 G H d4 e0 e1 N S e4;go_wp2;obtain⟨a1,t1⟩:=a.j 0 (I J i);obtain⟨a2,t2⟩:=a1.j 1 (I J z);obtain⟨a3,t3⟩:=a2.j 2 (V m);obtain⟨a4,t4⟩:=a3.j 3 (Z ao n cap);obtain⟨g,t5⟩:=a4.j 4 (I J t);have b:∀k,w.heap.size+2<=k->¬(w.heap.size<=k∧k<w.heap.size+2):=fun k e h=>by omega
  have T:=((((p.a t1 b).a t2 b).a t3 b).a t4 b).a t5 b;generalize (((((wc.setCell ⟨w.heap.size+1,0,U⟩ (Value.int J i)).setCell ⟨w.heap.size+1,1,U⟩ (Value.int J z)).setCell ⟨w.heap.size+1,2,U⟩ (Value.string m)).setCell ⟨w.heap.size+1,3,U⟩ (Value.slice ao n cap)).setCell ⟨w.heap.size+1,4,U⟩ (Value.int J t))=w6 at g T ⊢;have r0:=g.a 0;have r1:=g.a 1;have r2:=g.a 2;have r3:=g.a 3;have r4:=g.a 4;refine aR (v:=.agg #[I J i,I J z,V m,Z ao n cap,I J t]) (by simp[results,results82,go_sem,r0,r1,r2,r3,r4]) rfl ⟨ao,cap,rfl,T.j (fun k _ e=>by omega),g.below⟩
def ud (l:List aL):Prop:=l.length<=1000∧∀u∈l,u.d.size<=1000000∧u.b.length<=1000000
theorem cN.jY {s:aA}(ok:cN s):ud s.l:=⟨by have:=ok.b;omega,fun u a=>⟨by have:=(ok.a u a).b;omega,by have:=(ok.a u a).a;omega⟩⟩
theorem BR (l:List aL)(ao:ag)(cap n:Nat)(w:X)(hl:qb w ao cap l)(hcap:n<=cap)(hn:l.length=n)(m:ud l):
 Calls prog 63 #[Z ao n cap] w fun e w'=>∃gL,e=Y (Z gL n n)∧dN w' (fun k=>w.heap.size<=k) 92 5 gL n l∧Below w.heap.size w w':=by
 subst hn;have hN:=m.1;obtain⟨i0,y,z,B,C⟩:=info_parts Al;obtain⟨w1,hmk,sU,c⟩:=run_make_full (P:=prog) w 0 40 92 i0 (.agg #[I J 0,I J 0,V ⟨#[]⟩,Z U 0 0,I J 0]) 5 underlying40 y z B J J l.length (by rw[C];omega) (by unfold maxLen;omega) (ax _);rw[show(Value.agg #[I J 0,I J 0,V ⟨#[]⟩,Z U 0 0,I J 0]).cells=#[I J 0,I J 0,V ⟨#[]⟩,Z U 0 0,I J 0] from rfl,Qv] at sU;have D:Below w.heap.size w w1:=⟨c.os,c.tape,c.output,c.size,fun k hk=>c.block k hk (by simp)⟩;have G:dN w1 (fun k=>w.heap.size<=k) 92 5 (M ⟨w.heap.size,0,U⟩) l.length (List.replicate l.length kN):=dN.lI sU (ak _);have HZ:=aa m;go_enter func63,ntmps63;go_wp2;go_loopw [11] (fun t wr=>∃k:Nat,k<=l.length∧t=I J k∧Below w.heap.size w wr∧dN wr (fun k=>w.heap.size<=k) 92 5 (M ⟨w.heap.size,0,U⟩) l.length (l.take k++List.replicate (l.length-k) kN)) (fun t _=>l.length-(intOf t).toNat)
 case atStart=>exact⟨0,ax _,rfl,D,G⟩
 case round =>
  obtain⟨k,hk,rfl,x,hU⟩:=hrel;by_cases f:k<l.length
  . obtain⟨bb,oo,q,rfl,hc0,hc1,hc2,hc3,hc4,H⟩:=(hl.f x).a k f;have hlt':(k:Int)<l.length:=by omega
    have m:=HZ.o.2 l[k] (fb f);have HT:(l.take k++List.replicate (l.length-k) kN).set k l[k]=l.take (k+1)++List.replicate (l.length-(k+1)) kN:=Qw l k f;have hL:k<(l.take k++List.replicate (l.length-k) kN).length:=by rw[aD,bU,List.length_replicate];omega
    have jf:=(ar _ wr).alloc (ak _) (K #[I J l[k].c,I J l[k].a,V l[k].d,Z q.a l[k].b.length q.b,I J l[k].e] 92);have HC:=DV l[k].c l[k].a l[k].e l[k].d q.a l[k].b.length q.b l[k].b (wr.alloc (K #[I J l[k].c,I J l[k].a,V l[k].d,Z q.a l[k].b.length q.b,I J l[k].e] 92)) (H.a jf) rfl m.2 m.1;have L:=x.size;have HX:Hid (∀d gL a,bK d (fun j=>(wr.alloc (K #[I J l[k].c,I J l[k].a,V l[k].d,Z q.a l[k].b.length q.b,I J l[k].e] 92)).heap.size<=j) 5 gL a l[k].b->Below (wr.alloc (K #[I J l[k].c,I J l[k].a,V l[k].d,Z q.a l[k].b.length q.b,I J l[k].e] 92)).heap.size (wr.alloc (K #[I J l[k].c,I J l[k].a,V l[k].d,Z q.a l[k].b.length q.b,I J l[k].e] 92)) d ->
     (∀j,j<5->(∃v,d.cell? ⟨w.heap.size,k*5+j,U⟩=M v)∧d.frozen? ⟨w.heap.size,k*5+j,U⟩=F) ∧
     Below w.heap.size w (((((d.setCell ⟨w.heap.size,k*5,U⟩ (I J l[k].c)).setCell ⟨w.heap.size,k*5+1,U⟩ (I J l[k].a)).setCell ⟨w.heap.size,k*5+2,U⟩ (V l[k].d)).setCell ⟨w.heap.size,k*5+3,U⟩ (Z gL l[k].b.length a)).setCell ⟨w.heap.size,k*5+4,U⟩ (I J l[k].e)) ∧
     dN (((((d.setCell ⟨w.heap.size,k*5,U⟩ (I J l[k].c)).setCell ⟨w.heap.size,k*5+1,U⟩ (I J l[k].a)).setCell ⟨w.heap.size,k*5+2,U⟩ (V l[k].d)).setCell ⟨w.heap.size,k*5+3,U⟩ (Z gL l[k].b.length a)).setCell ⟨w.heap.size,k*5+4,U⟩ (I J l[k].e)) (fun k=>w.heap.size<=k) 92 5 (M ⟨w.heap.size,0,U⟩) l.length (l.take (k+1)++List.replicate (l.length-(k+1)) kN)):=fun d gL a N g=>by
     have i:=au jf g;have r:=(hU.a (S':=fun j=>w.heap.size<=j∧j<wr.heap.size) (fun j hj e=>⟨e,hj⟩)).B i;obtain⟨g2,s,_,_,b⟩:=r.r.a k hL;injection s with s;injection s with s;subst s;obtain⟨S,wN⟩:=r.H (u:=l[k]) hL N (fun j e h=>by rw[bF] at e;omega) rfl;refine⟨b,(x.trans (i.mono L)).trans (wN.below (fun j e=>by subst e;exact ak _) (by have:=i.size;omega)),?_⟩;rw[<-HT];refine S.a (fun j _ e=>?_);rcases e with e | e
     . exact e.1
     . rw[bF] at e;omega
    generalize l[k]=p at *;go_wp2_with fail;refine HC.mono ?_;rintro e d ⟨gL,a,rfl,N,g⟩;obtain⟨b,T,W⟩:=HX.o d gL a N g;obtain⟨⟨v0,d0⟩,f0⟩:=b 0 (by decide);obtain⟨⟨v1,d1⟩,f1⟩:=b 1 (by decide);obtain⟨⟨v2,d2⟩,f2⟩:=b 2 (by decide);obtain⟨⟨v3,d3⟩,f3⟩:=b 3 (by decide);obtain⟨⟨v4,d4⟩,f4⟩:=b 4 (by decide);rw[mA] at d0 f0;have ZN:=T;have RN:=aa W
    go_wp2;go_roundw
    case rel=>exact⟨k+1,by omega,by go_num,ZN,RN.o⟩
    case measure=>simp[intOf];omega
  . obtain rfl:k=l.length:=by omega
    go_wp2;go_ret;refine⟨M ⟨w.heap.size,0,U⟩,rfl,?_,x⟩;have:=hU;rw[eQ,Nat.sub_self,List.replicate_zero,fK] at this;exact this
theorem Qx (s:aA)(S:Nat->Prop)(g:Nat)(w:X)(h:cD w S g s)(j:ud s.l):
 Calls prog 21 #[Q (M ⟨g,0,U⟩)] w fun e w'=>∃gL,e=Y (Z gL s.l.length s.l.length)∧dN w' (fun k=>w.heap.size<=k) 92 5 gL s.l.length s.l∧Below w.heap.size w w':=by
 obtain⟨m,a,p,q,r,t,u,v,i⟩:=h.j;have n:=BR s.l m a s.l.length w i.j i.f rfl j;generalize s.l=l at *;go_enter func21,ntmps21;go_wp2_with fail;refine n.mono ?_;rintro e x ⟨gL,rfl,b,c⟩;have d:=b;have f:=aa c
 go_wp2;go_ret;exact⟨gL,rfl,d,f.o⟩
theorem tj (s:aA)(S:Nat->Prop)(g:Nat)(w:X)(h:cD w S g s)(x:ud s.l):
 Calls prog 238 #[Q (M ⟨g,0,U⟩)] w fun e w'=>∃q,e=Y (Q (M ⟨q,0,U⟩))∧cD w' (fun k=>w.heap.size<=k) q s∧Below w.heap.size w w':=by
 have j:=h.r;obtain⟨m,i,y,z,N,T,W,hS,r⟩:=h.j;have B:=BR s.l m i s.l.length w.drew (r.j.f (bj _ _)) r.f rfl x;have C:∀a f,dN a (fun k=>w.drew.heap.size<=k) 92 5 f s.l.length s.l->Below w.drew.heap.size w.drew a->a.cell? ⟨g,0,U⟩=M (Z m s.l.length i)∧a.cell? ⟨g,1,U⟩=M (I J s.a)∧cD (a.alloc (K #[Z f s.l.length s.l.length,I J s.a] 141)) (fun k=>w.heap.size<=k) a.heap.size s∧Below w.heap.size w (a.alloc (K #[Z f s.l.length s.l.length,I J s.a] 141)):=fun a f b c=>by
  have d:=(bj _ _).trans c;have t:=(ar _ a).alloc (ak _) (K #[Z f s.l.length s.l.length,I J s.a] 141);exact⟨(d.cell (p:=⟨g,0,U⟩) j).trans y,(d.cell (p:=⟨g,1,U⟩) j).trans z,⟨f,s.l.length,aX a _,d.size,((b.a (S':=fun k=>w.heap.size<=k∧k<a.heap.size) (fun k D e=>⟨e,D⟩)).B t).a (fun k _ e=>⟨e.1,by omega⟩)⟩,au d t⟩
 generalize s.l.length=n at *;generalize hl:s.a=G at *;go_enter func238,ntmps238;go_wp2_with fail;go_region_held3 (fun w'=>w'.cell? ⟨g,0,U⟩=M (Z m n i)∧w'.cell? ⟨g,1,U⟩=M (I J G)) (go_keep) (first | (go_at_call 63;refine B.mono ?_;rintro e a ⟨f,rfl,b,c⟩;obtain⟨d0,d1,u,v⟩:=C a f b c;have H:=aa u;have L:=aa v;clear u v b c))
 all_goals
  go_wp2;go_ret;exact⟨_,rfl,H.o,L.o⟩
theorem Ef (s:aA)(S:Nat->Prop)(g:Nat)(i:Int)(w:X)(h:cD w S g s)(ok:cN s)(r:cE s.l i=U):
 Calls prog 32 #[Q (M ⟨g,0,U⟩),I J i] w fun e w'=>e=Y (.tuple #[.agg #[I J 0,I J 0,V ⟨#[]⟩,Z U 0 0,I J 0],.bool F])∧Below w.heap.size w w':=by
 have m:=(ar _ w).alloc (ak _) (K #[I J 0,I J 0,V ⟨#[]⟩,Z U 0 0,I J 0] 92);have n:=ri s S g i _ (h.a m) (by have:=ok.b;omega);rw[qG r] at n;go_enter func32,ntmps32;go_wp2_with fail;refine n.mono ?_;rintro e a ⟨rfl,q⟩;have j:=au m q;have b:=(q.block w.heap.size (by simp)).trans (aX w _);have t:=aq a _ 0 _ _ _ b;have u:=aq a _ 1 _ _ _ b;have x:=aq a _ 2 _ _ _ b;have z3:=aq a _ 3 _ _ _ b;have y:=aq a _ 4 _ _ _ b
 have L:=aN a _ 0 _ _ b;have N:=aN a _ 1 _ _ b;have T:=aN a _ 2 _ _ b;have W:=aN a _ 3 _ _ b;have y4:=aN a _ 4 _ _ b
 simp at t u x z3 y;have k:=j;have z:=aa b
 go_wp2;have d:=((((k.setCell (p:=⟨w.heap.size,0,U⟩) (ak _) (I J 0)).setCell (p:=⟨w.heap.size,1,U⟩) (ak _) (I J 0)).setCell (p:=⟨w.heap.size,2,U⟩) (ak _) (V ⟨#[]⟩)).setCell (p:=⟨w.heap.size,3,U⟩) (ak _) (Z U 0 0)).setCell (p:=⟨w.heap.size,4,U⟩) (ak _) (I J 0);have c:=aP _ _ 4 _ _ (I J 0) (aP _ _ 3 _ _ (Z U 0 0) (aP _ _ 2 _ _ (V ⟨#[]⟩) (aP _ _ 1 _ _ (I J 0) (aP _ _ 0 _ _ (I J 0) z.o))));generalize (((((a.setCell ⟨w.heap.size,0,U⟩ (Value.int J 0)).setCell ⟨w.heap.size,1,U⟩ (Value.int J 0)).setCell ⟨w.heap.size,2,U⟩ (Value.string ⟨#[]⟩)).setCell ⟨w.heap.size,3,U⟩ (Value.slice U 0 0)).setCell ⟨w.heap.size,4,U⟩ (Value.int J 0))=f at d c ⊢;have B:=aq f _ 0 _ _ _ c;have C:=aq f _ 1 _ _ _ c;have D:=aq f _ 2 _ _ _ c;have G:=aq f _ 3 _ _ _ c;have H:=aq f _ 4 _ _ _ c;refine aR (v:=.tuple #[.agg #[I J 0,I J 0,V ⟨#[]⟩,Z U 0 0,I J 0],.bool F]) (by simp[results,results32,go_sem,B,C,D,G,H]) rfl ⟨rfl,d⟩
theorem yF (s:aA)(S:Nat->Prop)(g:Nat)(y:Int)(i:Nat)(w:X)(h:cD w S g s)(ok:cN s)(hp:cE s.l y=M i)(z:i<s.l.length):
 Calls prog 32 #[Q (M ⟨g,0,U⟩),I J y] w fun e w'=>∃ao cap,e=Y (.tuple #[.agg #[I J s.l[i].c,I J s.l[i].a,V s.l[i].d,Z ao s.l[i].b.length cap,I J s.l[i].e],.bool true])∧aB w' ao cap s.l[i].b∧Below w.heap.size w w':=by
 have L:=(ar _ w).alloc (ak _) (K #[I J 0,I J 0,V ⟨#[]⟩,Z U 0 0,I J 0] 92);have N:=ri s S g y _ (h.a L) (by have:=ok.b;omega);rw[qF hp] at N;have T:=aa h;have W:=ok.a _ (fb z);have k1:=W.a;have k2:=W.b;have mH:=ok.b
 have hi':(i:Int)<s.l.length:=by omega
 obtain⟨u,hu⟩:∃u,s.l[i]=u:=⟨_,rfl⟩;rw[hu] at k1 k2 ⊢;go_enter func32,ntmps32;go_wp2_with fail;refine N.mono ?_;rintro e w1 ⟨rfl,hb⟩;have d:=au L hb;obtain⟨gu,m⟩:=lc.f (T.o.a d) z;obtain⟨q,h0,h1,h2,h3,h4,hf,n⟩:=lc.a (T.o.a d) m z;rw[hu] at h0 h1 h2 h3 h4 n;obtain⟨cap,hcap,hc⟩:=m;have b:=(hb.block w.heap.size (by simp)).trans (aX w _);have B:=(bO.1 b).1;have C:=d;have HR:=aa b
 go_wp2_with fail;refine(DV u.c u.a u.e u.d q.a u.b.length q.b u.b w1 n rfl (by omega) (by omega)).mono ?_;rintro e c ⟨f,a,rfl,hO,r⟩;have D:=au C r;have b:=(r.block w.heap.size B).trans HR.o;have z0:=aq c _ 0 _ _ _ b;have z1:=aq c _ 1 _ _ _ b;have z2:=aq c _ 2 _ _ _ b;have z3:=aq c _ 3 _ _ _ b;have z4:=aq c _ 4 _ _ _ b
 have y0:=aN c _ 0 _ _ b;have y1:=aN c _ 1 _ _ b;have y2:=aN c _ 2 _ _ b;have y3:=aN c _ 3 _ _ b;have y4:=aN c _ 4 _ _ b
 simp at z0 z1 z2 z3 z4;have jL:=D;have G:=aa b;have HO:=aa hO
 go_wp2;have t:=((((jL.setCell (p:=⟨w.heap.size,0,U⟩) (ak _) (I J u.c)).setCell (p:=⟨w.heap.size,1,U⟩) (ak _) (I J u.a)).setCell (p:=⟨w.heap.size,2,U⟩) (ak _) (V u.d)).setCell (p:=⟨w.heap.size,3,U⟩) (ak _) (Z f u.b.length a)).setCell (p:=⟨w.heap.size,4,U⟩) (ak _) (I J u.e);have j:=aP _ _ 4 _ _ (I J u.e) (aP _ _ 3 _ _ (Z f u.b.length a) (aP _ _ 2 _ _ (V u.d) (aP _ _ 1 _ _ (I J u.a) (aP _ _ 0 _ _ (I J u.c) G.o))));have H:=(HO.o.a (vz w.heap.size [I J u.c,I J u.a,V u.d,Z f u.b.length a,I J u.e] 0 c) (fun k e h=>by subst h;omega)).B;change aB (((((c.setCell ⟨w.heap.size,0,U⟩ (Value.int J u.c)).setCell ⟨w.heap.size,1,U⟩ (Value.int J u.a)).setCell ⟨w.heap.size,2,U⟩ (Value.string u.d)).setCell ⟨w.heap.size,3,U⟩ (Value.slice f u.b.length a)).setCell ⟨w.heap.size,4,U⟩ (Value.int J u.e)) _ _ _ at H;generalize (((((c.setCell ⟨w.heap.size,0,U⟩ (Value.int J u.c)).setCell ⟨w.heap.size,1,U⟩ (Value.int J u.a)).setCell ⟨w.heap.size,2,U⟩ (Value.string u.d)).setCell ⟨w.heap.size,3,U⟩ (Value.slice f u.b.length a)).setCell ⟨w.heap.size,4,U⟩ (Value.int J u.e))=x at t j H ⊢;have r0:=aq x _ 0 _ _ _ j;have r1:=aq x _ 1 _ _ _ j;have r2:=aq x _ 2 _ _ _ j;have r3:=aq x _ 3 _ _ _ j;have r4:=aq x _ 4 _ _ _ j;refine aR (v:=.tuple #[.agg #[I J u.c,I J u.a,V u.d,Z f u.b.length a,I J u.e],.bool true]) (by simp[results,results32,go_sem,r0,r1,r2,r3,r4]) rfl ⟨f,a,rfl,H,t⟩
theorem tO9 {x:aH}(h:df x=F):nB x=([],1):=by unfold nB;rw[if_neg (by simp[h])]
theorem te {x:aH}(h:df x=true):nB x=(aW x,0):=by unfold nB;rw[if_pos h]
theorem tC {s:aA}(ok:cN s):ud s.l:=cN.jY ok
theorem TW (s:av)(S:Nat->Prop)(g b1:Nat)(x:aH)(B:ag)(C D:Nat)(r:aA×Nat)(w:X)(h:aS w S g s)(ok:aJ s)(hT:aB w B D x.c)(hn:x.c.length=C)
 (hF:∀W G,Below w.heap.size w W->w.heap.size+1<=W.heap.size->cD W (fun k=>w.heap.size+1<=k) G s.h->Calls prog 183 #[Q (M ⟨G,0,U⟩),Q (M ⟨b1,0,U⟩)] W (bE (fun k=>w.heap.size+1<=k) 141 W G r)) :
 Calls prog 178 #[Q (M ⟨g,0,U⟩),.agg #[I J x.b,I J x.a,I J x.n,Z B C D],.func (.func 183) #[] #[Q (M ⟨b1,0,U⟩)]] w (du S w g (bI s r x)):=by
 obtain⟨gs,gl,ao,ca,P,hI⟩:=h;have jf:=(ar _ w).alloc (ak _) (K #[I J x.b,I J x.a,I J x.n,Z B C D] 264);have l:=hI.f jf;obtain⟨⟨c0,c1⟩,_⟩:=ce l.a;have HC:=aa (tj s.h P gs _ l.d (tC ok.h));have m:=aa hI;have uh:=aa jf;have HF:=aa hF;have HT:=aa hT
 have hlt:=hI.j;clear hI l jf hF hT;go_enter func178,ntmps178;go_wp2_with fail;refine HC.o.mono ?_;rintro e w2 ⟨G,rfl,H,f⟩;have p:Below w.heap.size w w2:=au uh.o f;have HD:=aa (HF.o w2 G p (by have:=f.size;simpa using this) (H.f (fun k _ e=>by simpa using e)));have L:=aa p;have q:=aa f
 clear H f p HC HF c0 c1;go_wp2_with fail;refine HD.o.mono ?_;intro e w3 hd;have j:=q.o.size;have N:w.heap.size+1<=w2.heap.size:=by simpa using j
 obtain⟨he,IE,t⟩:=hd.f N;have T:Below (w.heap.size+1) (w.alloc (K #[I J x.b,I J x.a,I J x.n,Z B C D] 264)) w3:=(q.o.mono (by simp)).trans t;have hB3:Below w.heap.size w w3:=L.o.trans (t.mono (Nat.le_succ _));obtain⟨x0,x1,x2,x3⟩:=rA (Nat.lt_succ_self _) T;have c:=aa hB3;have BZ:=aa IE
 clear hd IE t T hB3 j N HD L q;subst he;by_cases i:r.2=0
 . have u:=aa (sZ x B C D w3 (HT.o.a c.o) hn);rw[i];cases d:df x with
   | false =>
     have v:Hid (∀W,Below w.heap.size w W->du S w g (bI s r x) (Y (I J (1:Nat))) W):=fun W hb=>du.a ⟨gs,gl,ao,ca,P,m.o⟩ hb (qL i d);unfold lQ at u;rw[tO9 d] at u;clear i d m;go_wp2_with fail;refine u.o.mono ?_;rintro e w4 ⟨sD,yY,rfl,_,a⟩;have jL:=aa (au c.o a);clear a;go_wp2;go_ret;exact v.o _ jL.o
   | true =>
     unfold lQ at u;rw[te d] at u;have hlx:(aW x).length<=1048600:=by have:=rS d;have:=nO d;omega
     by_cases hl:100000<s.a.length+(aW x).length
     . have v:Hid (∀W,Below w.heap.size w W->du S w g (bI s r x) (Y (I J (16:Nat))) W):=fun W hb=>du.a ⟨gs,gl,ao,ca,P,m.o⟩ hb (qK i d hl);have HL:=aa (show ¬s.a.length+(aW x).length<=100000 by omega);clear i d hl;generalize aW x=y at *;go_wp2_with fail;refine u.o.mono ?_;rintro e w4 ⟨sD,yY,rfl,_,a⟩;have b:=au c.o a;have z:=m.o.f b;obtain⟨⟨c0,c1⟩,_⟩:=ce z.a;have HW:=aa (sX z.b sD yY y.length HL.o);have jL:=aa b;clear a b z;go_wp2_with fail;refine HW.o.mono ?_;rintro e w5 ⟨rfl,DI⟩;rw[DI];clear DI;go_wp2;go_ret;exact v.o _ jL.o
     . have v:Hid (∀W,aS W (ay S w) g ⟨r.1,s.a++aW x,s.b⟩->am S w W->du S w g (bI s r x) (Y (I J 0)) W):=fun W h1 h2=>by
        rw[qM i d hl];exact⟨rfl,h1,h2⟩
       have HL:=aa (show s.a.length+(aW x).length<=100000 by omega);clear i d hl;generalize aW x=y at *;go_wp2_with fail;refine u.o.mono ?_;rintro e w4 ⟨sD,yY,rfl,hO4,a⟩;have b:=au c.o a;have z:=m.o.f b;obtain⟨⟨c0,c1⟩,_⟩:=ce z.a;have HW:=aa (sT z.b sD yY y.length y hO4.f rfl HL.o);have Yj:=aa (((BZ.o.a a).f (S':=fun k=>w.heap.size<=k) (fun k _ e=>Nat.le_of_succ_le e)));have jL:=aa b;clear a b z hO4;go_wp2_with fail;refine HW.o.mono ?_;rintro e w5 ⟨zU,ca5,rfl,hL5,AQ,sN⟩;obtain⟨oD,hA,PO⟩:=m.o.r jL.o Yj.o hL5 AQ sN;obtain⟨⟨y0,y1⟩,z0,z1⟩:=ce oD;have HA:=aa hA;have Yk:=aa PO
       clear hL5 AQ sN oD hA PO c0 c1;go_wp2;go_ret;exact v.o _ HA.o Yk.o
 . have v:Hid (du S w g (bI s r x) (Y (I J (r.2:Int))) w3):=du.a ⟨gs,gl,ao,ca,P,m.o⟩ c.o (qJ i);have hc':¬(r.2:Int)=0:=by omega
   clear i;generalize (r.2:Int)=rc at *;go_wp2;go_ret;exact v.o
theorem Se (s:av)(S:Nat->Prop)(g b1:Nat)(x:aH)(B:ag)(C D:Nat)(r:aA×Nat)(w:X)(h:aS w S g s)(ok:aJ s)(hT:aB w B D x.c)(hn:x.c.length=C)
 (hF:∀W G,Below w.heap.size w W->w.heap.size+1<=W.heap.size->cD W (fun k=>w.heap.size+1<=k) G s.h->Calls prog 179 #[Q (M ⟨G,0,U⟩),Q (M ⟨b1,0,U⟩)] W (bE (fun k=>w.heap.size+1<=k) 141 W G r)) :
 Calls prog 178 #[Q (M ⟨g,0,U⟩),.agg #[I J x.b,I J x.a,I J x.n,Z B C D],.func (.func 179) #[] #[Q (M ⟨b1,0,U⟩)]] w (du S w g (bI s r x)):=by
 obtain⟨gs,gl,ao,ca,P,hI⟩:=h;have jf:=(ar _ w).alloc (ak _) (K #[I J x.b,I J x.a,I J x.n,Z B C D] 264);have l:=hI.f jf;obtain⟨⟨c0,c1⟩,_⟩:=ce l.a;have HC:=aa (tj s.h P gs _ l.d (tC ok.h));have m:=aa hI;have uh:=aa jf;have HF:=aa hF;have HT:=aa hT
 have hlt:=hI.j;clear hI l jf hF hT;go_enter func178,ntmps178;go_wp2_with fail;refine HC.o.mono ?_;rintro e w2 ⟨G,rfl,H,f⟩;have p:Below w.heap.size w w2:=au uh.o f;have HD:=aa (HF.o w2 G p (by have:=f.size;simpa using this) (H.f (fun k _ e=>by simpa using e)));have L:=aa p;have q:=aa f
 clear H f p HC HF c0 c1;go_wp2_with fail;refine HD.o.mono ?_;intro e w3 hd;have j:=q.o.size;have N:w.heap.size+1<=w2.heap.size:=by simpa using j
 obtain⟨he,IE,t⟩:=hd.f N;have T:Below (w.heap.size+1) (w.alloc (K #[I J x.b,I J x.a,I J x.n,Z B C D] 264)) w3:=(q.o.mono (by simp)).trans t;have hB3:Below w.heap.size w w3:=L.o.trans (t.mono (Nat.le_succ _));obtain⟨x0,x1,x2,x3⟩:=rA (Nat.lt_succ_self _) T;have c:=aa hB3;have BZ:=aa IE
 clear hd IE t T hB3 j N HD L q;subst he;by_cases i:r.2=0
 . have u:=aa (sZ x B C D w3 (HT.o.a c.o) hn);rw[i];cases d:df x with
   | false =>
     have v:Hid (∀W,Below w.heap.size w W->du S w g (bI s r x) (Y (I J (1:Nat))) W):=fun W hb=>du.a ⟨gs,gl,ao,ca,P,m.o⟩ hb (qL i d);unfold lQ at u;rw[tO9 d] at u;clear i d m;go_wp2_with fail;refine u.o.mono ?_;rintro e w4 ⟨sD,yY,rfl,_,a⟩;have jL:=aa (au c.o a);clear a;go_wp2;go_ret;exact v.o _ jL.o
   | true =>
     unfold lQ at u;rw[te d] at u;have hlx:(aW x).length<=1048600:=by have:=rS d;have:=nO d;omega
     by_cases hl:100000<s.a.length+(aW x).length
     . have v:Hid (∀W,Below w.heap.size w W->du S w g (bI s r x) (Y (I J (16:Nat))) W):=fun W hb=>du.a ⟨gs,gl,ao,ca,P,m.o⟩ hb (qK i d hl);have HL:=aa (show ¬s.a.length+(aW x).length<=100000 by omega);clear i d hl;generalize aW x=y at *;go_wp2_with fail;refine u.o.mono ?_;rintro e w4 ⟨sD,yY,rfl,_,a⟩;have b:=au c.o a;have z:=m.o.f b;obtain⟨⟨c0,c1⟩,_⟩:=ce z.a;have HW:=aa (sX z.b sD yY y.length HL.o);have jL:=aa b;clear a b z;go_wp2_with fail;refine HW.o.mono ?_;rintro e w5 ⟨rfl,DI⟩;rw[DI];clear DI;go_wp2;go_ret;exact v.o _ jL.o
     . have v:Hid (∀W,aS W (ay S w) g ⟨r.1,s.a++aW x,s.b⟩->am S w W->du S w g (bI s r x) (Y (I J 0)) W):=fun W h1 h2=>by
        rw[qM i d hl];exact⟨rfl,h1,h2⟩
       have HL:=aa (show s.a.length+(aW x).length<=100000 by omega);clear i d hl;generalize aW x=y at *;go_wp2_with fail;refine u.o.mono ?_;rintro e w4 ⟨sD,yY,rfl,hO4,a⟩;have b:=au c.o a;have z:=m.o.f b;obtain⟨⟨c0,c1⟩,_⟩:=ce z.a;have HW:=aa (sT z.b sD yY y.length y hO4.f rfl HL.o);have Yj:=aa (((BZ.o.a a).f (S':=fun k=>w.heap.size<=k) (fun k _ e=>Nat.le_of_succ_le e)));have jL:=aa b;clear a b z hO4;go_wp2_with fail;refine HW.o.mono ?_;rintro e w5 ⟨zU,ca5,rfl,hL5,AQ,sN⟩;obtain⟨oD,hA,PO⟩:=m.o.r jL.o Yj.o hL5 AQ sN;obtain⟨⟨y0,y1⟩,z0,z1⟩:=ce oD;have HA:=aa hA;have Yk:=aa PO
       clear hL5 AQ sN oD hA PO c0 c1;go_wp2;go_ret;exact v.o _ HA.o Yk.o
 . have v:Hid (du S w g (bI s r x) (Y (I J (r.2:Int))) w3):=du.a ⟨gs,gl,ao,ca,P,m.o⟩ c.o (qJ i);have hc':¬(r.2:Int)=0:=by omega
   clear i;generalize (r.2:Int)=rc at *;go_wp2;go_ret;exact v.o
theorem Sf (s:av)(S:Nat->Prop)(g b1:Nat)(x:aH)(D:ag)(G H:Nat)(r:aA×Nat)(w:X)(h:aS w S g s)(ok:aJ s)(hT:aB w D H x.c)(hn:x.c.length=G)
 (hF:∀W m,Below w.heap.size w W->w.heap.size+1<=W.heap.size->cD W (fun k=>w.heap.size+1<=k) m s.h->Calls prog 273 #[Q (M ⟨m,0,U⟩),Q (M ⟨b1,0,U⟩)] W (bE (fun k=>w.heap.size+1<=k) 141 W m r)) :
 Calls prog 178 #[Q (M ⟨g,0,U⟩),.agg #[I J x.b,I J x.a,I J x.n,Z D G H],.func (.func 273) #[] #[Q (M ⟨b1,0,U⟩)]] w (du S w g (bI s r x)):=by
 obtain⟨L,gl,ao,ca,P,hI⟩:=h;have jf:=(ar _ w).alloc (ak _) (K #[I J x.b,I J x.a,I J x.n,Z D G H] 264);have p:=hI.f jf;obtain⟨⟨c0,c1⟩,_⟩:=ce p.a;have l:=aa hI;have uh:=aa jf;have HF:=aa hF;have HT:=aa hT
 have hlt:=hI.j;go_enter func178,ntmps178;go_wp2_with fail;refine(tj s.h P L _ p.d (tC ok.h)).mono ?_;rintro e w2 ⟨m,rfl,hS2,d⟩;have q:=au uh.o d;have HB2:=q;have t:=aa d
 go_wp2_with fail;refine(HF.o w2 m q (by have:=d.size;simpa using this) (hS2.f (fun k _ e=>by simpa using e))).mono ?_;intro e w3 hd;have u:=t.o.size;have hs3:w.heap.size+1<=w2.heap.size:=by simpa using u
 obtain⟨he,IE,v⟩:=hd.f hs3;have hbx:=(t.o.mono (by simp)).trans v;have hB3:=HB2.trans (v.mono (Nat.le_succ _));have x0:=rA (Nat.lt_succ_self _) hbx;have b:=hB3;have BZ:=aa IE
 subst he;by_cases z:r.2=0
 . have f:=aa (sZ x D G H w3 (HT.o.a b) hn);rw[z];cases i:df x with
   | false =>
     have j:∀W,Below w.heap.size w W->du S w g (bI s r x) (Y (I J (1:Nat))) W:=fun W hb=>du.a ⟨L,gl,ao,ca,P,l.o⟩ hb (qL z i);unfold lQ at f;rw[tO9 i] at f;go_wp2_with fail;refine f.o.mono ?_;rintro e w4 ⟨N,T,rfl,_,a⟩;have B:=au b a;go_wp2;go_ret;exact j _ B
   | true =>
     unfold lQ at f;rw[te i] at f;have hlx:(aW x).length<=1048600:=by have:=rS i;have:=nO i;omega
     by_cases hl:100000<s.a.length+(aW x).length
     . have j:Hid (∀W,Below w.heap.size w W->du S w g (bI s r x) (Y (I J (16:Nat))) W):=fun W hb=>du.a ⟨L,gl,ao,ca,P,l.o⟩ hb (qK z i hl);have HL:=show ¬s.a.length+(aW x).length<=100000 by omega
       generalize aW x=y at *;go_wp2_with fail;refine f.o.mono ?_;rintro e w4 ⟨N,T,rfl,_,a⟩;have c:=au b a;have C:=l.o.f c;obtain⟨⟨c0,c1⟩,_⟩:=ce C.a;have B:=aa c;go_wp2_with fail;refine(sX C.b N T y.length HL).mono ?_;rintro e w5 ⟨rfl,DI⟩;rw[DI];clear DI;go_wp2;go_ret;exact j _ B
     . have j:∀W,aS W (ay S w) g ⟨r.1,s.a++aW x,s.b⟩->am S w W->du S w g (bI s r x) (Y (I J 0)) W:=fun W h1 h2=>by
        rw[qM z i hl];exact⟨rfl,h1,h2⟩
       have HL:=show s.a.length+(aW x).length<=100000 by omega
       generalize aW x=y at *;go_wp2_with fail;refine f.o.mono ?_;rintro e w4 ⟨N,T,rfl,hO4,a⟩;have c:=au b a;have C:=l.o.f c;obtain⟨⟨c0,c1⟩,_⟩:=ce C.a;have Yj:=aa (((BZ.o.a a).f (S':=fun k=>w.heap.size<=k) (fun k _ e=>Nat.le_of_succ_le e)));have B:=aa c;go_wp2_with fail;refine(sT C.b N T y.length y hO4.f rfl HL).mono ?_;rintro e w5 ⟨zU,ca5,rfl,hL5,AQ,sN⟩;obtain⟨oD,hA,PO⟩:=l.o.r B Yj.o hL5 AQ sN;have y0:=ce oD;have HA:=hA;have Yk:=aa PO
       go_wp2;go_ret;exact j _ HA Yk.o
 . have j:du S w g (bI s r x) (Y (I J (r.2:Int))) w3:=du.a ⟨L,gl,ao,ca,P,l.o⟩ b (qJ z);have hc':¬(r.2:Int)=0:=by omega
   generalize (r.2:Int)=rc at *;go_wp2;go_ret;exact j
theorem Sg (s:av)(S:Nat->Prop)(g b1 b2:Nat)(x:aH)(D:ag)(G H:Nat)(r:aA×Nat)(w:X)(h:aS w S g s)(ok:aJ s)(hT:aB w D H x.c)(hn:x.c.length=G)
 (hF:∀W m,Below w.heap.size w W->w.heap.size+1<=W.heap.size->cD W (fun k=>w.heap.size+1<=k) m s.h->Calls prog 272 #[Q (M ⟨m,0,U⟩),Q (M ⟨b1,0,U⟩),Q (M ⟨b2,0,U⟩)] W (bE (fun k=>w.heap.size+1<=k) 141 W m r)) :
 Calls prog 178 #[Q (M ⟨g,0,U⟩),.agg #[I J x.b,I J x.a,I J x.n,Z D G H],.func (.func 272) #[] #[Q (M ⟨b1,0,U⟩),Q (M ⟨b2,0,U⟩)]] w (du S w g (bI s r x)):=by
 obtain⟨L,gl,ao,ca,P,hI⟩:=h;have jf:=(ar _ w).alloc (ak _) (K #[I J x.b,I J x.a,I J x.n,Z D G H] 264);have p:=hI.f jf;obtain⟨⟨c0,c1⟩,_⟩:=ce p.a;have l:=aa hI;have uh:=aa jf;have HF:=aa hF;have HT:=aa hT
 have hlt:=hI.j;go_enter func178,ntmps178;go_wp2_with fail;refine(tj s.h P L _ p.d (tC ok.h)).mono ?_;rintro e w2 ⟨m,rfl,hS2,d⟩;have q:=au uh.o d;have HB2:=q;have t:=aa d
 go_wp2_with fail;refine(HF.o w2 m q (by have:=d.size;simpa using this) (hS2.f (fun k _ e=>by simpa using e))).mono ?_;intro e w3 hd;have u:=t.o.size;have hs3:w.heap.size+1<=w2.heap.size:=by simpa using u
 obtain⟨he,IE,v⟩:=hd.f hs3;have hbx:=(t.o.mono (by simp)).trans v;have hB3:=HB2.trans (v.mono (Nat.le_succ _));have x0:=rA (Nat.lt_succ_self _) hbx;have b:=hB3;have BZ:=aa IE
 subst he;by_cases z:r.2=0
 . have f:=aa (sZ x D G H w3 (HT.o.a b) hn);rw[z];cases i:df x with
   | false =>
     have j:∀W,Below w.heap.size w W->du S w g (bI s r x) (Y (I J (1:Nat))) W:=fun W hb=>du.a ⟨L,gl,ao,ca,P,l.o⟩ hb (qL z i);unfold lQ at f;rw[tO9 i] at f;go_wp2_with fail;refine f.o.mono ?_;rintro e w4 ⟨N,T,rfl,_,a⟩;have B:=au b a;go_wp2;go_ret;exact j _ B
   | true =>
     unfold lQ at f;rw[te i] at f;have hlx:(aW x).length<=1048600:=by have:=rS i;have:=nO i;omega
     by_cases hl:100000<s.a.length+(aW x).length
     . have j:Hid (∀W,Below w.heap.size w W->du S w g (bI s r x) (Y (I J (16:Nat))) W):=fun W hb=>du.a ⟨L,gl,ao,ca,P,l.o⟩ hb (qK z i hl);have HL:=show ¬s.a.length+(aW x).length<=100000 by omega
       generalize aW x=y at *;go_wp2_with fail;refine f.o.mono ?_;rintro e w4 ⟨N,T,rfl,_,a⟩;have c:=au b a;have C:=l.o.f c;obtain⟨⟨c0,c1⟩,_⟩:=ce C.a;have B:=aa c;go_wp2_with fail;refine(sX C.b N T y.length HL).mono ?_;rintro e w5 ⟨rfl,DI⟩;rw[DI];clear DI;go_wp2;go_ret;exact j _ B
     . have j:∀W,aS W (ay S w) g ⟨r.1,s.a++aW x,s.b⟩->am S w W->du S w g (bI s r x) (Y (I J 0)) W:=fun W h1 h2=>by
        rw[qM z i hl];exact⟨rfl,h1,h2⟩
       have HL:=show s.a.length+(aW x).length<=100000 by omega
       generalize aW x=y at *;go_wp2_with fail;refine f.o.mono ?_;rintro e w4 ⟨N,T,rfl,hO4,a⟩;have c:=au b a;have C:=l.o.f c;obtain⟨⟨c0,c1⟩,_⟩:=ce C.a;have Yj:=aa (((BZ.o.a a).f (S':=fun k=>w.heap.size<=k) (fun k _ e=>Nat.le_of_succ_le e)));have B:=aa c;go_wp2_with fail;refine(sT C.b N T y.length y hO4.f rfl HL).mono ?_;rintro e w5 ⟨zU,ca5,rfl,hL5,AQ,sN⟩;obtain⟨oD,hA,PO⟩:=l.o.r B Yj.o hL5 AQ sN;have y0:=ce oD;have HA:=hA;have Yk:=aa PO
       go_wp2;go_ret;exact j _ HA Yk.o
 . have j:du S w g (bI s r x) (Y (I J (r.2:Int))) w3:=du.a ⟨L,gl,ao,ca,P,l.o⟩ b (qJ z);have hc':¬(r.2:Int)=0:=by omega
   generalize (r.2:Int)=rc at *;go_wp2;go_ret;exact j
theorem Si (s:av)(S:Nat->Prop)(g b1 b2 b3:Nat)(x:aH)(D:ag)(G H:Nat)(r:aA×Nat)(w:X)(h:aS w S g s)(ok:aJ s)(hT:aB w D H x.c)(hn:x.c.length=G)
 (hF:∀W m,Below w.heap.size w W->w.heap.size+1<=W.heap.size->cD W (fun k=>w.heap.size+1<=k) m s.h->Calls prog 271 #[Q (M ⟨m,0,U⟩),Q (M ⟨b1,0,U⟩),Q (M ⟨b2,0,U⟩),Q (M ⟨b3,0,U⟩)] W (bE (fun k=>w.heap.size+1<=k) 141 W m r)) :
 Calls prog 178 #[Q (M ⟨g,0,U⟩),.agg #[I J x.b,I J x.a,I J x.n,Z D G H],.func (.func 271) #[] #[Q (M ⟨b1,0,U⟩),Q (M ⟨b2,0,U⟩),Q (M ⟨b3,0,U⟩)]] w (du S w g (bI s r x)):=by
 obtain⟨L,gl,ao,ca,P,hI⟩:=h;have jf:=(ar _ w).alloc (ak _) (K #[I J x.b,I J x.a,I J x.n,Z D G H] 264);have p:=hI.f jf;obtain⟨⟨c0,c1⟩,_⟩:=ce p.a;have l:=aa hI;have uh:=aa jf;have HF:=aa hF;have HT:=aa hT
 have hlt:=hI.j;go_enter func178,ntmps178;go_wp2_with fail;refine(tj s.h P L _ p.d (tC ok.h)).mono ?_;rintro e w2 ⟨m,rfl,hS2,d⟩;have q:=au uh.o d;have HB2:=q;have t:=aa d
 go_wp2_with fail;refine(HF.o w2 m q (by have:=d.size;simpa using this) (hS2.f (fun k _ e=>by simpa using e))).mono ?_;intro e w3 hd;have u:=t.o.size;have hs3:w.heap.size+1<=w2.heap.size:=by simpa using u
 obtain⟨he,IE,v⟩:=hd.f hs3;have hbx:=(t.o.mono (by simp)).trans v;have hB3:=HB2.trans (v.mono (Nat.le_succ _));have x0:=rA (Nat.lt_succ_self _) hbx;have b:=hB3;have BZ:=aa IE
 subst he;by_cases z:r.2=0
 . have f:=aa (sZ x D G H w3 (HT.o.a b) hn);rw[z];cases i:df x with
   | false =>
     have j:∀W,Below w.heap.size w W->du S w g (bI s r x) (Y (I J (1:Nat))) W:=fun W hb=>du.a ⟨L,gl,ao,ca,P,l.o⟩ hb (qL z i);unfold lQ at f;rw[tO9 i] at f;go_wp2_with fail;refine f.o.mono ?_;rintro e w4 ⟨N,T,rfl,_,a⟩;have B:=au b a;go_wp2;go_ret;exact j _ B
   | true =>
     unfold lQ at f;rw[te i] at f;have hlx:(aW x).length<=1048600:=by have:=rS i;have:=nO i;omega
     by_cases hl:100000<s.a.length+(aW x).length
     . have j:Hid (∀W,Below w.heap.size w W->du S w g (bI s r x) (Y (I J (16:Nat))) W):=fun W hb=>du.a ⟨L,gl,ao,ca,P,l.o⟩ hb (qK z i hl);have HL:=show ¬s.a.length+(aW x).length<=100000 by omega
       generalize aW x=y at *;go_wp2_with fail;refine f.o.mono ?_;rintro e w4 ⟨N,T,rfl,_,a⟩;have c:=au b a;have C:=l.o.f c;obtain⟨⟨c0,c1⟩,_⟩:=ce C.a;have B:=aa c;go_wp2_with fail;refine(sX C.b N T y.length HL).mono ?_;rintro e w5 ⟨rfl,DI⟩;rw[DI];clear DI;go_wp2;go_ret;exact j _ B
     . have j:∀W,aS W (ay S w) g ⟨r.1,s.a++aW x,s.b⟩->am S w W->du S w g (bI s r x) (Y (I J 0)) W:=fun W h1 h2=>by
        rw[qM z i hl];exact⟨rfl,h1,h2⟩
       have HL:=show s.a.length+(aW x).length<=100000 by omega
       generalize aW x=y at *;go_wp2_with fail;refine f.o.mono ?_;rintro e w4 ⟨N,T,rfl,hO4,a⟩;have c:=au b a;have C:=l.o.f c;obtain⟨⟨c0,c1⟩,_⟩:=ce C.a;have Yj:=aa (((BZ.o.a a).f (S':=fun k=>w.heap.size<=k) (fun k _ e=>Nat.le_of_succ_le e)));have B:=aa c;go_wp2_with fail;refine(sT C.b N T y.length y hO4.f rfl HL).mono ?_;rintro e w5 ⟨zU,ca5,rfl,hL5,AQ,sN⟩;obtain⟨oD,hA,PO⟩:=l.o.r B Yj.o hL5 AQ sN;have y0:=ce oD;have HA:=hA;have Yk:=aa PO
       go_wp2;go_ret;exact j _ HA Yk.o
 . have j:du S w g (bI s r x) (Y (I J (r.2:Int))) w3:=du.a ⟨L,gl,ao,ca,P,l.o⟩ b (qJ z);have hc':¬(r.2:Int)=0:=by omega
   generalize (r.2:Int)=rc at *;go_wp2;go_ret;exact j
theorem Sj (s:av)(S:Nat->Prop)(g b1 b2:Nat)(x:aH)(D:ag)(G H:Nat)(r:aA×Nat)(w:X)(h:aS w S g s)(ok:aJ s)(hT:aB w D H x.c)(hn:x.c.length=G)
 (hF:∀W m,Below w.heap.size w W->w.heap.size+1<=W.heap.size->cD W (fun k=>w.heap.size+1<=k) m s.h->Calls prog 265 #[Q (M ⟨m,0,U⟩),Q (M ⟨b1,0,U⟩),Q (M ⟨b2,0,U⟩)] W (bE (fun k=>w.heap.size+1<=k) 141 W m r)) :
 Calls prog 178 #[Q (M ⟨g,0,U⟩),.agg #[I J x.b,I J x.a,I J x.n,Z D G H],.func (.func 265) #[] #[Q (M ⟨b1,0,U⟩),Q (M ⟨b2,0,U⟩)]] w (du S w g (bI s r x)):=by
 obtain⟨L,gl,ao,ca,P,hI⟩:=h;have jf:=(ar _ w).alloc (ak _) (K #[I J x.b,I J x.a,I J x.n,Z D G H] 264);have p:=hI.f jf;obtain⟨⟨c0,c1⟩,_⟩:=ce p.a;have l:=aa hI;have uh:=aa jf;have HF:=aa hF;have HT:=aa hT
 have hlt:=hI.j;go_enter func178,ntmps178;go_wp2_with fail;refine(tj s.h P L _ p.d (tC ok.h)).mono ?_;rintro e w2 ⟨m,rfl,hS2,d⟩;have q:=au uh.o d;have HB2:=q;have t:=aa d
 go_wp2_with fail;refine(HF.o w2 m q (by have:=d.size;simpa using this) (hS2.f (fun k _ e=>by simpa using e))).mono ?_;intro e w3 hd;have u:=t.o.size;have hs3:w.heap.size+1<=w2.heap.size:=by simpa using u
 obtain⟨he,IE,v⟩:=hd.f hs3;have hbx:=(t.o.mono (by simp)).trans v;have hB3:=HB2.trans (v.mono (Nat.le_succ _));have x0:=rA (Nat.lt_succ_self _) hbx;have b:=hB3;have BZ:=aa IE
 subst he;by_cases z:r.2=0
 . have f:=aa (sZ x D G H w3 (HT.o.a b) hn);rw[z];cases i:df x with
   | false =>
     have j:∀W,Below w.heap.size w W->du S w g (bI s r x) (Y (I J (1:Nat))) W:=fun W hb=>du.a ⟨L,gl,ao,ca,P,l.o⟩ hb (qL z i);unfold lQ at f;rw[tO9 i] at f;go_wp2_with fail;refine f.o.mono ?_;rintro e w4 ⟨N,T,rfl,_,a⟩;have B:=au b a;go_wp2;go_ret;exact j _ B
   | true =>
     unfold lQ at f;rw[te i] at f;have hlx:(aW x).length<=1048600:=by have:=rS i;have:=nO i;omega
     by_cases hl:100000<s.a.length+(aW x).length
     . have j:Hid (∀W,Below w.heap.size w W->du S w g (bI s r x) (Y (I J (16:Nat))) W):=fun W hb=>du.a ⟨L,gl,ao,ca,P,l.o⟩ hb (qK z i hl);have HL:=show ¬s.a.length+(aW x).length<=100000 by omega
       generalize aW x=y at *;go_wp2_with fail;refine f.o.mono ?_;rintro e w4 ⟨N,T,rfl,_,a⟩;have c:=au b a;have C:=l.o.f c;obtain⟨⟨c0,c1⟩,_⟩:=ce C.a;have B:=aa c;go_wp2_with fail;refine(sX C.b N T y.length HL).mono ?_;rintro e w5 ⟨rfl,DI⟩;rw[DI];clear DI;go_wp2;go_ret;exact j _ B
     . have j:∀W,aS W (ay S w) g ⟨r.1,s.a++aW x,s.b⟩->am S w W->du S w g (bI s r x) (Y (I J 0)) W:=fun W h1 h2=>by
        rw[qM z i hl];exact⟨rfl,h1,h2⟩
       have HL:=show s.a.length+(aW x).length<=100000 by omega
       generalize aW x=y at *;go_wp2_with fail;refine f.o.mono ?_;rintro e w4 ⟨N,T,rfl,hO4,a⟩;have c:=au b a;have C:=l.o.f c;obtain⟨⟨c0,c1⟩,_⟩:=ce C.a;have Yj:=aa (((BZ.o.a a).f (S':=fun k=>w.heap.size<=k) (fun k _ e=>Nat.le_of_succ_le e)));have B:=aa c;go_wp2_with fail;refine(sT C.b N T y.length y hO4.f rfl HL).mono ?_;rintro e w5 ⟨zU,ca5,rfl,hL5,AQ,sN⟩;obtain⟨oD,hA,PO⟩:=l.o.r B Yj.o hL5 AQ sN;have y0:=ce oD;have HA:=hA;have Yk:=aa PO
       go_wp2;go_ret;exact j _ HA Yk.o
 . have j:du S w g (bI s r x) (Y (I J (r.2:Int))) w3:=du.a ⟨L,gl,ao,ca,P,l.o⟩ b (qJ z);have hc':¬(r.2:Int)=0:=by omega
   generalize (r.2:Int)=rc at *;go_wp2;go_ret;exact j
theorem Qy (w:X):
 Calls prog 11 #[] w fun e w'=>∃g,e=Y (Q (M ⟨g,0,U⟩))∧aS w' (fun k=>w.heap.size<=k) g iW∧Below w.heap.size w w':=by
 go_enter func11,ntmps11;go_wp2_with fail;refine(EY w).mono ?_;rintro e a ⟨rfl,m,q⟩;have v:=m.r;have r:=m;have n:=aa q
 go_wp2_with fail;refine((fun W=>M5 W) a).mono ?_;rintro e c ⟨rfl,f,b⟩;have s:=f.f;have x:=b.size;have t:=n.o.size;have d:=au n.o b;have p:aS (c.alloc (K #[Q (M ⟨w.heap.size,0,U⟩),Q (M ⟨a.heap.size,0,U⟩)] 45)) (fun k=>w.heap.size<=k) c.heap.size iW∧Below w.heap.size w (c.alloc (K #[Q (M ⟨w.heap.size,0,U⟩),Q (M ⟨a.heap.size,0,U⟩)] 45)):=by
  have j:=(ar _ c).alloc (ak _) (K #[Q (M ⟨w.heap.size,0,U⟩),Q (M ⟨a.heap.size,0,U⟩)] 45);have l:dH c 0 a.heap.size [] 0 U 0:=⟨f.a,bl.y _ _ _,ax _,f.h,f.d⟩;refine⟨⟨w.heap.size,a.heap.size,U,0,fun k=>w.heap.size<=k∧k<a.heap.size,aX c _,((r.f (S':=fun k=>w.heap.size<=k∧k<a.heap.size) (fun k u e=>⟨e,u⟩)).a b).a j,l.j j,d.size,fun k e=>⟨e.1,by omega,fun i=>?_⟩,fun k e=>?_⟩,au d j⟩
  . rcases i with i | i
    . omega
    . cases i
  . rcases e with e | e
    . exact⟨by show w.heap.size<=k;omega,by omega⟩
    . cases e
 go_wp2;go_ret;exact⟨_,rfl,p.1,p.2⟩
section
variable {s:av} {S:Nat->Prop} {g:Nat} {w:X}
theorem ll.y {w':X}{gs a:Nat}{ao:ag}{b:Nat}{P:Nat->Prop}{d:ab}{f:Nat}(h:ll w S g gs a ao b P s)(i:dH w' 0 a d f ao b)(c:am (fun k=>k=a) w w'):ll w' S g gs a ao b P ⟨s.h,d,f⟩∧am S w w' :=
 ⟨⟨c.y h.a (fun e=>(h.c a (A rfl)).2 e.symm),h.d.y c (fun k e j=>(h.e k e).2.2 (A j)),i,h.h,h.e,h.c⟩,c.j (fun k e=>by subst e;exact(h.c _ (A rfl)).1)⟩
theorem rh (h:aS w S g s):
 Calls prog 123 #[Q (M ⟨g,0,U⟩)] w fun e w'=>e=Y (.tuple #[])∧aS w' S g (eA s)∧am S w w':=by
 obtain⟨d,f,i,j,P,a⟩:=h;obtain⟨⟨o,p⟩,_⟩:=ce a.a;go_enter func123,ntmps123;go_wp2_with fail;refine(Cf a.b).mono ?_;rintro e b ⟨rfl,k,l⟩;obtain⟨m,n⟩:=a.y k l;have c:aS b S g (eA s)∧am S w b:=⟨⟨d,f,i,j,P,m⟩,n⟩;go_wp2;go_end0
 exact⟨rfl,c.1,c.2⟩
theorem Qz (h:aS w S g s):
 Calls prog 19 #[Q (M ⟨g,0,U⟩)] w fun e w'=>∃gL zN,e=Y (.tuple #[Z gL s.a.length zN,I J (s.b:Int)])∧aB w' gL zN s.a∧Below w.heap.size w w':=by
 have f:=h.r;obtain⟨z,i,B,C,P,j⟩:=h;obtain⟨⟨D,r⟩,_⟩:=ce j.a;have t:=Ig (j.b.j (bj w.heap.size w));have u:∀W,Below w.heap.size w W->Calls prog 62 #[Q (M ⟨i,0,U⟩)] W fun e w'=>e=Y (I J (s.b:Int))∧w'=W:=fun W k=>L8 (j.b.j k);have v:∀W,Below w.heap.size w W->W.cell? ⟨g,1,U⟩=M (Q (M ⟨i,0,U⟩)):=fun W k=>(k.cell (p:=⟨g,1,U⟩) f).trans r;have b:=bj w.heap.size w;generalize s.a.length=n at *;go_enter func19,ntmps19;go_wp2_with fail;go_region_held3 (fun w'=>w'.cell? ⟨g,1,U⟩=M (Q (M ⟨i,0,U⟩))) (go_keep) (first | (go_at_call 61;refine t.mono ?_;rintro e l ⟨gL,zN,rfl,c,d⟩;have a:=b.trans d;have x:=v l a;have y:=aa c;have m:=aa a;clear c d a) | (go_at_call 62;refine(u _ (by first | with_reducible exact b | with_reducible exact m.o)).mono ?_;rintro e l ⟨rfl,q⟩;rw[q];clear q))
 all_goals
  go_wp2;go_ret2;exact⟨_,_,rfl,y.o,m.o⟩
end
section
variable {s:av} {S:Nat->Prop} {g:Nat} {w:X}
theorem QA (h:aS w S g s)(ok:aJ s)(a:Int):
 Calls prog 125 #[Q (M ⟨g,0,U⟩),I J a] w (du S w g (kT s a)):=by
 have d:Below w.heap.size w ((w.alloc (K #[I J a] 3)).alloc (K #[I J 6,I J a,I J 0,Z U 0 0] 264)):=((ar _ _).alloc (by simp;try omega) _).alloc (by simp;try omega) _;have b:∀W,Below ((w.alloc (K #[I J a] 3)).alloc (K #[I J 6,I J a,I J 0,Z U 0 0] 264)).heap.size ((w.alloc (K #[I J a] 3)).alloc (K #[I J 6,I J a,I J 0,Z U 0 0] 264)) W->W.cell? ⟨w.heap.size,0,U⟩=M (I J a):=fun W f=>by rw[f.cell (p:=⟨w.heap.size,0,U⟩) (by simp;try omega)];exact jN _ _ _ _ (lP _ _ _ _ (by simp;try omega))
 have k:=aa (TW s S g w.heap.size ⟨6,a,0,[]⟩ U 0 0 (lD s.h a) _ (h.f d) ok (aB.f _) rfl (fun W l f _ m=>QX s.h _ l w.heap.size a W m ok.h (b W f)));have n:=aa d;have t:∀(i:Fn) (first c:Array Value) (w:X),(Instr.makeFunc i first c).run prog w=.ok (.func i first c) w:=fun _ _ _ _=>rfl;unfold kT;generalize bI s _ _=r at *;clear h ok d b;go_enter func125,ntmps125;go_wp2_with fail;refine k.o.mono ?_;intro e u j;have q:=aa (du.f n.o j);obtain⟨rfl,_,_⟩:=j;go_wp2;go_ret;exact q.o
theorem Mn (h:aS w S g s)(ok:aJ s)(a:Int):
 Calls prog 122 #[Q (M ⟨g,0,U⟩),I J a] w (du S w g (fu s a)):=by
 have d:Below w.heap.size w ((w.alloc (K #[I J a] 3)).alloc (K #[I J 5,I J a,I J 0,Z U 0 0] 264)):=((ar _ _).alloc (by simp;try omega) _).alloc (by simp;try omega) _;have b:∀W,Below ((w.alloc (K #[I J a] 3)).alloc (K #[I J 5,I J a,I J 0,Z U 0 0] 264)).heap.size ((w.alloc (K #[I J a] 3)).alloc (K #[I J 5,I J a,I J 0,Z U 0 0] 264)) W->W.cell? ⟨w.heap.size,0,U⟩=M (I J a):=fun W f=>by rw[f.cell (p:=⟨w.heap.size,0,U⟩) (by simp;try omega)];exact jN _ _ _ _ (lP _ _ _ _ (by simp;try omega))
 have k:=aa (Se s S g w.heap.size ⟨5,a,0,[]⟩ U 0 0 (kh s.h a) _ (h.f d) ok (aB.f _) rfl (fun W l f _ m=>QY s.h _ l w.heap.size a W m ok.h (b W f)));have n:=aa d;have t:∀(i:Fn) (first c:Array Value) (w:X),(Instr.makeFunc i first c).run prog w=.ok (.func i first c) w:=fun _ _ _ _=>rfl;unfold fu;generalize bI s _ _=r at *;clear h ok d b;go_enter func122,ntmps122;go_wp2_with fail;refine k.o.mono ?_;intro e u j;have q:=aa (du.f n.o j);obtain⟨rfl,_,_⟩:=j;go_wp2;go_ret;exact q.o
theorem BP (h:aS w S g s)(ok:aJ s)(a:Int):
 Calls prog 218 #[Q (M ⟨g,0,U⟩),I J a] w (du S w g (ga s a)):=by
 have f:Below w.heap.size w ((w.alloc (K #[I J a] 3)).alloc (K #[I J 4,I J a,I J 0,Z U 0 0] 264)):=((ar _ _).alloc (by simp;try omega) _).alloc (by simp;try omega) _;have c:∀W,Below ((w.alloc (K #[I J a] 3)).alloc (K #[I J 4,I J a,I J 0,Z U 0 0] 264)).heap.size ((w.alloc (K #[I J a] 3)).alloc (K #[I J 4,I J a,I J 0,Z U 0 0] 264)) W->W.cell? ⟨w.heap.size,0,U⟩=M (I J a):=fun W d=>by rw[d.cell (p:=⟨w.heap.size,0,U⟩) (by simp;try omega)];exact jN _ _ _ _ (lP _ _ _ _ (by simp;try omega))
 have k:=Sf s S g w.heap.size ⟨4,a,0,[]⟩ U 0 0 (mt s.h a) _ (h.f f) ok (aB.f _) rfl (fun W l d _ m=>Qq s.h _ l w.heap.size a W m ok.h (c W d));have o:∀(i:Fn) (first b:Array Value) (w:X),(Instr.makeFunc i first b).run prog w=.ok (.func i first b) w:=fun _ _ _ _=>rfl;unfold ga;generalize bI s _ _=r at *;go_enter func218,ntmps218;go_wp2_with fail;refine k.mono ?_;intro e q j;have n:=du.f f j;obtain⟨rfl,_,_⟩:=j;go_wp2;go_ret;exact n
theorem KR (h:aS w S g s)(ok:aJ s)(a:Int)(b:Int):
 Calls prog 217 #[Q (M ⟨g,0,U⟩),I J a,I J b] w (du S w g (qI s a b)):=by
 have j:Below w.heap.size w (((w.alloc (K #[I J a] 3)).alloc (K #[I J b] 3)).alloc (K #[I J 3,I J a,I J b,Z U 0 0] 264)):=(((ar _ _).alloc (by simp;try omega) _).alloc (by simp;try omega) _).alloc (by simp;try omega) _;have f:∀W,Below (((w.alloc (K #[I J a] 3)).alloc (K #[I J b] 3)).alloc (K #[I J 3,I J a,I J b,Z U 0 0] 264)).heap.size (((w.alloc (K #[I J a] 3)).alloc (K #[I J b] 3)).alloc (K #[I J 3,I J a,I J b,Z U 0 0] 264)) W->W.cell? ⟨w.heap.size,0,U⟩=M (I J a):=fun W c=>by rw[c.cell (p:=⟨w.heap.size,0,U⟩) (by simp;try omega)];exact jN _ _ _ _ (jN _ _ _ _ (lP _ _ _ _ (by simp;try omega)))
 have i:∀W,Below (((w.alloc (K #[I J a] 3)).alloc (K #[I J b] 3)).alloc (K #[I J 3,I J a,I J b,Z U 0 0] 264)).heap.size (((w.alloc (K #[I J a] 3)).alloc (K #[I J b] 3)).alloc (K #[I J 3,I J a,I J b,Z U 0 0] 264)) W->W.cell? ⟨w.heap.size+1,0,U⟩=M (I J b):=fun W c=>by rw[c.cell (p:=⟨w.heap.size+1,0,U⟩) (by simp;try omega)];exact jN _ _ _ _ (lP _ _ _ _ (by simp;try omega))
 have m:=Sg s S g w.heap.size (w.heap.size+1) ⟨3,a,b,[]⟩ U 0 0 (lC s.h a b) _ (h.f j) ok (aB.f _) rfl (fun W n c _ o=>Qr s.h _ n w.heap.size (w.heap.size+1) a b W o ok.h (f W c) (i W c));have t:∀(k:Fn) (first d:Array Value) (w:X),(Instr.makeFunc k first d).run prog w=.ok (.func k first d) w:=fun _ _ _ _=>rfl;unfold qI;generalize bI s _ _=r at *;go_enter func217,ntmps217;go_wp2_with fail;refine m.mono ?_;intro e u l;have q:=du.f j l;obtain⟨rfl,_,_⟩:=l;go_wp2;go_ret;exact q
theorem yf (h:aS w S g s)(ok:aJ s)(b:Int)(a:Int)(bo:ag)(c d:Nat)(l:ab)(o:aB w bo d l)(q:l.length=c)(v:c<=1000000):
 Calls prog 216 #[Q (M ⟨g,0,U⟩),I J b,I J a,Z bo c d] w (du S w g (cK s b a l)):=by
 have j:Below w.heap.size w ((((w.alloc (K #[I J b] 3)).alloc (K #[I J a] 3)).alloc (K #[Z bo c d] 31)).alloc (K #[I J 2,I J b,I J 0,Z bo c d] 264)):=((((ar _ _).alloc (by simp;try omega) _).alloc (by simp;try omega) _).alloc (by simp;try omega) _).alloc (by simp;try omega) _;have k:∀W,Below ((((w.alloc (K #[I J b] 3)).alloc (K #[I J a] 3)).alloc (K #[Z bo c d] 31)).alloc (K #[I J 2,I J b,I J 0,Z bo c d] 264)).heap.size ((((w.alloc (K #[I J b] 3)).alloc (K #[I J a] 3)).alloc (K #[Z bo c d] 31)).alloc (K #[I J 2,I J b,I J 0,Z bo c d] 264)) W->W.cell? ⟨w.heap.size,0,U⟩=M (I J b):=fun W f=>by rw[f.cell (p:=⟨w.heap.size,0,U⟩) (by simp;try omega)];exact jN _ _ _ _ (jN _ _ _ _ (jN _ _ _ _ (lP _ _ _ _ (by simp;try omega))))
 have m:∀W,Below ((((w.alloc (K #[I J b] 3)).alloc (K #[I J a] 3)).alloc (K #[Z bo c d] 31)).alloc (K #[I J 2,I J b,I J 0,Z bo c d] 264)).heap.size ((((w.alloc (K #[I J b] 3)).alloc (K #[I J a] 3)).alloc (K #[Z bo c d] 31)).alloc (K #[I J 2,I J b,I J 0,Z bo c d] 264)) W->W.cell? ⟨w.heap.size+1,0,U⟩=M (I J a):=fun W f=>by rw[f.cell (p:=⟨w.heap.size+1,0,U⟩) (by simp;try omega)];exact jN _ _ _ _ (jN _ _ _ _ (lP _ _ _ _ (by simp;try omega)))
 have n:∀W,Below ((((w.alloc (K #[I J b] 3)).alloc (K #[I J a] 3)).alloc (K #[Z bo c d] 31)).alloc (K #[I J 2,I J b,I J 0,Z bo c d] 264)).heap.size ((((w.alloc (K #[I J b] 3)).alloc (K #[I J a] 3)).alloc (K #[Z bo c d] 31)).alloc (K #[I J 2,I J b,I J 0,Z bo c d] 264)) W->W.cell? ⟨w.heap.size+2,0,U⟩=M (Z bo c d):=fun W f=>by rw[f.cell (p:=⟨w.heap.size+2,0,U⟩) (by simp;try omega)];exact jN _ _ _ _ (lP _ _ _ _ (by simp;try omega))
 have x:=Si s S g w.heap.size (w.heap.size+1) (w.heap.size+2) ⟨2,b,0,l⟩ bo c d (iL s.h b a l) _ (h.f j) ok (o.a j) q (fun W y f _ z=>Qs s.h _ y w.heap.size (w.heap.size+1) (w.heap.size+2) b a bo c d l W z ok.h (k W f) (m W f) (n W f) ((o.a j).a f) q v);have C:∀(t:Fn) (first i:Array Value) (w:X),(Instr.makeFunc t first i).run prog w=.ok (.func t first i) w:=fun _ _ _ _=>rfl;unfold cK;generalize bI s _ _=r at *;go_enter func216,ntmps216;go_wp2_with fail;refine x.mono ?_;intro e D u;have B:=du.f j u;obtain⟨rfl,_,_⟩:=u;go_wp2;go_ret;exact B
end
structure GZ (S:Nat->Prop)(w:X)(g:Nat)(s:av)(r:av×Nat)(e:Ending)(w':X):Prop where
 b:e=Y (.tuple #[I J (mZ s r.2),I J (r.2:Int)])
 a:aS w' (ay S w) g r.1
 c:am S w w'
section
variable {s:av} {S:Nat->Prop} {g:Nat} {w:X}
theorem BS (h:aS w S g s)(ok:aJ s)(a:Int)(m:ae)(L:m.size<=1000000):
 Calls prog 208 #[Q (M ⟨g,0,U⟩),I J a,V m] w (GZ S w g s (cy s a m)):=by
 have b:Below w.heap.size w ((w.alloc (K #[I J a] 3)).alloc (K #[V m] 9)):=((ar _ _).alloc (ak _) _).alloc (by simp) _;have B:((w.alloc (K #[I J a] 3)).alloc (K #[V m] 9)).cell? ⟨w.heap.size,0,U⟩=M (I J a):=jN _ _ _ _ (lP _ _ _ _ rfl);have N:((w.alloc (K #[I J a] 3)).alloc (K #[V m] 9)).cell? ⟨w.heap.size+1,0,U⟩=M (V m):=lP _ _ _ _ (by simp);have k:((w.alloc (K #[I J a] 3)).alloc (K #[V m] 9)).heap.size=w.heap.size+2:=by simp
 obtain⟨d,C⟩:∃W,((w.alloc (K #[I J a] 3)).alloc (K #[V m] 9))=W:=⟨_,rfl⟩;rw[C] at b B N k;have h2:=h.f b;obtain⟨gs,gl,ao,ca,P,D⟩:=h2;obtain⟨⟨c0,c1⟩,_⟩:=ce D.a;have hl:=ok.y;have HN:=Ee s.h P gs d D.d ok.h.c (by omega);obtain⟨u,G,hcv,f,hs3,l⟩:=EH (P:=prog) d m 9 31 5 underlying9 underlying31 underlying5;have n:=au b f;have x:=(ar _ G).alloc (ak _) (K #[I J 1,I J (s.h.a+1),I J a,Z (M ⟨d.heap.size,0,U⟩) m.size u] 264);have o:=au n x;have j:∀W,Below (G.alloc (K #[I J 1,I J (s.h.a+1),I J a,Z (M ⟨d.heap.size,0,U⟩) m.size u] 264)).heap.size (G.alloc (K #[I J 1,I J (s.h.a+1),I J a,Z (M ⟨d.heap.size,0,U⟩) m.size u] 264)) W->W.cell? ⟨w.heap.size,0,U⟩=M (I J a)∧W.cell? ⟨w.heap.size+1,0,U⟩=M (V m):=fun W y=>by
  have q:=au f (au x y);exact⟨(q.cell (p:=⟨w.heap.size,0,U⟩) (show w.heap.size<d.heap.size by omega)).trans B,(q.cell (p:=⟨w.heap.size+1,0,U⟩) (show w.heap.size+1<d.heap.size by omega)).trans N⟩
 have HC:=Sj s S g w.heap.size (w.heap.size+1) ⟨1,s.h.a+1,a,m.data.toList⟩ (M ⟨d.heap.size,0,U⟩) m.size u (ng s.h a m) _ (h.f o) ok (l.a x) (by simp) (fun W g' y _ hS=>Qt s.h _ g' w.heap.size (w.heap.size+1) a m W hS ok.h (j W y).1 (j W y).2 (by omega) L);have Rs:∀(T:Fn) (first t:Array Value) (w:X),(Instr.makeFunc T first t).run prog w=.ok (.func T first t) w:=fun _ _ _ _=>rfl;have d1:=(f.cell (p:=⟨w.heap.size,0,U⟩) (show w.heap.size<d.heap.size by omega)).trans B;unfold cy;generalize bI s _ _=r at *;have OQ:∀c:Nat,c=0->mZ s c=s.h.a+1:=fun c i=>by unfold mZ;rw[if_pos i]
 have H:∀c:Nat,c≠0->mZ s c=0:=fun c i=>by unfold mZ;rw[if_neg i]
 clear h ok b n  x j D k  l f c1 L;generalize hla:s.h.a=la at *;go_enter func208,ntmps208;go_wp2_with fail;refine HN.mono ?_;rintro e w1 ⟨rfl,hw⟩;rw[hw];clear hw;go_wp2_with fail;refine HC.mono ?_;intro e w2 hd;have z:=du.f o hd;obtain⟨rfl,_,_⟩:=hd;by_cases i:r.2=0
 . rw[i];go_wp2;go_ret2;exact⟨by rw[OQ _ i,i];rfl,z.c,z.b⟩
 . have hc':¬(r.2:Int)=0:=by omega
   have HX:∀v,v=(r.2:Int)->GZ S w g s r (Y (.tuple #[I J 0,I J v])) w2:=fun v hv=>⟨by rw[H _ i,hv],z.c,z.b⟩;generalize (r.2:Int)=rc at *;go_wp2;go_ret2;exact HX _ rfl
end
inductive lX (w:X)(S So:Nat->Prop)(g gt:Nat)(m:ab)(s:bg)(t:dI)(w':X):Prop
 | mk (S' So':Nat->Prop) (hF:dK w' S' g m s) (hO:ej w' So' gt t) (hd:∀k,S' k->¬So' k) (hS:∀k,S' k->S k∨w.heap.size<=k) (hSo:∀k,So' k->So k∨w.heap.size<=k) (hT:am (fun k=>S k∨So k) w w')
inductive uF (w:X)(S So:Nat->Prop)(g gt:Nat)(t:dI)(w':X):Prop
 | mk (So':Nat->Prop) (sk ln:Value) (ah pl pt cd:Int) (fo:ag) (nf gy:Nat) (hR:dT w' g sk ah ln fo nf gy pl pt cd) (hO:ej w' So' gt t) (hd:¬So' g) (hSo:∀k,So' k->So k∨w.heap.size<=k) (hT:am (fun k=>S k∨So k) w w')
inductive xQ (w:X)(S So:Nat->Prop)(g gt:Nat)(m:ab)(s:bg)(c:UInt8)(t:dI)(e:Ending)(w':X):Prop
 | ok (he:e=Y (I J 0)) (h:lX w S So g gt m (cB m s c).1 (dA t (cB m s c).2) w')
 | fail (k:Nat) (hk:k≠0) (hN:cB m s c=iQ k) (he:e=Y (I J (k:Int))) (h:uF w S So g gt t w')
section
variable {w w1 w':X} {S:Nat->Prop} {g gs gl:Nat} {m:ab} {s:bg}
theorem dK.G (h:dK w S g m s)(b:iJ s)(p:Nat)(c:p≠6):dK (w.setCell ⟨g,4,U⟩ (I J (p:Int))) S g m { s with b:=p }∧am S w (w.setCell ⟨g,4,U⟩ (I J (p:Int))):=by
 cases h with
 | dead h a row=>exact absurd b h
 | live h a gs gl q d f D row inn =>
   exact⟨.live ⟨h.1,c⟩ a gs gl q d f D (row.jK p) ((inn.a (dT.f w g 4 _) (fun k e=>e.2)).r rfl rfl rfl),(dT.f w g 4 _).j (fun k e=>by subst e;exact a)⟩
theorem dK.r {p:kc}{fo:ag}{gy:Nat}{D:Nat->Prop}(l:iJ s)(i:S g)(row:dT w g (Q (M ⟨gs,0,U⟩)) (s.d:Int) (Q (M ⟨gl,0,U⟩)) fo s.e.length gy (s.b:Int) (s.f:Int) (s.g:Int))(inn:jP w (fun k=>S k∧k≠g) m s gs gl p fo gy D)
 {c a2:Nat} (n:ei w1 gs m c p) (o:w.grownBy w1 (M gs)):dK (w1.setCell ⟨g,1,U⟩ (I J (a2:Int))) S g m { s with c:=c,d:=a2 }∧am S w (w1.setCell ⟨g,1,U⟩ (I J (a2:Int))):=by
 have b:am (fun k=>k=gs) w w1:=am.G o (fun k e=>by injection e with e;exact e.symm);have j:am (fun k=>k=g) w1 (w1.setCell ⟨g,1,U⟩ (I J (a2:Int))):=dT.f w1 g 1 _;have d:gs≠g:=inn.b.1.2;have q:=(row.r b (fun e=>d e.symm)).oF (a2:Int);have f:∀k,(((S k∧k≠g)∧D k)->¬k=gs):=fun k e r=>inn.e.1 (r▸e.2);have t:jP w1 (fun k=>S k∧k≠g) m { s with c:=c,d:=a2 } gs gl p fo gy D:=⟨n,inn.b,inn.e,inn.g.f b f,inn.f.j b (fun a e=>(inn.j a e).1),inn.c⟩;refine⟨.live l i gs gl p fo gy D q (t.a j (fun k e=>e.2)),(b.j (fun k e=>by subst e;exact inn.b.1.1)).a (j.j (S':=S) (fun k e=>by subst e;exact i)) (fun _ e _=>e)⟩
end
structure rV (w0:X)(S So:Nat->Prop)(g gt:Nat)(m:ab)(s:bg)(t:dI)(w:X):Prop where
 b:dK w (fun k=>S k∧k<w0.heap.size) g m s
 a:ej w (fun k=>So k∧k<w0.heap.size) gt t
 c:∀k,S k->¬So k
 d:am (fun k=>S k∨So k) w0 w
section
variable {w0 w w':X} {S So:Nat->Prop} {g gt:Nat} {m:ab} {s s':bg} {t t':dI}
theorem rV.j (b:dK w S g m s)(c:ej w So gt t)(hd:∀k,S k->¬So k):rV w S So g gt m s t w:=⟨b.j (fun _ a e=>⟨e,a⟩),c.f (fun _ a e=>⟨e,a⟩),hd,am.B _ _⟩
theorem rV.f (h:rV w0 S So g gt m s t w)(b:dK w' (fun k=>S k∧k<w0.heap.size) g m s')(a:am (fun k=>S k∧k<w0.heap.size) w w'):rV w0 S So g gt m s' t w' :=
 ⟨b,h.a.a a (fun k e c=>h.c k c.1 e.1),h.c,h.d.a a (fun _ e _=>A e.1)⟩
theorem rV.y (h:rV w0 S So g gt m s t w):lX w0 S So g gt m s t w :=
 .mk _ _ h.b h.a (fun k e a=>h.c k e.1 a.1) (fun _ e=>A e.1) (fun _ e=>A e.1) h.d
theorem rV.r (h:rV w0 S So g gt m s t w)(d:ej w' (ay (fun k=>So k∧k<w0.heap.size) w) gt t')(b:am (fun k=>So k∧k<w0.heap.size) w w'):lX w0 S So g gt m s t' w'∧dK w' (fun k=>S k∧k<w0.heap.size) g m s:=by
 have f:=h.d.b;have c:=h.b.f b (fun k e a=>h.c k e.1 a.1);refine⟨.mk _ _ c d (fun k e a=>?_) (fun k e=>A e.1) (fun k e=>?_) (h.d.a b (fun i e _=>R e.1)),c⟩
 . rcases a with a | a
   . exact h.c k e.1 a.1
   . have:=e.2;omega
 . rcases e with e | e
   . exact A e.1
   . exact R (by omega)
end
theorem lX.a {w0 w w':X}{S So l n:Nat->Prop}{g gt:Nat}{m:ab}{o:bg}{p:dI}(a:∀k,l k->S k∨w0.heap.size<=k)(q:∀k,n k->So k∨w0.heap.size<=k)(r:am (fun k=>S k∨So k) w0 w)(s:lX w l n g gt m o p w'):lX w0 S So g gt m o p w':=by
 obtain⟨t,b,c,d,f,j,u,v⟩:=s;have x:=r.b;refine .mk t b c d f (fun k e=>?_) (fun k e=>?_) (r.a v (fun i e y=>?_))
 . rcases j k e with e | e
   . exact a k e
   . exact R (by omega)
 . rcases u k e with e | e
   . exact q k e
   . exact R (by omega)
 . rcases e with e | e
   . rcases a i e with e | e
     . exact A e
     . omega
   . rcases q i e with e | e
     . exact R e
     . omega
theorem LE (w:World)(S So:Nat->Prop)(g gt:Nat)(m:ab)(s:bg)(c:UInt8)(t:dI)(h:dK w S g m s)(hl:iJ s)(hp:s.b=0)(hG:ia m s)(hO:ej w So gt t)(hd:∀k,S k->¬So k)(hm:m.length<=1000)(ha:s.d<=2)(hes:t.b.length<=80000)(hbs:t.a.length<=80000):
 Calls prog 354 #[.pointer (some ⟨g,0,none⟩),.pointer (some ⟨gt,0,none⟩),.int .u8 c.toNat] w fun e w'=>e=.returned (.tuple #[])∧lX w S So g gt m (cB m s c).1 (dA t (cB m s c).2) w':=by
 have hP:=rV.j h hO hd;have hN:cB m s c=({ s with c:=fJ m s.c c,d:=s.d-(dE m s.c c).length,b:=if eK m s.c c then 1 else 0 },if 0<s.f then ic ((dE m s.c c).drop s.d)++(if eK m s.c c then [tX] else []) else []):=by
  unfold cB;rw[if_neg (fun k=>k hl),if_pos hp]
 have hol:=zJ m s.c c hG.a;have hhl:=hG.a;cases hP.b with
 | dead h2 me row=>exact absurd hl h2
 | live h2 me gs gl p fo gy D row inn =>
   have c0:=row.y;have hne:g≠gs:=fun e=>inn.b.1.2 e.symm;have hSo:∀w1 a2,ei w1 gs m (fJ m s.c c) p->w.grownBy w1 (some gs)->rV w S So g gt m { s with c:=fJ m s.c c,d:=a2 } t (w1.setCell ⟨g,1,none⟩ (.int .i64 ((a2:Nat):Int))):=fun w1 a2 hS hG=>by
    obtain⟨r1,r2⟩:=dK.r (a2:=a2) hl me row inn hS hG;exact hP.f r1 r2
   have HG:=And.intro hl hp;have hlt:=row.j;generalize hout:dE m s.c c=out at *;generalize hfd:eK m s.c c=fd at *;generalize haf:fJ m s.c c=af at *;go_enter func354,ntmps354;go_wp2_with fail;refine(KB w g gs s.d m s.c c p row.y row.H (row.a 1) hne inn.d hG.a hm (by omega)).mono ?_;rintro e w2 ⟨w1,ao,cap,n,he,hn,hw,hB,hlo,hS,hGr⟩;rw[hout] at hn hw hB;rw[hfd] at he;rw[haf] at hS;subst he;have hP2:=hSo w1 (s.d-out.length) hS hGr;have hB2:aB w2 ao cap (out.drop s.d):=by
    rw[hw];exact hB.y (dT.f w1 g 1 _) (fun a e e2=>by have:=hlo a e;omega)
   rw[<-hw] at hP2;have uw:=hP2;have HB2:=aa hB2;have X6:=aa hn
   obtain⟨c4,c5,_,fz⟩:=hP2.b.a;have f4:=fz 4;have hnl:n<=1001:=by rw[hn,cO];omega
   have HMv:=fun(W:World) (hW:dK W (fun k=>S k∧k<w.heap.size) g m { s with c:=af,d:=s.d-out.length })=>hW.G HG.1 1 (by decide);clear hP2 hB2 hn hB hS hGr hw hlo fz  hout hfd haf;have c5:=c5;by_cases hpt:0<s.f
   . have tp:decide ((s.f:Int) > 0)=true:=br (by omega);go_wp2_with fail;refine(LD w2 _ gt t ao cap n (out.drop s.d) uw.a HB2.o X6.o.symm (by omega)).mono ?_;rintro e w3 ⟨rfl,hO3,qj⟩;obtain⟨hW3,RU⟩:=uw.r hO3 qj;obtain⟨c4',c5',_,fz⟩:=RU.a;have f4':=fz 4;have sP:=hO3;have HW3:=aa hW3;have HF3:=aa RU;have HT3:=aa qj
     have c5':=c5';cases fd with
     | false =>
       go_wp2;refine aR (results_none rfl _ _ _) rfl ?_;refine⟨rfl,?_⟩;rw[hN,if_pos hpt];show lX w S So g gt m { s with c:=af,d:=s.d-out.length,b:=0 } (dA t (ic (out.drop s.d)++[])) w3;rw[fK,Dg];have:({ s with c:=af,d:=s.d-out.length,b:=0 }:bg)={ s with c:=af,d:=s.d-out.length }:=by have:=HG.2;cases s;simp only at this;subst this;rfl
       rw[this];exact HW3.o
     | true =>
       obtain⟨hm1,hm2⟩:=HMv w3 HF3.o;have hTo:=sP.a hm2 (fun k e e2=>by
        rcases e with e | e
        . exact uw.c k e2.1 e.1
        . have:=e2.2;have:=uw.d.b;omega)
       have YB:=hm1;have HM2:=aa hm2
       have YC:=hm1.a.2.1;have YC:=YC;go_wp2_with fail;refine(yt _ _ gt _ 6 ⟨#[]⟩ ⟨#[]⟩ ⟨#[]⟩ 0 hTo (by decide) (by show t.b.length<=90000;omega)).mono ?_;rintro e w5 ⟨rfl,xW,wN⟩;have zL:=xW;have UZ:=aa wN
       go_wp2;go_end0
       refine⟨rfl,?_⟩;rw[hN,if_pos hpt];show lX w S So g gt m { s with c:=af,d:=s.d-out.length,b:=1 } (dA t (ic (out.drop s.d)++[tX])) w5;rw[DT,Dg];have hz:=HT3.o.b;have hz0:=uw.d.b;have hF5:=YB.f UZ.o (fun k e e2=>by
        rcases e2 with e2 | e2
        . exact uw.c k e.1 e2.1
        . have:=e.2;omega)
       refine .mk _ _ hF5 zL (fun k e e2=>?_) (fun _ e=>Or.inl e.1) (fun k e=>?_) (((uw.d.a HT3.o (fun _ e _=>Or.inr e.1)).a HM2.o (fun _ e _=>Or.inl e.1)).a UZ.o (fun i e hi=>?_))
       . rcases e2 with e2 | e2
         . rcases e2 with e2 | e2
           . exact uw.c k e.1 e2.1
           . have:=e.2;omega
         . have:=e.2;simp at e2;omega
       . rcases e with e | e
         . rcases e with e | e
           . exact Or.inl e.1
           . exact Or.inr (by omega)
         . exact Or.inr (by simp at e;omega)
       . rcases e with e | e
         . exact Or.inr e.1
         . omega
   . have tp:decide ((s.f:Int) > 0)=false:=ba (by omega);cases fd with
     | false =>
       go_wp2;refine aR (results_none rfl _ _ _) rfl ?_;refine⟨rfl,?_⟩;rw[hN,if_neg hpt];show lX w S So g gt m { s with c:=af,d:=s.d-out.length,b:=0 } t w2;have:({ s with c:=af,d:=s.d-out.length,b:=0 }:bg)={ s with c:=af,d:=s.d-out.length }:=by have:=HG.2;cases s;simp only at this;subst this;rfl
       rw[this];exact uw.y
     | true =>
       obtain⟨hm1,hm2⟩:=HMv w2 uw.b;have YB:=hm1;have HM2:=aa hm2
       have YC:=hm1.a.2.1;have YC:=YC;go_wp2;go_end0
       refine⟨rfl,?_⟩;rw[hN,if_neg hpt];exact(uw.f YB HM2.o).y
theorem dT.nT {w:X}{g:Nat}{f ln:Value}{fo:ag}{nf gy:Nat}{e pl c d:Int}(h:dT w g f e ln fo nf gy pl c d)(a b:Int):
 dT (((((((w.setCell ⟨g,0,U⟩ (Q U)).setCell ⟨g,1,U⟩ (I J 0)).setCell ⟨g,2,U⟩ (Q U)).setCell ⟨g,3,U⟩ (Z U 0 0)).setCell ⟨g,4,U⟩ (I J a)).setCell ⟨g,5,U⟩ (I J 0)).setCell ⟨g,6,U⟩ (I J b)) g (Q U) 0 (Q U) U 0 0 a 0 b ∧
 am (fun k=>k=g) w (((((((w.setCell ⟨g,0,U⟩ (Q U)).setCell ⟨g,1,U⟩ (I J 0)).setCell ⟨g,2,U⟩ (Q U)).setCell ⟨g,3,U⟩ (Z U 0 0)).setCell ⟨g,4,U⟩ (I J a)).setCell ⟨g,5,U⟩ (I J 0)).setCell ⟨g,6,U⟩ (I J b)):=by
 have i:dT (w.setCell ⟨g,0,U⟩ (Q U)) g (Q U) e ln fo nf gy pl c d:=⟨by rw[aP w g 0 _ _ _ h.b];rfl⟩;have j:=i.oF 0;have l:dT (((w.setCell ⟨g,0,U⟩ (Q U)).setCell ⟨g,1,U⟩ (I J 0)).setCell ⟨g,2,U⟩ (Q U)) g (Q U) 0 (Q U) fo nf gy pl c d:=⟨by rw[aP _ g 2 _ _ _ j.b];rfl⟩;have m:=((l.nD U 0 0).jK a).lH 0;refine⟨⟨by rw[aP _ g 6 _ _ _ m.b];rfl⟩,jr g [Q U,I J 0,Q U,Z U 0 0,I J a,I J 0,I J b] 0 w⟩
theorem TZ (w:X)(S So:Nat->Prop)(g gt:Nat)(m:ab)(s:bg)(c:UInt8)(t:dI)(h:dK w S g m s)(r:iJ s)(N:s.b=1∨s.b=2∨s.b=3∨s.b=4)(hO:ej w So gt t)(hd:∀k,S k->¬So k)(hes:t.b.length<=80000):
 Calls prog 356 #[Q (M ⟨g,0,U⟩),Q (M ⟨gt,0,U⟩),I .u8 c.toNat] w fun e w'=>xQ w S So g gt m s c t e w':=by
 have T:=rV.j h hO hd;have hN:=JS m N r.1 c;have u:=Sn w s.b c N;cases T.b with
 | dead W v row=>exact absurd r W
 | live W v gs gl p fo gy D row inn =>
   have l:=T;have z:=aa hN;have yG:=aa row;have HL:=aa r;have d:=aa v
   have c4:=row.B;have f4:=row.a 4
   have hlt:=row.j;have B:¬So g:=hd g v.1;generalize hx:(ih s.b c).1=x at *;generalize hy:(ih s.b c).2=y at *;by_cases b:y=0
   . subst b;by_cases f:x=6
     . subst f;have a:=yG.o.jK 6;have c0':=a.y;have c1':=a.H;have c2':=a.mI;have c3':=a.jY;have c4':=a.B;have c5':=a.G;have c6':=a.kU
       have f0':=a.a 0;have f1':=a.a 1;have f2':=a.a 2;have f3':=a.a 3;have f4':=a.a 4;have f5':=a.a 5;have f6':=a.a 6
       obtain⟨ZL,Fa⟩:=a.nT 6 0;have RH:=ZL;have YD:=aa Fa
       have hT:=((dT.f w g 4 (I J 6)).a Fa (fun _ e _=>e)).j (S':=fun k=>S k∧k<w.heap.size) (fun k e=>by subst e;exact d.o);have i:dK _ (fun k=>S k∧k<w.heap.size) g m tZ:=.dead JR d.o RH;have n:=l.f i hT;go_enter func356,ntmps356;go_wp2_with fail;refine u.mono ?_;rintro e j ⟨rfl,q⟩;subst q;go_wp2_with fail;refine(yt _ _ gt t 3 ⟨#[]⟩ ⟨#[]⟩ ⟨#[]⟩ 0 n.a (by decide) (by omega)).mono ?_;rintro e w5 ⟨rfl,xW,wN⟩;have C:=(n.r xW wN).1;go_wp2;go_ret;refine .ok rfl ?_;rw[z.o];exact C
     . have t6:((x:Int)==6)=F:=by rw[aQ];omega
       obtain⟨G,H⟩:=l.b.G HL.o x f;have C:=(l.f G H).y;go_enter func356,ntmps356;go_wp2_with fail;refine u.mono ?_;rintro e j ⟨rfl,q⟩;subst q;go_wp2;go_ret;refine .ok rfl ?_;rw[z.o,if_neg (fun e=>e rfl),if_neg f];exact C
   . have hx0:x≠6:=fun e=>by
      have:=JT s.b c;rw[hx,hy] at this;exact b (this e)
     have t6:((x:Int)==6)=F:=by rw[aQ];omega
     have L:=yG.o.jK (x:Int);go_enter func356,ntmps356;go_wp2_with fail;refine u.mono ?_;rintro e j ⟨rfl,q⟩;subst q;have HT:am (fun k=>S k∧k<j.heap.size) j (j.setCell ⟨g,4,U⟩ (I J (x:Int))):=(dT.f j g 4 _).j (fun k e=>by subst e;exact d.o);go_wp2;go_ret;refine .fail y b (by rw[z.o,if_pos b]) rfl ?_;exact .mk _ _ _ _ _ _ _ _ _ _ L (l.a.a HT (fun k e e2=>l.c k e2.1 e.1)) (fun e=>B e.1) (fun k e=>A e.1) (HT.j (fun k e=>A e.1))
inductive Tm (w:X)(g:Nat)(fo:ag)(nf:Nat)(fs:List gz)(t:ab)(e:Ending)(w':X):Prop
 | many (h:nf=16) (he:e=Y (I J 8)) (hw:w'=w)
 | bad (h:nf≠16) (c:Nat) (hc:c≠0) (hd:(aY t).a=c) (he:e=Y (I J (c:Int))) (hB:Below w.heap.size w w')
 | ok (h:nf≠16) (hd:(aY t).a=0) (w3:X) (g3 iy:Nat) (he:e=Y (I J 0)) (hw:w'=w3.setCell ⟨g,3,U⟩ (Z (M ⟨g3,0,U⟩) (nf+1) iy)) (hO:aK w3 0 148 2 (M ⟨g3,0,U⟩) iy (nf+1) (aI (co (fs++[((aY t).b,(aY t).c)])))) (hT:am (fun k=>aw fo=M k) w w3) (hat:aw fo=M g3∨w.heap.size<=g3)
theorem Oc (w:X)(g:Nat)(fo:ag)(nf gy:Nat)(C:List gz)(t:ae)(c3:w.cell? ⟨g,3,U⟩=M (Z fo nf gy))(f3:w.frozen? ⟨g,3,U⟩=F)(r:aw fo≠M g)(ho:aK w 0 148 2 fo gy nf (aI (co C)))(hn:nf<=16)(ht:t.size<=2000):
 Calls prog 372 #[Q (M ⟨g,2,U⟩),V t] w fun e w'=>Tm w g fo nf C t.data.toList e w':=by
 by_cases i:nf=16
 . have H:((nf:Int)==16)=true:=by rw[i];rfl
   go_enter func372,ntmps372;go_wp2;go_ret;exact .many i rfl rfl
 . have H:((nf:Int)==16)=F:=by rw[aQ];omega
   have s:=yq t w ht;unfold tV at s;have n:=bY w _ c3;by_cases L:(aY t.data.toList).a=0
   . rw[L] at s;obtain⟨c,v⟩:∃c:ae,(⟨(aY t.data.toList).b.toArray⟩:ae)=c:=⟨_,rfl⟩;obtain⟨d,x⟩:∃d:ae,(⟨(aY t.data.toList).c.toArray⟩:ae)=d:=⟨_,rfl⟩;rw[v,x] at s;have N:Hid (aI (co C)++[V c,V d]=aI (co (C++[((aY t.data.toList).b,(aY t.data.toList).c)]))):=by
      unfold Hid;rw[FX,yg,<-v,<-x];rfl
     have hK:∀W,Below w.heap.size w W->W.cell? ⟨g,3,U⟩=M (Z fo nf gy):=fun W y=>(y.cell n).trans c3;have T:∀W D,Below w.heap.size w W->W.grownBy D (Value.slice fo nf gy).ownBlock->D.cell? ⟨g,3,U⟩=M (Z fo nf gy)∧D.frozen? ⟨g,3,U⟩=F:=fun W D y q=>by
      rw[dq] at q;have hb:W.heap[g]? = w.heap[g]?:=y.block g n;refine⟨q.cell (hK W y) (fun e=>r e.symm),?_⟩;rw[vx (a:=⟨g,3,U⟩) ((q.block g (mC n y.size) (fun e=>r e.symm)).trans hb)];exact f3
     have HK:=hK;have X4:=aa T
     obtain⟨i0,hi0,hz0,hz1,hz2⟩:=info_parts pS;have Hi:=hi0;have lg:=aa hz0;have kZ:=aa hz1;have lq:=aa hz2
     have HN:nf+1<=maxLen∧(nf+1)*32<=140737488355328:=⟨by unfold maxLen;omega,by omega⟩;go_enter func372,ntmps372;go_wp2_with fail;refine s.mono ?_;rintro e l ⟨rfl,z⟩;have p:Below w.heap.size w (l.alloc (K #[V c,V d] 148)):=z.trans ((ar _ _).alloc z.size _);have B:Below w.heap.size w ((l.alloc (K #[V c,V d] 148)).alloc (K #[V c,V d] 148)):=p.trans ((ar _ _).alloc p.size _);have m:Below w.heap.size w ((l.alloc (K #[V c,V d] 148)).alloc (K #[V c,V d] 148)).drew:=B.trans ⟨rfl,rfl,rfl,ak _,fun _ _=>rfl⟩;have k3:=HK _ p;have j3:=HK _ B;have V7:=aK.below ho m (fun a e=>(ho.f a e).2);have Yi:∀j u,([V c,V d]:List Value)[j]? = M u->((l.alloc (K #[V c,V d] 148)).alloc (K #[V c,V d] 148)).drew.cell? (Addr.add ⟨l.heap.size+1,0,U⟩ j)=M u:=fun j u G=>by
      rw[ge,ee];show((l.alloc (K #[V c,V d] 148)).alloc (K #[V c,V d] 148)).cell? _=_;rw[World.cell?_alloc_at _ _ _ _ (by simp),mD];exact G
     have HS:=z.size;go_wp2;go_region_law
      ((refine step_append_lies _ (by rfl) _ _ _ (by rfl) 0 148 i0 (.agg #[V ⟨#[]⟩,V ⟨#[]⟩]) 2 32 underlying80 Hi lg.o kZ.o lq.o (by rfl) (by decide) (Z fo nf gy) nf _ (by rfl) V7 ⟨l.heap.size+1,0,U⟩ 1 1 [V c,V d] (by rfl) (by rfl) Yi (fun u G=>by simp at G;rcases G with rfl | rfl <;> rfl) (by decide) HN.1 HN.2 (ax _) (l.heap.size+2) (by simp) ?_;intro g3 iy w3 f b jS hlt3;have yE:=aa b;have sP:=aa f;have Km:=aa jS;have q3:=(X4.o _ _ m b).1;have qf:=(X4.o _ _ m b).2;clear b f jS))
     all_goals
      go_wp2;go_ret;have q:=yE.o;have hA:=Km.o
      rw[dq] at q hA;refine .ok i L w3 g3 iy rfl rfl (by rw[<-N.o];exact sP.o) ((am.f m).a (am.G (S:=fun k=>aw fo=M k) q (fun k e=>e)) (fun _ e _=>e)) ?_;rcases hA with e | e
      . exact A e
      . exact R (by have:=HS;omega)
   . have tc:(((aY t.data.toList).a:Int)==0)=F:=by rw[aQ];omega
     generalize hcc:(aY t.data.toList).a=cc at *;go_enter func372,ntmps372;go_wp2_with fail;refine s.mono ?_;rintro e l ⟨rfl,z⟩;have xO:=au z ((ar _ _).alloc (ak _) (K #[V ⟨(aY t.data.toList).b.toArray⟩,V ⟨(aY t.data.toList).c.toArray⟩] 148));go_wp2;go_ret;exact .bad i cc L hcc rfl xO
inductive tM (w:X)(S So:Nat->Prop)(g gt:Nat)(m:ab)(s:bg)(tx:ab)(t:dI)(e:Ending)(w':X):Prop
 | ok (he:e=Y (I J 0)) (h:lX w S So g gt m (dW s tx).1 (dA t (dW s tx).2) w')
 | fail (k:Nat) (hk:k≠0) (hN:dW s tx=iQ k) (he:e=Y (I J (k:Int))) (h:uF w S So g gt t w')
theorem Od {s:bg}{p:oA}(b:kD s.e=.inr p)(a:s.f≠12):dW s []=({ s with e:=[],f:=s.f+1,b:=0,c:=2,d:=2 },[wP p]):=by
 have:=JU (s:=s) b a;exact this
theorem Qh {s:bg}{c:Nat}(a:kD s.e=.inl c):dW s []=iQ c:=by
 unfold dW;rw[if_neg (fun h=>h rfl),a]
theorem Qk {s:bg}{p:oA}(b:kD s.e=.inr p)(a:s.f=12):dW s []=iQ 8:=by grind [kD,dW,iQ]
theorem Qo (w:X)(S So:Nat->Prop)(g gt:Nat)(m:ab)(s:bg)(t:dI)(h:dK w S g m s)(hl:iJ s)(h0:s.c=0)(hm:s.e.length<=16)(hsh:∀f∈s.e,f.1.length<=200∧f.2.length<=200)(hpt:s.f<=12)(hO:ej w So gt t)(hd:∀k,S k->¬So k)(h2:m.take 2=[13,10])(h3:3<=m.length)(hL:m.length<=1000)(hes:t.b.length<=80000):
 Calls prog 373 #[Q (M ⟨g,0,U⟩),Q (M ⟨gt,0,U⟩)] w fun e w'=>tM w S So g gt m s [] t e w':=by
 have hP:=rV.j h hO hd;cases hP.b with
 | dead h2 me row=>exact absurd hl h2
 | live hl2 me G gl p fo gy D row inn =>
   have v:am (fun k=>k=g) w (w.setCell ⟨g,3,U⟩ (Z U 0 0)):=dT.f w g 3 _;have r1:=row.nD U 0 0;have i0:jP w (fun k=>(S k∧k<w.heap.size)∧k≠g) m { s with e:=[] } G gl p U 0 D:=⟨inn.d,inn.b,inn.e,inn.g,aK.y _ _ _ _,fun a e=>(by cases e)⟩;have i1:=i0.a v (fun k e=>e.2);have hV:=inn.f.a.B v (fun a e=>(inn.c a e).1.2);have hne:g≠G:=fun e=>inn.b.1.2 e.symm;have NP:=QI w g fo s.e.length gy row.jY (row.a 3);have r:=aa (RP (co s.e) fo gy s.e.length _ hV (uM _) (by omega) (fun q hq=>by
    unfold co at hq;obtain⟨f,hf,rfl⟩:=my.1 hq;have:=hsh f hf;refine⟨?_,?_⟩
    . show f.1.toArray.size<=_;rw[cz];omega
    . show f.2.toArray.size<=_;rw[cz];omega))
   rw[Gd] at r;have HP:=hP;have x:=aa r1;have H:=aa i1;have y:=aa v;have z:=aa me;have HLv:=aa hl;have HH0:=aa h0
   have hlt:=row.j;have L:¬So g:=hd g me.1;have HM:m.take 2=[13,10]∧3<=m.length∧m.length<=1000:=⟨h2,h3,hL⟩;have N:∀(u:X),Below (w.setCell ⟨g,3,U⟩ (Z U 0 0)).heap.size (w.setCell ⟨g,3,U⟩ (Z U 0 0)) u->uF w S So g gt t u:=fun u hb=>by
    have hTd:=(HP.a.a y.o (fun k e e2=>by subst e2;exact L e.1)).j hb;exact .mk _ _ _ _ _ _ _ _ _ _ (x.o.lI hb) hTd (fun e=>L e.1) (fun k e=>A e.1) ((y.o.j (S':=fun k=>S k∨So k) (fun k e=>by subst e;exact A z.o.1)).a (am.f hb) (fun _ e _=>e))
   cases d:kD s.e with
   | inl k =>
     have hk:=JW d;have T:=Qh d;rw[d] at r;unfold tY at r;simp only at r;have tc:((k:Int) != 0)=true:=by rw[di];omega
     go_enter func373,ntmps373;go_wp2_with fail;refine NP.mono ?_;rintro e w1 ⟨rfl,W⟩;subst W;go_wp2_with fail;refine r.o.mono ?_;rintro e n ⟨rfl,i⟩;have HF:=N _ (au i ((ar _ _).alloc (ak _) (K #[V ⟨#[]⟩,V ⟨#[]⟩,V ⟨#[]⟩,Z U 0 0] 96)));go_wp2;go_ret;exact .fail k hk T rfl HF
   | inr c =>
     rw[d] at r;unfold tY at r;simp only at r;by_cases B:s.f=12
     . have T:=aa (Qk d B);have t12:((s.f:Int)==12)=true:=by rw[B];rfl
       go_enter func373,ntmps373;go_wp2_with fail;refine NP.mono ?_;rintro e w1 ⟨rfl,W⟩;subst W;go_wp2_with fail;refine r.o.mono ?_;rintro e n ⟨rfl,i⟩;have j:=au i ((ar _ _).alloc (ak _) (K #[V ⟨c.b.toArray⟩,V ⟨c.a.toArray⟩,V ⟨c.c.toArray⟩,Z U 0 0] 96));have HF:=N _ j;have c5:=(x.o.lI j).G;go_wp2;go_ret;exact .fail 8 (by decide) T rfl HF
     . have T:=aa (Od d B);have t12:((s.f:Int)==12)=F:=by rw[aQ];omega
       go_enter func373,ntmps373;go_wp2_with fail;refine NP.mono ?_;rintro e w1 ⟨rfl,W⟩;subst W;go_wp2_with fail;refine r.o.mono ?_;rintro e n ⟨rfl,i⟩;have j:=au i ((ar _ _).alloc (ak _) (K #[V ⟨c.b.toArray⟩,V ⟨c.a.toArray⟩,V ⟨c.c.toArray⟩,Z U 0 0] 96));have C:=aX n (K #[V ⟨c.b.toArray⟩,V ⟨c.a.toArray⟩,V ⟨c.c.toArray⟩,Z U 0 0] 96);have hw2:w.heap.size<=n.heap.size:=by have:=i.size;simpa using this
       go_upto_region 2 with fail
       generalize hW2:(n.alloc (K #[V ⟨c.b.toArray⟩,V ⟨c.a.toArray⟩,V ⟨c.c.toArray⟩,Z U 0 0] 96))=u at *;have r2:=x.o.lI j;have r3:=(r2.lH ((s.f:Int)+1)).jK 0;have qj:am (fun k=>k=g) u ((u.setCell ⟨g,5,U⟩ (I J ((s.f:Int)+1))).setCell ⟨g,4,U⟩ (I J 0)):=(dT.f u g 5 _).a (dT.f _ g 4 _) (fun _ e _=>e);have i3:=(H.o.B j).a qj (fun k e=>e.2);have c5:=r2.G;have f5:=r2.a 5
       have c4:=(r2.lH ((s.f:Int)+1)).B;have f4:=(r2.lH ((s.f:Int)+1)).a 4
       have hSk:ei ((u.setCell ⟨g,5,U⟩ (I J ((s.f:Int)+1))).setCell ⟨g,4,U⟩ (I J 0)) G m 0 p:=by have:=i3.d;rw[show({ s with e:=[] }:bg).c=0 from HH0.o] at this;exact this
       have HSb:=Hw _ g G m p _ r3.y r3.H (r3.a 1) hne hSk HM.1 HM.2.1 (by have:=HM.2.2;omega);have HB3:=j;have afE:=aa C;have HR3:=aa r3;have HT3:=aa qj;have HI3:=aa i3
       go_wp2_with fail;refine HSb.mono ?_;rintro e l ⟨w4,rfl,DI,hS5,NM⟩;obtain⟨r5,t5⟩:=dK.r (s:={ s with e:=[],f:=s.f+1,b:=0 }) (a2:=2) (S:=fun k=>S k∧k<w.heap.size) ⟨HLv.o.1,by show(0:Nat)≠6;decide⟩ z.o HR3.o (HI3.o.r rfl rfl rfl) hS5 NM;have e5:w4.setCell ⟨g,1,U⟩ (I J ((2:Nat):Int))=l:=DI.symm;rw[e5] at r5 t5;have hgs:G<w.heap.size:=by have:=H.o.d.f;simpa using this
       have Dj:∀{a b:X},am (fun k=>k=g) a b->am (fun k=>S k∧k<w.heap.size) a b:=fun hh=>hh.j (fun k e=>by subst e;exact z.o);have ab3:am (fun k=>S k∧k<w.heap.size) w l:=(((Dj y.o).a (am.f HB3) (fun _ e _=>e)).a (Dj HT3.o) (fun _ e _=>e)).a t5 (fun _ e _=>e);have RV:=HP.f r5 ab3;have q1:=HT3.o.y afE.o (fun e=>by omega);have q2:w4.heap[n.heap.size]? = _:=(NM.block _ (bO.1 q1).1 (fun e=>by injection e with e;omega)).trans q1;have q3:l.heap[n.heap.size]? = M (K #[V ⟨c.b.toArray⟩,V ⟨c.a.toArray⟩,V ⟨c.c.toArray⟩,Z U 0 0] 96 (0,0)):=by
        rw[<-e5];exact(dT.f w4 g 1 _).y q2 (fun e=>by omega)
       have p0:l.cell? ⟨n.heap.size,0,U⟩=M (V ⟨c.b.toArray⟩):=aq l _ 0 _ _ _ q3;have p1:l.cell? ⟨n.heap.size,1,U⟩=M (V ⟨c.a.toArray⟩):=aq l _ 1 _ _ _ q3;have p2:l.cell? ⟨n.heap.size,2,U⟩=M (V ⟨c.c.toArray⟩):=aq l _ 2 _ _ _ q3;have p3:l.cell? ⟨n.heap.size,3,U⟩=M (Z U 0 0):=aq l _ 3 _ _ _ q3;have HAd:=yt l _ gt t 5 ⟨c.b.toArray⟩ ⟨c.a.toArray⟩ ⟨c.c.toArray⟩ 0 RV.a (by decide) (by omega);clear r5 t5 e5 ab3  q1 q2 q3 Dj DI hS5 NM hgs;go_wp2_with fail;refine HAd.mono ?_;rintro e w6 ⟨rfl,E8,CK⟩;have HW:=(RV.r E8 CK).1;clear E8 CK;go_wp2;go_ret;refine .ok rfl ?_;rw[T];exact HW
theorem uF.a {w0 w w':X}{S So f j:Nat->Prop}{g gt:Nat}{l:dI}(a:∀k,f k->S k∨w0.heap.size<=k)(m:∀k,j k->So k∨w0.heap.size<=k)(n:am (fun k=>S k∨So k) w0 w)(o:uF w f j g gt l w'):uF w0 S So g gt l w':=by
 obtain⟨b,p,q,r,pl,s,t,u,v,x,y,c,d,z,B⟩:=o;have C:=n.b;refine .mk b p q r pl s t u v x y c d (fun k e=>?_) (n.a B (fun i e D=>?_))
 . rcases z k e with e | e
   . exact m k e
   . exact R (by omega)
 . rcases e with e | e
   . rcases a i e with e | e
     . exact A e
     . omega
   . rcases m i e with e | e
     . exact R e
     . omega
theorem tM.a {w0 w w':X}{S So d f:Nat->Prop}{g gt:Nat}{m:ab}{s i:bg}{c:UInt8}{j:ab}{t:dI}{e:Ending}(l:cB m s c=dW i j)(a:∀k,d k->S k∨w0.heap.size<=k)(n:∀k,f k->So k∨w0.heap.size<=k)(o:am (fun k=>S k∨So k) w0 w)(h:tM w d f g gt m i j t e w'):xQ w0 S So g gt m s c t e w':=by
 cases h with
 | ok b h=>exact .ok b (by rw[l];exact lX.a a n o h)
 | fail k p q b h=>exact .fail k p (l.trans q) b (uF.a a n o h)
theorem Lo (w:X)(S So:Nat->Prop)(g gt:Nat)(m:ab)(s:bg)(d:ab)(t:dI)(h:dK w S g m s)(hl:iJ s)(hm:s.e.length<=16)(hO:ej w So gt t)(hd:∀k,S k->¬So k)(W:d≠[])(hz:d.length<=200):
 Calls prog 372 #[Q (M ⟨g,2,U⟩),V ⟨d.toArray⟩] w fun e w'=>tM w S So g gt m s d t e w':=by
 have N:=rV.j h hO hd;cases N.b with
 | dead h2 T row=>exact absurd hl h2
 | live hl2 T gs gl p z gy D row inn =>
   have v:¬So g:=hd g T.1;refine(Oc w g z s.e.length gy s.e ⟨d.toArray⟩ row.jY (row.a 3) (fun e=>?_) inn.f hm (by show d.toArray.size<=_;rw[cz];omega)).mono ?_
   . cases z with
     | none=>cases e
     | some a=>injection e with e;exact(inn.c a rfl).1.2 e
   . intro e w' hF;have B:dW s d=if s.e.length=16 then iQ 8 else if (aY d).a≠0 then iQ (aY d).a else ({ s with e:=s.e++[((aY d).b,(aY d).c)] },[]):=by
      unfold dW;rw[if_pos W]
     cases hF with
     | many q G hw =>
       rw[if_pos q] at B;subst hw;exact .fail 8 (by decide) B G (.mk _ _ _ _ _ _ _ _ _ _ row N.a (fun e=>v e.1) (fun k e=>A e.1) (am.B _ _))
     | bad q c hc n G hB =>
       have n:=n;rw[if_neg q,n,if_pos hc] at B;exact .fail c hc B G (.mk _ _ _ _ _ _ _ _ _ _ (row.lI hB) (N.a.j hB) (fun e=>v e.1) (fun k e=>A e.1) (am.f hB))
     | ok q n r o x G hw H C y =>
       have n:=n;rw[if_neg q,n,if_neg (fun e=>e rfl)] at B;refine .ok G ?_;rw[B];subst hw;have i:∀k,aw z=M k->∃a,z=M a∧a.block=k:=fun k e=>by
        cases z with
        | none=>cases e
        | some a=>injection e with e;exact⟨a,rfl,e⟩
       have hz3:=C.b;have yX:am (fun k=>k=g) r (r.setCell ⟨g,3,U⟩ (Z (M ⟨o,0,U⟩) (s.e.length+1) x)):=dT.f r g 3 _;have hlt:=row.j;have r3:=(row.r C (fun e=>by obtain⟨a,j,l⟩:=i g e;exact(inn.c a j).1.2 l)).nD (M ⟨o,0,U⟩) (s.e.length+1) x;have hg3:o<r.heap.size:=(H.f _ rfl).2;have aik:o≠g:=fun e=>by
        rcases y with f | f
        . obtain⟨a,j,l⟩:=i o f;exact(inn.c a j).1.2 (l.trans e)
        . omega
       have u:(s.e++[((aY d).b,(aY d).c)]).length=s.e.length+1:=by rw[aD];rfl
       have i3:jP r (fun k=>(S k∧k<w.heap.size∨w.heap.size<=k∧k<r.heap.size)∧k≠g) m { s with e:=s.e++[((aY d).b,(aY d).c)] } gs gl p (M ⟨o,0,U⟩) x (fun k=>D k∧k<w.heap.size):=by
        refine⟨inn.d.r C ?_ ?_ ?_,⟨⟨A inn.b.1.1,inn.b.1.2⟩,⟨A inn.b.2.1.1,inn.b.2.1.2⟩,fun a e=>⟨A (inn.b.2.2 a e).1,(inn.b.2.2 a e).2⟩⟩,⟨fun e=>inn.e.1 e.1,fun e=>inn.e.2.1 e.1,fun a e f=>inn.e.2.2 a e f.1⟩,?_,?_,?_⟩
        . intro e;obtain⟨a,j,l⟩:=i _ e;exact(inn.j a j).1 l
        . intro e;obtain⟨a,j,l⟩:=i _ e;exact(inn.j a j).2.1 l
        . intro b hb e;obtain⟨a,j,l⟩:=i _ e;exact(inn.j a j).2.2 b hb l
        . have:=(inn.g.a (S':=fun k=>((S k∧k<w.heap.size∨w.heap.size<=k∧k<r.heap.size)∧k≠g)∧(D k∧k<w.heap.size)) (fun k hk e=>⟨⟨A e.1.1,e.1.2⟩,e.2,hk⟩));exact this.f C (fun k e f=>by obtain⟨a,j,l⟩:=i _ f;exact(inn.c a j).2 (l▸e.2.1))
        . show aK r 0 148 2 (M ⟨o,0,U⟩) x (s.e++[((aY d).b,(aY d).c)]).length _;rw[u];exact H
        . intro a e;injection e with e;subst e;refine⟨⟨?_,aik⟩,fun f=>?_⟩
          . rcases y with f | f
            . obtain⟨a,j,l⟩:=i o f;exact A (l▸(inn.c a j).1.1)
            . exact R ⟨f,hg3⟩
          . rcases y with e3 | e3
            . obtain⟨a,j,l⟩:=i o e3;exact(inn.c a j).2 (l▸f.1)
            . have h9:o<w.heap.size:=f.2;omega
       have i4:=i3.a yX (fun k e=>e.2);have r4:dT (r.setCell ⟨g,3,U⟩ (Z (M ⟨o,0,U⟩) (s.e.length+1) x)) g (Q (M ⟨gs,0,U⟩)) (s.d:Int) (Q (M ⟨gl,0,U⟩)) (M ⟨o,0,U⟩) (s.e++[((aY d).b,(aY d).c)]).length x (s.b:Int) (s.f:Int) (s.g:Int):=by rw[u];exact r3
       have L:∀k,aw z=M k->S k∧k<w.heap.size:=fun k e=>by obtain⟨a,j,l⟩:=i k e;exact l▸(inn.c a j).1.1
       refine .mk (fun k=>S k∧k<w.heap.size∨w.heap.size<=k∧k<r.heap.size) (fun k=>So k∧k<w.heap.size) (.live (s:={ s with e:=s.e++[((aY d).b,(aY d).c)] }) hl (A T) gs gl p _ x _ r4 i4) ((N.a.a C (fun k e f=>hd k (L k f).1 e.1)).a yX (fun k e f=>by subst f;exact v e.1)) (fun k e f=>?_) (fun k e=>?_) (fun k e=>A e.1) ?_
       . rcases e with e | e
         . exact hd k e.1 f.1
         . have:=f.2;omega
       . rcases e with e | e
         . exact A e.1
         . exact R e.1
       . exact(C.j (S':=fun k=>S k∨So k) (fun k e=>A (L k e).1)).a (yX.j (S':=fun k=>S k∨So k) (fun k e=>by subst e;exact A T.1)) (fun _ e _=>e)
theorem dK.H {w f:X}{S:Nat->Prop}{g gs i:Nat}{m:ab}{s:bg}{p:kc}{fo:ag}{gy:Nat}{D:Nat->Prop}{d:cx}(n:iJ s)(o:S g)(b:∀k,S k->k<w.heap.size)(row:dT w g (Q (M ⟨gs,0,U⟩)) (s.d:Int) (Q (M ⟨i,0,U⟩)) fo s.e.length gy (s.b:Int) (s.f:Int) (s.g:Int))(inn:jP w (fun k=>S k∧k≠g) m s gs i p fo gy D)
 (q:cP f (ay (fun k=>(S k∧k≠g)∧D k) w) i d) (j:am (fun k=>(S k∧k≠g)∧D k) w f):dK f (fun k=>S k∨w.heap.size<=k∧k<f.heap.size) g m { s with a:=d }:=by
 have r:=row.j;refine .live n (A o) gs i p fo gy (fun k=>D k∧k<w.heap.size∨w.heap.size<=k) (row.r j (fun e=>e.1.2 rfl)) ⟨inn.d.r j (fun e=>inn.e.1 e.2) (fun e=>inn.e.2.1 e.2) (fun a e c=>inn.e.2.2 a e c.2),⟨⟨A inn.b.1.1,inn.b.1.2⟩,⟨A inn.b.2.1.1,inn.b.2.1.2⟩,fun a e=>⟨A (inn.b.2.2 a e).1,(inn.b.2.2 a e).2⟩⟩,⟨?_,?_,?_⟩,q.a (fun k t e=>?_),inn.f.j j (fun a e c=>(inn.c a e).2 c.2),fun a e=>⟨⟨A (inn.c a e).1.1,(inn.c a e).1.2⟩,?_⟩⟩
 . intro e;rcases e with e | e
   . exact inn.e.1 e.1
   . have:=b _ inn.b.1.1;omega
 . intro e;rcases e with e | e
   . exact inn.e.2.1 e.1
   . have:=b _ inn.b.2.1.1;omega
 . intro a l e;rcases e with e | e
   . exact inn.e.2.2 a l e.1
   . have:=b _ (inn.b.2.2 a l).1;omega
 . rcases e with e | e
   . exact⟨⟨A e.1.1,e.1.2⟩,A ⟨e.2,b k e.1.1⟩⟩
   . exact⟨⟨R ⟨e,t⟩,by omega⟩,R e⟩
 . intro c;rcases c with c | c
   . exact(inn.c a e).2 c.1
   . have:=b _ (inn.c a e).1.1;omega
theorem LF (w:X)(S So:Nat->Prop)(g gt:Nat)(m:ab)(s:bg)(c:UInt8)(t:dI)(h:dK w S g m s)(G:iJ s)(hp:s.b=5)(H:ia m s)(hO:ej w So gt t)(hd:∀k,S k->¬So k)(L:m.take 2=[13,10])(h3:3<=m.length)(hL:m.length<=1000)(N:t.b.length<=80000):
 Calls prog 355 #[Q (M ⟨g,0,U⟩),Q (M ⟨gt,0,U⟩),I .u8 c.toNat] w fun e w'=>xQ w S So g gt m s c t e w':=by
 have T:=rV.j h hO hd;have W:=JP m hp G.1 c;cases T.b with
 | dead L me row=>exact absurd G L
 | live hl2 me gs gl p fo gy D row inn =>
   have n:=ya w _ gl s.a c inn.g H.b.c;unfold kG at n;have c2:=row.mI;have HP:=T;have q:=aa W;have yG:=aa row
   have hgo:¬So g:=hd g me.1;have r:∀a,cP a (ay (fun k=>((S k∧k<w.heap.size)∧k≠g)∧D k) w) gl (bi s.a c)->am (fun k=>((S k∧k<w.heap.size)∧k≠g)∧D k) w a->dK a (fun k=>(S k∧k<w.heap.size)∨w.heap.size<=k∧k<a.heap.size) g m { s with a:=bi s.a c }∧ej a (fun k=>So k∧k<w.heap.size) gt t∧am (fun k=>S k∨So k) w a:=fun a d b =>
    ⟨dK.H G me (fun k e=>e.2) row inn d b,T.a.a b (fun k e e2=>hd k e2.1.1.1 e.1),b.j (fun k e=>A e.1.1.1)⟩
   have f:∀a:X,∀k,((S k∧k<w.heap.size)∨w.heap.size<=k∧k<a.heap.size)->¬(So k∧k<w.heap.size):=fun a k e e2=>by
    rcases e with e | e
    . exact hd k e.1 e2.1
    . omega
   have z:=H;have B:=aa G;have HPl:=aa hp;have HM:Hid (m.take 2=[13,10]∧3<=m.length∧m.length<=1000):=⟨L,h3,hL⟩
   by_cases u:(bi s.a c).a=0
   . have tc:(((bi s.a c).a:Int) != 0)=F:=by rw[u];rfl
     cases j:fH s.a c with
     | false =>
       rw[j] at n q;rw[if_neg (fun e=>e u),if_neg (by simp)] at q;generalize C:((bi s.a c).a:Int)=cd at n tc;have HCd:Hid (cd=0):=by unfold Hid;rw[<-C,u];rfl
       generalize (⟨(cV s.a c).toArray⟩:ae)=tx at *;go_enter func355,ntmps355;go_wp2_with fail;refine n.mono ?_;rintro e a ⟨rfl,d,b⟩;have i:=r a d b;go_wp2;go_ret;refine .ok (by rw[HCd.o];rfl) ?_;rw[q.o];exact .mk _ _ i.1 i.2.1 (f a) (fun k e=>e.imp (fun e=>e.1) (fun e=>e.1)) (fun k e=>A e.1) i.2.2
     | true =>
       rw[j] at n q;rw[if_neg (fun e=>e u),if_pos rfl] at q;have hsh:=(xz (c:=c) H.b).1;have oW:=Do j;rw[u] at n;by_cases x:cV s.a c=[]
       . have HB:∀a,dK a (fun k=>(S k∧k<w.heap.size)∨w.heap.size<=k∧k<a.heap.size) g m { s with a:=bi s.a c }->ej a (fun k=>So k∧k<w.heap.size) gt t->Calls prog 373 #[Q (M ⟨g,0,U⟩),Q (M ⟨gt,0,U⟩)] a fun e w'=>tM a (fun k=>(S k∧k<w.heap.size)∨w.heap.size<=k∧k<a.heap.size) (fun k=>So k∧k<w.heap.size) g gt m { s with a:=bi s.a c } [] t e w':=fun a y sU =>
          Qo a _ _ g gt m { s with a:=bi s.a c } t y B.o (z.h (by rw[HPl.o];decide)) z.c z.e z.d sU (f a) HM.o.1 HM.o.2.1 HM.o.2.2 N
         rw[x] at n q;go_enter func355,ntmps355;go_wp2_with fail;refine n.mono ?_;rintro e a ⟨rfl,d,b⟩;have i:=r a d b;go_wp2_with fail;refine(HB a i.1 i.2.1).mono ?_;intro e w2 l;have HK:=tM.a (w0:=w) q.o (S:=S) (So:=So) (fun k e=>e.imp (fun e=>e.1) (fun e=>e.1)) (fun k e=>A e.1) i.2.2 l;obtain⟨v,hv⟩:∃v,e=Y v:=by cases l with
          | ok j h=>exact⟨_,j⟩
          | fail k hk W j h=>exact⟨_,j⟩
         subst hv;go_wp2;go_ret;exact HK
       . have ttx:((⟨(cV s.a c).toArray⟩:ae).toList==[])=F:=by rw[aQ,Lib.toList_data];exact x
         have HB:∀a,dK a (fun k=>(S k∧k<w.heap.size)∨w.heap.size<=k∧k<a.heap.size) g m { s with a:=bi s.a c }->ej a (fun k=>So k∧k<w.heap.size) gt t->Calls prog 372 #[Q (M ⟨g,2,U⟩),V ⟨(cV s.a c).toArray⟩] a fun e w'=>tM a (fun k=>(S k∧k<w.heap.size)∨w.heap.size<=k∧k<a.heap.size) (fun k=>So k∧k<w.heap.size) g gt m { s with a:=bi s.a c } (cV s.a c) t e w':=fun a y sU =>
          Lo a _ _ g gt m { s with a:=bi s.a c } (cV s.a c) t y B.o z.c sU (f a) x hsh
         generalize (⟨(cV s.a c).toArray⟩:ae)=tx at *;go_enter func355,ntmps355;go_wp2_with fail;refine n.mono ?_;rintro e a ⟨rfl,d,b⟩;have i:=r a d b;go_wp2_with fail;refine(HB a i.1 i.2.1).mono ?_;intro e w2 l;have HK:=tM.a (w0:=w) q.o (S:=S) (So:=So) (fun k e=>e.imp (fun e=>e.1) (fun e=>e.1)) (fun k e=>A e.1) i.2.2 l;obtain⟨v,hv⟩:∃v,e=Y v:=by cases l with
          | ok j h=>exact⟨_,j⟩
          | fail k hk W j h=>exact⟨_,j⟩
         subst hv;go_wp2;go_ret;exact HK
   . have tc:(((bi s.a c).a:Int) != 0)=true:=by rw[di];omega
     rw[if_pos u] at q;generalize C:(bi s.a c).a=cd at *;generalize (⟨(cV s.a c).toArray⟩:ae)=tx at *;generalize fH s.a c=en at *;go_enter func355,ntmps355;go_wp2_with fail;refine n.mono ?_;rintro e a ⟨rfl,d,b⟩;have i:=r a d b;have HR1:=yG.o.r b (fun e=>e.1.2 rfl);go_wp2;go_ret;exact .fail cd u q.o rfl (.mk _ _ _ _ _ _ _ _ _ _ HR1 i.2.1 (fun e=>hgo e.1) (fun k e=>A e.1) i.2.2)
structure vd (m:ab)(s:bg):Prop where
 a:ia m s
 e:m.take 2=[13,10]
 b:5<=m.length
 c:m.length<=100
 d:s.d<=2
theorem vd.f {m:ab}{s:bg}(h:vd m s)(l:ab):vd m (cZ m s l):=⟨h.a.y (by have:=h.b;omega) l,h.e,h.b,h.c,Dq m l s h.d⟩
theorem RQ (w:X)(S So:Nat->Prop)(g gt:Nat)(m:ab)(s:bg)(c:UInt8)(t:dI)(h:dK w S g m s)(n:iJ s)(a:vd m s)(p:ej w So gt t)(hd:∀k,S k->¬So k)(b:t.b.length<=80000)(q:t.a.length<=80000):
 Calls prog 320 #[Q (M ⟨g,0,U⟩),Q (M ⟨gt,0,U⟩),I .u8 c.toNat] w fun e w'=>xQ w S So g gt m s c t e w':=by
 have N:=h.a.1;have z:3<=m.length:=by have:=a.b;omega
 have x:m.length<=1000:=by have:=a.c;omega
 by_cases i:s.b=0
 . have j:=aa (LE w S So g gt m s c t h n i a.a p hd x a.d b q);have B:((s.b:Int)==0)=true:=by rw[i];rfl
   go_enter func320,ntmps320;go_wp2_with fail;refine j.o.mono ?_;rintro e y ⟨rfl,d⟩;go_wp2;go_ret;exact .ok rfl d
 . have B:((s.b:Int)==0)=F:=by rw[aQ];omega
   by_cases l:s.b=5
   . have j:=aa (LF w S So g gt m s c t h n l a.a p hd a.e z x b);have C:((s.b:Int)==5)=true:=by rw[l];rfl
     go_enter func320,ntmps320;go_wp2_with fail;refine j.o.mono ?_;intro e y d;have r:=aa d;obtain⟨v,u⟩:∃v,e=Y v:=by cases d with
      | ok f h=>exact⟨_,f⟩
      | fail k D G f h=>exact⟨_,f⟩
     subst u;go_wp2;go_ret;exact r.o
   . have C:((s.b:Int)==5)=F:=by rw[aQ];omega
     have H:=a.a.j;have L:=n.2;have j:=TZ w S So g gt m s c t h n (by omega) p hd b;go_enter func320,ntmps320;go_wp2_with fail;refine j.mono ?_;intro e y d;have r:=aa d;obtain⟨v,u⟩:∃v,e=Y v:=by cases d with
      | ok f h=>exact⟨_,f⟩
      | fail k D G f h=>exact⟨_,f⟩
     subst u;go_wp2;go_ret;exact r.o
structure vY (w:X)(S:Nat->Prop)(g:Nat)(m:ab)(s:bg)(l:ab)(k:Nat)(wr:X):Prop where
 c:∃S' So',dK wr S' g m (cZ m s (l.take k))∧ej wr So' w.heap.size (dA gN (cu m s (l.take k)))∧(∀i,S' i->¬So' i)∧(∀i,S' i->S i∨w.heap.size<=i)∧(∀i,So' i->w.heap.size<=i)
 b:am S w wr
inductive An (w:X)(S:Nat->Prop)(g:Nat)(m:ab)(s:bg)(l:ab)(e:Ending)(w':X):Prop
 | mk (ao:ag) (cap n:Nat) (S' So':Nat->Prop) (he:e=Y (Z ao n cap)) (hn:n=(gr (cu m s l)).length) (hR:dK w' S' g m (cZ m s l)) (hO:jt w' So' 98 ao cap (gr (cu m s l))) (hd:∀i,S' i->¬So' i) (hS:∀i,S' i->S i∨w.heap.size<=i) (hSo:∀i,So' i->w.heap.size<=i) (hT:am S w w')
theorem vY.f {w wr w':X}{S S' a:Nat->Prop}{g:Nat}{m:ab}{s:bg}{l:ab}{k:Nat}(o:k<l.length)(f:∀i,S' i->S i∨w.heap.size<=i)(b:∀i,a i->w.heap.size<=i)(j:am S w wr)
 (h:lX wr S' a g w.heap.size m (cB m (cZ m s (l.take k)) l[k]).1 (dA (dA gN (cu m s (l.take k))) (cB m (cZ m s (l.take k)) l[k]).2) w'):vY w S g m s l (k+1) w':=by
 obtain⟨p,c,q,r,t,d,u,v⟩:=h;have n:=fR o;have x:=j.b;refine⟨⟨p,c,by rw[n,Jo];exact q,by rw[n,Jn,DT];exact r,t,fun i e=>?_,fun i e=>?_⟩,j.a v (fun i e y=>?_)⟩
 . rcases d i e with e | e
   . exact f i e
   . exact R (by omega)
 . rcases u i e with e | e
   . exact b i e
   . omega
 . rcases e with e | e
   . rcases f i e with e | e
     . exact e
     . omega
   . have:=b i e;omega
theorem Qp {w c l:X}{S So d:Nat->Prop}{g gt:Nat}{m:ab}{t:dI}{k:Nat}(s:k≠0)(o:S g)
 (a:¬d g) (p:∀i,d i->So i∨w.heap.size<=i) (b:am (fun i=>S i∨So i) w c)
 {f:X} (u:dT f g (Q U) 0 (Q U) U 0 0 0 0 (k:Int)) (q:am (fun i=>i=g) c f) (y:g<w.heap.size) (n:ej l (ay (fun i=>d i∧i<c.heap.size) f) gt (nK t (zE k))) (r:am (fun i=>d i∧i<c.heap.size) f l) :
 lX w S So g gt m (iQ k).1 (dA t (iQ k).2) l:=by
 have v:=b.b;have x:=q.b;refine .mk (fun i=>i=g) _ (.dead (Jq s) rfl (u.r r (fun e=>a e.1))) n (fun i e j=>?_) (fun i e=>by subst e;exact A o) (fun i e=>?_) ((b.a q (fun i e _=>by subst e;exact A o)).a r (fun i e z=>?_))
 . subst e;rcases j with j | j
   . exact a j.1
   . omega
 . rcases e with e | e
   . exact p i e.1
   . exact R (by omega)
 . rcases p i e.1 with e | e
   . exact R e
   . omega
theorem vY.a {w wr w':X}{S S' a:Nat->Prop}{g:Nat}{m:ab}{s:bg}{l:ab}{k:Nat}{ao bo:ag}{cap p:Nat}(q:dK wr S' g m (cZ m s (l.take k)))(hd:∀i,S' i->¬a i)(r:∀i,S' i->S i∨w.heap.size<=i)(c:∀i,a i->w.heap.size<=i)(f:am S w wr)(j:cu m s l=cu m s (l.take k))(t:cZ m s l=cZ m s (l.take k))
 (u:fU w' (ay (fun i=>a i∧i<wr.heap.size) wr) w.heap.size ao cap bo p ⟨fE (dA gN (cu m s (l.take k))),[]⟩) (n:am (fun i=>a i∧i<wr.heap.size) wr w'):An w S g m s l (Y (Z ao (fE (dA gN (cu m s (l.take k)))).length cap)) w':=by
 have d:=(De _ (zM m (l.take k) s)).1;have v:=f.b;refine .mk ao cap _ (fun i=>S' i∧i<wr.heap.size) (fun i=>ay (fun i=>a i∧i<wr.heap.size) wr i) rfl (by rw[d,j]) (by rw[t];exact(q.j (fun i o e=>⟨e,o⟩)).f n (fun i e b=>hd i e.1 b.1)) (by rw[j,<-d];exact u.e.a (fun i _ e=>e.1.1)) (fun i e b=>?_) (fun i e=>r i e.1) (fun i e=>?_) (f.a n (fun i e o=>by have:=c i e.1;omega))
 . rcases b with b | b
   . exact hd i e.1 b.1
   . have:=e.2;omega
 . rcases e with e | e
   . exact c i e.1
   . omega
theorem LG (w:X)(S:Nat->Prop)(g:Nat)(m:ab)(s:bg)(l:ab)(bo:ag)(fZ n:Nat)(h:dK w S g m s)(hG:vd m s)(hB:aB w bo fZ l)(tL:l≠[]->∀a,bo=M a->¬S a.block)(hn:l.length=n)(hl:n<=20000):
 Calls prog 284 #[Q (M ⟨g,0,U⟩),Z bo n fZ] w fun e w'=>An w S g m s l e w':=by
 subst hn;have hlt:=h.y;have L:Below w.heap.size w (w.alloc (K #[Z U 0 0,Z U 0 0] 354)):=(ar _ _).alloc (ak _) _;have adB:vY w S g m s l 0 (w.alloc (K #[Z U 0 0,Z U 0 0] 354)):=⟨⟨fun k=>S k∧k<w.heap.size,fun k=>w.heap.size<=k,(h.j (fun k hk e=>⟨e,hk⟩)).jK L,⟨_,_,_,_,fU.jK w⟩,fun i e e2=>by have:=e.2;omega,fun i e=>A e.1,fun i e=>e⟩,am.f L⟩;have HB:=hB;have N:=aa hG;have HBo:=aa tL
 have HMe:=h.B;go_enter func284,ntmps284;go_wp2;go_loopw [11] (fun vi wr=>∃k:Nat,k<=l.length∧vi=I J k∧vY w S g m s l k wr) (fun vi _=>l.length-(intOf vi).toNat)
 case atStart=>exact⟨0,ax _,rfl,adB⟩
 case round =>
  obtain⟨k,hk,rfl,T⟩:=hrel;obtain⟨S',f,j,Ga,y,z,Qf⟩:=T.c;have B:=T.b;have htk:(l.take k).length<=20000:=by rw[bU];omega
  have mH:=J0 (by have:=N.o.b;omega) N.o.a (l.take k);have hh:=N.o.a.a;have hsh:=N.o.c;have v:ej wr (fun i=>f i∧i<wr.heap.size) w.heap.size (dA gN (cu m s (l.take k))):=Ga.f (fun i hi e=>⟨e,hi⟩);have MN:=Ei wr _ w.heap.size _ v (by omega);have RX:Hid (∀(w':X) (ao bo:ag) (C bc:Nat),cu m s l=cu m s (l.take k)->cZ m s l=cZ m s (l.take k)->fU w' (ay (fun i=>f i∧i<wr.heap.size) wr) w.heap.size ao C bo bc ⟨fE (dA gN (cu m s (l.take k))),[]⟩->am (fun i=>f i∧i<wr.heap.size) wr w'->An w S g m s l (Y (Z ao (fE (dA gN (cu m s (l.take k)))).length C)) w'):=fun w' ao bo C bc ho hf hR x=>vY.a j y z Qf B ho hf hR x;by_cases q:k<l.length
  . obtain⟨bb,oo,rfl,_⟩:=HB.r (by omega);have hne:l≠[]:=by intro e;subst e;simp at q
    obtain⟨b2,o2,D,W⟩:=(HB.y B (fun a e=>HBo.o hne a e)).r (by omega);injection D with D;injection D with hb2 ho2;subst hb2;subst ho2;have ck:=W k q;have hlt':(k:Int)<l.length:=by omega
    have hcap:=HB.1;obtain⟨c4,c5,c6,fz⟩:=j.a;by_cases p:iJ (cZ m s (l.take k))
    . have hG':=N.o.f (l.take k);have sQ:=RQ wr S' f g w.heap.size m _ l[k] _ j p hG' Ga y (by omega) (by omega);have MO:∀w',lX wr S' f g w.heap.size m (cB m (cZ m s (l.take k)) l[k]).1 (dA (dA gN (cu m s (l.take k))) (cB m (cZ m s (l.take k)) l[k]).2) w'->vY w S g m s l (k+1) w':=fun w' hw=>vY.f q z Qf B hw;have t0:(((cZ m s (l.take k)).g:Int) != 0)=F:=by rw[p.1];rfl
      have t6:(((cZ m s (l.take k)).b:Int)==6)=F:=by rw[aQ];have:=p.2;omega
      have ail:=j.B;have ain:=aa j.y
      have hes:(dA gN (cu m s (l.take k))).b.length<=80000:=by omega
      generalize dA gN (cu m s (l.take k))=td at *;generalize cZ m s (l.take k)=G at *;generalize l[k]=cb at *;clear j Ga y z Qf mH v W p T MN RX hG';go_wp2_with fail;refine sQ.mono ?_;intro e w1 hTk;cases hTk with
      | ok he hW =>
        subst he;have HW:=MO w1 hW;go_wp2;go_roundw
        case rel=>exact⟨k+1,by omega,by go_num,HW⟩
        case measure=>simp[intOf];omega
      | fail kk hkk hN he T =>
        subst he;have tk:((kk:Int) != 0)=true:=by rw[di];omega
        obtain⟨MK,sk,ln,ah,pl,pt,cd,fo,nf,gy,c,sU,hd1,Bc,hT1⟩:=T;have q0:=c.y;have q1:=c.H;have q2:=c.mI;have q3:=c.jY;have q4:=c.B;have q5:=c.G;have q6:=c.kU
        have f0:=c.a 0;have f1:=c.a 1;have f2:=c.a 2;have f3:=c.a 3;have f4:=c.a 4;have f5:=c.a 5;have f6:=c.a 6
        obtain⟨ZL,Fa⟩:=c.nT 0 (kk:Int);have hO7:=(sU.f (S':=fun i=>MK i∧i<w1.heap.size) (fun i hi e=>⟨e,hi⟩)).a Fa (fun i e e2=>by subst e2;exact hd1 e.1);have HAd:=yt _ _ w.heap.size td 4 ⟨#[]⟩ ⟨#[]⟩ ⟨#[]⟩ (kk:Int) hO7 (by decide) (by have:=hes;omega);have RH:=ZL;have YD:=aa Fa;have HK:Hid (kk≠0∧¬MK g∧(∀i,MK i->f i∨wr.heap.size<=i)):=⟨hkk,hd1,Bc⟩;have HT1:=aa hT1;have HN:=aa hN
        go_wp2_with fail;refine HAd.mono ?_;rintro e H ⟨rfl,v,x⟩;have hW:=Qp (m:=m) HK.o.1 ail HK.o.2.1 HK.o.2.2 HT1.o RH YD.o ain.o v x;have HW:=MO H (by rw[HN.o];exact hW);go_wp2;go_roundw
        case rel=>exact⟨k+1,by omega,by go_num,HW⟩
        case measure=>simp[intOf];omega
    . have hdr:=DR (m:=m) (l.drop k) p;have d:cu m s l=cu m s (l.take k)∧cZ m s l=cZ m s (l.take k):=by
       constructor
       . conv=>lhs;rw[<-iN k l,DP,hdr.1,fK]
       . conv=>lhs;rw[<-iN k l,zG,hdr.2]
      generalize fE (dA gN (cu m s (l.take k)))=fl at *;generalize hfo:cZ m s (l.take k)=G at *;generalize l[k]=cb at *;by_cases hc0:G.g=0
      . have t0:((G.g:Int) != 0)=F:=by rw[hc0];rfl
        have h6:G.b=6:=by
         rcases Nat.decEq G.b 6 with e | e
         . exact absurd ⟨hc0,e⟩ p
         . exact e
        have t6:((G.b:Int)==6)=true:=by rw[h6];rfl
        go_wp2_with fail;refine MN.mono ?_;rintro e H ⟨jZ,b,vG,r,rfl,t,x⟩;have u:=RX.o H jZ vG b r d.1 d.2 t x;go_wp2;go_ret;exact u
      . have t0:((G.g:Int) != 0)=true:=by rw[di];omega
        go_wp2_with fail;refine MN.mono ?_;rintro e H ⟨jZ,b,vG,r,rfl,t,x⟩;have u:=RX.o H jZ vG b r d.1 d.2 t x;go_wp2;go_ret;exact u
  . obtain rfl:k=l.length:=by omega
    have d:Hid (cu m s l=cu m s (l.take l.length)∧cZ m s l=cZ m s (l.take l.length)):=by
     unfold Hid;rw[eQ];exact⟨rfl,rfl⟩
    generalize fE (dA gN (cu m s (l.take l.length)))=fl at *;go_wp2_with fail;refine MN.mono ?_;rintro e H ⟨jZ,b,vG,r,rfl,t,x⟩;have u:=RX.o H jZ vG b r d.o.1 d.o.2 t x;go_wp2;go_ret;exact u
def pL (m:ab)(k j:Nat):Value:=if j<=k then Hh m j else I J 0
def vS (w:X)(lo g gb:Nat)(m:ab)(mo:ag)(cap k:Nat):Prop :=
 w.heap[g]? = M (K #[Z mo m.length cap,Z (M ⟨gb,0,U⟩) m.length m.length,I J 0] 378 (0,0)) ∧
  bl w lo 5 mo cap m∧w.rowIs gb 3 m.length (pL m k)∧lo<=g∧lo<=gb
theorem Ik (m:ab)(j:Nat):Value.int J 0=pL m 1 j:=by
 unfold pL;split
 . have e:j=0∨j=1:=by omega
   rcases e with rfl | rfl <;> rfl
 . rfl
theorem Tf {w a:X}{m:ab}{ao:ag}{cap:Nat}(d:bl a w.heap.size 5 ao cap m)(b:Below w.heap.size w a):
 vS ((a.alloc (K (madeCells #[I J 0] m.length) 3)).alloc (K #[Z ao m.length cap,Z (M ⟨a.heap.size,0,U⟩) m.length m.length,I J 0] 378)) w.heap.size (a.heap.size+1) a.heap.size m ao cap 1 ∧
 Below w.heap.size w ((a.alloc (K (madeCells #[I J 0] m.length) 3)).alloc (K #[Z ao m.length cap,Z (M ⟨a.heap.size,0,U⟩) m.length m.length,I J 0] 378)):=by
 have c:=b.size;refine⟨⟨?_,(d.r _).r _,((World.rowIs_made a _ _ _).alloc _).congr (fun j _=>Ik m j),by omega,c⟩,(b.alloc c _).alloc (by simp;omega) _⟩;have:=aX (a.alloc (K (madeCells #[I J 0] m.length) 3)) (K #[Z ao m.length cap,Z (M ⟨a.heap.size,0,U⟩) m.length m.length,I J 0] 378);simpa using this
theorem Tg {w a:X}{m:ab}{ao:ag}{cap:Nat}(c:bl a (w.alloc (K (madeCells #[I J 0] m.length) 3)).drew.heap.size 5 ao cap m)(b:Below (w.alloc (K (madeCells #[I J 0] m.length) 3)).drew.heap.size (w.alloc (K (madeCells #[I J 0] m.length) 3)).drew a):
 vS (a.alloc (K #[Z ao m.length cap,Z (M ⟨w.heap.size,0,U⟩) m.length m.length,I J 0] 378)) w.heap.size a.heap.size w.heap.size m ao cap 1 ∧
 Below w.heap.size w (a.alloc (K #[Z ao m.length cap,Z (M ⟨w.heap.size,0,U⟩) m.length m.length,I J 0] 378)):=by
 have d:=b.size;have e:(w.alloc (K (madeCells #[I J 0] m.length) 3)).drew.heap.size=w.heap.size+1:=by simp
 rw[e] at c b d;replace b:=(bj _ (w.alloc (K (madeCells #[I J 0] m.length) 3))).trans b;refine⟨⟨aX a _,(c.B (by omega)).r _,(((World.rowIs_made w _ _ _).of_block (b.block _ (by omega))).alloc _).congr (fun j _=>Ik m j),by omega,ak _⟩,(((ar _ _).alloc (ak _) _).trans (b.mono (by omega))).alloc (by omega) _⟩
theorem RR (m:ab)(ao:ag)(cap:Nat)(w:X)(h:aB w ao cap m)(hL:m.length<=1000000):
 Calls prog 318 #[Z ao m.length cap] w fun e w'=>∃g p,e=Y (Q (M ⟨g,0,U⟩))∧ei w' g m 0 p∧w.heap.size<=g∧w.heap.size<=p.a∧(∀a,p.b=M a->w.heap.size<=a.block)∧Below w.heap.size w w':=by
 have hmk:=run_make_row' (P:=prog) 55 3 (I J 0) 8 underlying55 zq rfl J J m.length (by omega) (by omega);go_enter func318,ntmps318;go_upto_region 1 with fail
 go_cut [3] (fun p wc=>∃g c s b,p=Q (M ⟨g,0,U⟩)∧vS wc w.heap.size g c m s b 1∧Below w.heap.size w wc)
 case first =>
  go_region_with (go_at_call 351;refine((fun(W:X) (hW:aB W ao cap m)=>Eh m ao cap W hW (by omega)) _ (by first | exact h | exact h.jY _)).mono ?_;rintro e w1 ⟨gL,b,rfl,hO,D⟩;have HO:=aa hO;have HB:=aa D;clear hO D)
  all_goals (go_wp2_with fail;go_meet;first | exact⟨_,_,_,_,rfl,Tf HO.o ((bj _ w).trans HB.o)⟩ | exact⟨_,_,_,_,rfl,Tg HO.o HB.o⟩)
 case rest =>
  obtain⟨g,c,s,b,rfl,G,D⟩:=hcut;have HP:=aa G;go_wp2;go_loopw [4] (fun t wr=>∃n:Nat,0<n∧n<=m.length+1∧t=I J n∧vS wr w.heap.size g c m s b n∧Below w.heap.size w wr) (fun t _=>m.length+1-(intOf t).toNat)
  case atStart=>exact⟨1,by omega,by omega,rfl,HP.o,D⟩
  case round =>
   obtain⟨n,u,hnl,rfl,G,hb⟩:=hrel;have HP:=aa G;obtain⟨v,y,d,z,f⟩:=G;have c0:=aq wr g 0 _ _ _ v;have c1:=aq wr g 1 _ _ _ v;by_cases H:n+1<m.length
   . obtain⟨i,rfl,_,B⟩:=y.jK (by omega);have cm:=B n (by omega);have cb:wr.cell? ⟨c,n,U⟩=M (I J (iV m n)):=by
      rw[d.cell (by omega)];unfold pL;rw[if_pos (ak _)];rfl
     have cb1:wr.cell? ⟨c,n+1,U⟩=M (I J 0):=by
      rw[d.cell H];unfold pL;rw[if_neg (by omega)]
     have fb1:wr.frozen? ⟨c,n+1,U⟩=F:=d.frozen _;have L:c≠g:=Eo v d (by decide);have C:i≠c:=by
      intro e;subst e;obtain⟨cc,N,_⟩:=d;have:=gH N y (by decide);simp[Value.ownBlock] at this
     have S:=Bb m n u;have l:=aa (FF m (iV m n) m[n] g i c b wr.drew (by omega) (by omega) c0 c1 B (fun j hj0 hjn=>by
      refine(d.cell (show j<m.length by omega)).trans ?_;unfold pL;rw[if_pos (by omega)];rfl))
     rw[<-O3 m n u (by omega)] at l;have T:vS (wr.drew.setCell ⟨c,n+1,U⟩ (I J (iV m (n+1)))) w.heap.size g c m (M ⟨i,0,U⟩) b (n+1)∧Below w.heap.size w (wr.drew.setCell ⟨c,n+1,U⟩ (I J (iV m (n+1)))):=by
      refine⟨⟨?_,?_,(d.set (n+1) (I J (iV m (n+1)))).congr (fun j _=>?_),z,f⟩,(hb.trans (bj _ _)).setCell f _⟩
      . rw[pP _ _ _ _ (fun e=>L e.symm)];exact v
      . exact bl.jY (w:=wr.drew) y ⟨rfl,rfl,rfl,by simp[World.setCell],fun k _ hne=>pP _ _ k _ (fun e=>hne (by rw[e]))⟩ (row:=M c) (fun a e=>by cases e;intro e;injection e with e;exact C e)
      . unfold pL;by_cases e:j=n+1
        . subst e;rw[if_pos rfl,if_pos (ak _)];rfl
        . rw[if_neg e];by_cases e2:j<=n
          . rw[if_pos e2,if_pos (by omega)]
          . rw[if_neg e2,if_neg (by omega)]
     generalize iV m (n+1)=r at l T;generalize iV m n=q at l cb S;generalize m[n]=x at l cm;have ht:decide ((n:Int)+1<m.length)=true:=by rw[bR];omega
     have b1:(n:Int)<m.length:=by omega
     have b2:(n:Int)+1<m.length:=by omega
     have b3:IntKind.i64.wrap ((n:Int)+1)=(n:Int)+1:=ja (by omega) (by omega);have b4:(0:Int)<=(n:Int)+1:=by omega
     have b5:((n:Int)+1).toNat=n+1:=by omega
     have k1:(wr.setCell ⟨c,n+1,U⟩ (I J (r:Int))).cell? ⟨i,n,U⟩=M (I .u8 (x.toNat:Int)):=(sJ wr ⟨c,n+1,U⟩ ⟨i,n,U⟩ _ (fun e=>by injection e with e _ _;exact C e.symm)).trans cm;have k2:(wr.setCell ⟨c,n+1,U⟩ (I J (r:Int))).cell? ⟨c,n,U⟩=M (I J (q:Int)):=(sJ wr ⟨c,n+1,U⟩ ⟨c,n,U⟩ _ (fun e=>by injection e with _ e _;omega)).trans cb;go_wp2;go_region_held3 (fun w'=>w'.cell? ⟨g,0,U⟩=M (Z (M ⟨i,0,U⟩) m.length b)∧w'.cell? ⟨g,1,U⟩=M (Z (M ⟨c,0,U⟩) m.length m.length)∧w'.cell? ⟨i,n,U⟩=M (I .u8 (x.toNat:Int))∧w'.cell? ⟨c,n,U⟩=M (I J (q:Int))) (go_keep) (first | (go_at_call 352;refine l.o.mono ?_;rintro e w' ⟨rfl,rfl⟩))
     all_goals
      go_wp2;go_roundw
      case rel=>exact⟨n+1,by omega,by omega,by go_num,T.1,T.2⟩
      case measure=>simp[intOf];omega
   . have ht:decide ((n:Int)+1<m.length)=F:=by rw[cC];omega
     have l:ei wr g m 0 ⟨s,b,c⟩:=⟨v,y.B (ax _),d.congr (fun j hj=>by unfold pL;rw[if_pos (by omega)])⟩;have HMo:∀a,s=M a->w.heap.size<=a.block:=fun a e=>(y.a a e).1;go_wp2;go_ret;exact⟨g,⟨s,b,c⟩,rfl,l,z,f,HMo,hb⟩
inductive SI (w:X)(l:ab)(e:Ending)(w':X):Prop
 | no (h:iI l=F) (he:e=Y (.tuple #[Q U,I J 5])) (hb:Below w.heap.size w w')
 | yes (h:iI l=true) (g:Nat) (he:e=Y (.tuple #[Q (M ⟨g,0,U⟩),I J 0])) (hF:dK w' (fun k=>w.heap.size<=k) g (fq l) ie) (hb:Below w.heap.size w w')
theorem Mq (s:ae)(w:X):
 Calls prog 283 #[V s] w fun e w'=>SI w s.data.toList e w':=by
 have B:=RS s w;have hl:=cH s;cases m:iI s.data.toList with
 | false =>
   rw[m] at B;go_enter func283,ntmps283;go_wp2_with fail;refine B.mono ?_;rintro e w1 ⟨rfl,i⟩;go_wp2;go_ret2;exact .no m rfl i
 | true =>
   rw[m] at B;obtain⟨D,n⟩:=BT m;rw[hl] at n;obtain⟨G,H,L⟩:=Dr s.data.toList D (by rw[hl];exact n);have hx:((⟨#[13,10,45,45]⟩:ae)++s).data.toList=fq s.data.toList:=by rw[ma];rfl
   have q:=tQ hx;go_enter func283,ntmps283;go_wp2_with fail;refine B.mono ?_;rintro e w1 ⟨rfl,i⟩;obtain⟨N,C,vC,T,r⟩:=xf (P:=prog) w1 ((⟨#[13,10,45,45]⟩:ae)++s) 9 31 5 (by rw[q];unfold maxLen;omega) underlying9 underlying31 underlying5;rw[hx] at r;rw[q] at vC;have Yi:=RR (fq s.data.toList) _ N C r.r (by omega);have t:=au i T;have j:(fq s.data.toList).take 2=[13,10]∧5<=(fq s.data.toList).length∧(fq s.data.toList).length<=74:=⟨G,H,L⟩;have hst:(s.size:Int)<=70:=by omega
   generalize W:fq s.data.toList=mk at *;go_wp2_with fail;refine Yi.mono ?_;rintro e f ⟨g,p,rfl,hSk,hg1,hg2,hg3,u⟩;have d:=hSk;have HG:Hid (C.heap.size<=g∧C.heap.size<=p.a∧∀a,p.b=M a->C.heap.size<=a.block):=⟨hg1,hg2,hg3⟩;have HB3:=aa (au t u)
   have BZ:=u.size;go_wp2_with fail;refine(BF f).mono ?_;rintro e b ⟨rfl,hL,l⟩;have jf:Below b.heap.size b (b.alloc (K #[Q (M ⟨g,0,U⟩),I J 0,Q (M ⟨f.heap.size,0,U⟩),Z U 0 0,I J 0,I J 0,I J 0] 352)):=(ar _ _).alloc (ak _) _;have c:dT (b.alloc (K #[Q (M ⟨g,0,U⟩),I J 0,Q (M ⟨f.heap.size,0,U⟩),Z U 0 0,I J 0,I J 0,I J 0] 352)) b.heap.size (Q (M ⟨g,0,U⟩)) 0 (Q (M ⟨f.heap.size,0,U⟩)) U 0 0 0 0 0:=⟨aX b _⟩;have hz2:=t.size;have hz3:=BZ;have hz4:=l.size;have ame:=d.f;have amf:=d.2.2.lt;have v:jP (b.alloc (K #[Q (M ⟨g,0,U⟩),I J 0,Q (M ⟨f.heap.size,0,U⟩),Z U 0 0,I J 0,I J 0,I J 0] 352)) (fun k=>w.heap.size<=k∧k≠b.heap.size) mk ⟨0,0,0,dw,[],0,0⟩ g f.heap.size p U 0 (fun k=>f.heap.size<=k):=by
    refine⟨(d.a l).a jf,⟨⟨by have:=HG.o.1;omega,by omega⟩,⟨by have:=HG.o.2.1;omega,by omega⟩,fun a e=>⟨by have:=HG.o.2.2 a e;omega,by have:=(d.2.1.a a e).2;omega⟩⟩,⟨by omega,by omega,fun a e=>by have:=(d.2.1.a a e).2;omega⟩,?_,aK.y _ _ _ _,fun a e=>(by cases e)⟩;have:=hL.a (S':=fun k=>(w.heap.size<=k∧k≠b.heap.size)∧f.heap.size<=k) (fun k hk e=>⟨⟨by omega,by omega⟩,e⟩);exact this.f (am.f (S:=fun _=>False) jf) (fun _ _ e=>e)
   have aip:ei (b.alloc (K #[Q (M ⟨g,0,U⟩),I J 0,Q (M ⟨f.heap.size,0,U⟩),Z U 0 0,I J 0,I J 0,I J 0] 352)) g mk 0 p:=v.d;have HSb:=Hw _ b.heap.size g mk p _ c.y c.H (c.a 1) (by omega) aip j.1 (by have:=j.2.1;omega) (by have:=j.2.2;omega);have yG:=c;have aiq:=aa v
   have uh:=au (au HB3.o l) jf;have Hz:w.heap.size<=b.heap.size:=by show _<=_;omega
   go_wp2_with fail;refine HSb.mono ?_;rintro e w6 ⟨w5,rfl,x,y,z⟩;obtain⟨r6,t6⟩:=dK.r (s:=⟨0,0,0,dw,[],0,0⟩) (a2:=2) (S:=fun k=>w.heap.size<=k) ⟨rfl,by decide⟩ Hz yG aiq.o y z;have e6:w5.setCell ⟨b.heap.size,1,U⟩ (I J ((2:Nat):Int))=w6:=x.symm;rw[e6] at r6 t6;have uf:=uh.trans (t6.below (fun k e=>e) uh.size);clear  t6 e6 x y z ;go_wp2;go_ret2;refine .yes m b.heap.size rfl ?_ uf;rw[W];exact r6
theorem bq.jK (W:X)(a:Array Value)(n t:Nat)(b:Nat×Nat){k:Nat}(c:W.heap.size=k):bq (W.alloc (K a t b)) (M ⟨k,0,U⟩) n n a.toList:=by
 subst c;exact bq.j W a n t b
def G5 (w:X)(D:Nat->Prop)(ao:ag)(cap:Nat)(es:List az):Prop :=
 es.length<=cap∧(0<es.length->∃b o,ao=M ⟨b,o,U⟩∧∀j (hj:j<es.length),∃s,He w b (o+j*12) es[j] s∧dL w D s.a s.d es[j].a∧dL w D s.c s.b es[j].c)
theorem lR.f {w:X}{S:Nat->Prop}{k:Nat}{ao:ag}{cap:Nat}{es:List az}(h:lR w S k ao cap es):G5 w S ao cap es:=by
 obtain⟨f,rfl,l,_,m⟩:=h;have g:=l.a;refine⟨g.1,fun n=>?_⟩;obtain⟨b,o,rfl,p⟩:=g.f (by rw[vA];rw[gD] at n;omega);refine⟨b,o,rfl,fun j q=>?_⟩;have c:j<f.length:=by simpa using q
 refine⟨f[j].2,?_⟩;rw[eu];have a:=m _ (fb c);refine⟨⟨fun i u d=>?_,a.c.b,a.b.b,a.d.b⟩,a.b.a (fun _ _ e=>e.1),a.d.a (fun _ _ e=>e.1)⟩;have r:i<12:=(fe.1 d).1;rw[<-tq _ j c i r] at d;have:=p _ _ d;rw[gE];exact this
theorem Oe (w:X)(D:Nat->Prop)(ao:ag)(cap n:Nat)(es:List az)(hE:G5 w D ao cap es)(hn:es.length=n)(hl:n<=100000)(hL:gO es):
 Calls prog 286 #[Z ao n cap] w fun e w'=>∃gL a m,e=Y (Z gL m a)∧nA w D (fF es) gL a m w':=by
 subst hn;have HE:=hE;have HL:=aa hL
 obtain⟨i0,hi0,hz0,hz1,hz2⟩:=info_parts QU;have Hi:=hi0;have lg:=aa hz0;have kZ:=aa hz1;have lq:=aa hz2
 go_enter func286,ntmps286;go_wp2;go_loopw [3,8] (fun vo vi wr=>∃(i m:Nat) (gL:ag) (a:Nat),i<=es.length∧vi=I J i∧vo=Z gL m a∧nA w D (fF (es.take i)) gL a m wr) (fun _ vi _=>es.length-(intOf vi).toNat)
 case atStart=>exact⟨0,0,U,0,ax _,rfl,rfl,nA.B w D⟩
 case round =>
  obtain⟨i,m,gL,a,hi,rfl,rfl,hP⟩:=hrel;have HP:=aa hP;have hml:m<=100000:=by have h1:=hP.a;have y:=Di (es.take i);rw[bU] at y;omega
  by_cases B:i<es.length
  . have hlt':(i:Int)<es.length:=by omega
    obtain⟨b,o,rfl,hEs⟩:=HE.2 (by omega);obtain⟨s,hE,hD1,hD2⟩:=hEs i B;have hcap:=HE.1;have d:=fun y=>Dx _ _ rfl (HL.o.y B y);have H:Hid (fF (es.take (i+1))=fO (fF (es.take i)) es[i]):=by
     unfold Hid;rw[fR B,Dv]
    generalize es[i]=e at *;have c:∀j u,(e.f s)[j]? = M u->wr.cell? ⟨b,o+i*12+j,U⟩=M u:=fun j u L=>(HP.o.below.cell (bY w _ (hE.a j u L))).trans (hE.a j u L);have c0:wr.cell? ⟨b,o+i*12,U⟩=M (I J e.b):=c 0 _ rfl;have c1:wr.cell? ⟨b,o+i*12+1,U⟩=M (V e.i):=c 1 _ rfl;have c2:wr.cell? ⟨b,o+i*12+2,U⟩=M (V e.j):=c 2 _ rfl;have c3:wr.cell? ⟨b,o+i*12+3,U⟩=M (I J e.m):=c 3 _ rfl;have c4:wr.cell? ⟨b,o+i*12+4,U⟩=M (Z s.e e.d.length s.f):=c 4 _ rfl;have c5:wr.cell? ⟨b,o+i*12+5,U⟩=M (I J e.l):=c 5 _ rfl;have c6:wr.cell? ⟨b,o+i*12+6,U⟩=M (Z s.a e.a.length s.d):=c 6 _ rfl;have c7:wr.cell? ⟨b,o+i*12+7,U⟩=M (V e.g):=c 7 _ rfl;have c8:wr.cell? ⟨b,o+i*12+8,U⟩=M (V e.e):=c 8 _ rfl;have c9:wr.cell? ⟨b,o+i*12+9,U⟩=M (V e.h):=c 9 _ rfl;have c10:wr.cell? ⟨b,o+i*12+10,U⟩=M (Z s.c e.c.length s.b):=c 10 _ rfl;have c11:wr.cell? ⟨b,o+i*12+11,U⟩=M (I J e.k):=c 11 _ rfl;have N:dL w D s.a s.d e.a∧dL w D s.c s.b e.c:=⟨hD1,hD2⟩;have jf:Below wr.heap.size wr (wr.alloc (K #[I J e.b,V e.i,V e.j,I J e.m,Z s.e e.d.length s.f,I J e.l,Z s.a e.a.length s.d,V e.g,V e.e,V e.h,Z s.c e.c.length s.b,I J e.k] 98)):=(ar _ _).alloc (ak _) _;have f:=HP.o.f jf;generalize e.d.length=nfl at *;obtain⟨nb,S⟩:∃nb,e.a.length=nb:=⟨_,rfl⟩;obtain⟨z,T⟩:∃z,e.c.length=z:=⟨_,rfl⟩;rw[S] at c6 f;rw[T] at c10 f;have HNb:=S;have air:=aa T
    by_cases C:e.b=5
    . have t5:(e.b==5)=true:=cR.2 C;have l:fO (fF (es.take i)) e=fF (es.take i)++[⟨e.g,e.e,e.h,e.c⟩]:=by unfold fO;rw[if_pos C]
      obtain⟨xs,hO,W⟩:=(f.f ((ar _ _).alloc (ak _) (K #[V e.g,V e.e,V e.h,Z s.c z s.b] 96))).y;have HO:=hO;have HPu:=aa W;have r:=aa (H.o.trans l)
      have xC:Hid (lK ⟨e.g,e.e,e.h,e.c⟩ ⟨s.c,s.b⟩=[V e.g,V e.e,V e.h,Z s.c z s.b]):=by unfold Hid lK;rw[air.o]
      have Cx:w.heap.size<=wr.heap.size:=HP.o.below.size;clear C l hO W d H;generalize e.b=ek at *;go_wp2_with (at_builtin;refine lO rfl (.tmp 16) (.tmp 19) 259 rfl w.heap.size 96 i0 (.agg #[V ⟨#[]⟩,V ⟨#[]⟩,V ⟨#[]⟩,Z U 0 0]) 4 72 underlying259 Hi lg.o kZ.o lq.o rfl (by decide) rfl HO rfl (bq.jK _ _ 1 _ _ (by simp)) rfl (fun u L=>by simp at L;rcases L with rfl | rfl | rfl | rfl <;> rfl) (by omega) (by omega) (by rw[bF,bF];have:=Cx;omega) ?_;intro a3 c3 w3 hO3 hG3 jS;have U7:=aa (HPu.o a3 c3 w3 ⟨e.g,e.e,e.h,e.c⟩ ⟨s.c,s.b⟩ N.2 (by rw[xC.o];exact hO3) hG3);clear hO3 hG3 jS)
      go_roundw
      case rel=>exact⟨i+1,m+1,a3,c3,by omega,by go_num,rfl,by rw[r.o];exact U7.o⟩
      case measure=>simp[intOf];omega
    . have t5:(e.b==5)=F:=aQ.2 C;by_cases y:e.b=2
      . have t2:(e.b==2)=true:=cR.2 y;have t:=d y;obtain⟨qs,p,G⟩:∃qs p,fF (es.take i)=qs++[p]:=by
         rcases mz (fF (es.take i)) with e0 | ⟨q,x,e0⟩
         . rw[e0] at t;simp at t
         . exact⟨q,x,by rw[e0,kW]⟩
        have l:fO (fF (es.take i)) e=qs++[{ p with a:=e.a }]:=by
         unfold fO;rw[if_neg C,if_pos y,G,List.dropLast_concat,sG];rfl
        have r:=H.o.trans l;rw[G] at f;obtain⟨k,rfl⟩:∃k,m=k+1:=⟨m-1,by have h1:=f.a;rw[aD] at h1;simp at h1;omega⟩;obtain⟨g,rfl,⟨v,cv⟩,fv,hc1,hby⟩:=f.r;have U7:=hby e.a s.a s.d nb N.1 HNb.symm;have m0:(0:Int)<=(k:Int):=by omega
        have m1:(k:Int)<(k:Int)+1:=by omega
        have m2:((k+1:Nat):Int)-1=(k:Int):=by omega
        clear C y l d H t G hby
        generalize e.b=ek at *;go_wp2;go_roundw
        case rel=>exact⟨i+1,k+1,M ⟨g,0,U⟩,a,by omega,by go_num,rfl,by rw[r];exact U7⟩
        case measure=>simp[intOf];omega
      . have t2:(e.b==2)=F:=aQ.2 y;have l:fO (fF (es.take i)) e=fF (es.take i):=by unfold fO;rw[if_neg C,if_neg y]
        have r:=H.o.trans l;generalize e.b=ek at *;go_wp2;go_roundw
        case rel=>exact⟨i+1,m,gL,a,by omega,by go_num,rfl,by rw[r];exact f⟩
        case measure=>simp[intOf];omega
  . obtain rfl:i=es.length:=by omega
    go_wp2;go_ret;refine⟨gL,a,m,rfl,?_⟩;have:=HP.o;rw[eQ] at this;exact this
inductive SJ (w:X)(s l:ab)(e:Ending)(w':X):Prop
 | no (c:Nat) (hc:c≠0) (h:iI s=F∧c=5∨iI s=true∧mN (cZ (fq s) ie l)=c) (he:e=Y (.tuple #[Z U 0 0,I J (c:Int)])) (hb:Below w.heap.size w w')
 | yes (hm:iI s=true) (h:mN (cZ (fq s) ie l)=0) (w1:X) (hz:w.heap.size<=w1.heap.size) (ao:ag) (cap n:Nat) (he:e=Y (.tuple #[Z ao n cap,I J 0])) (hP:nA w1 (fun k=>w.heap.size<=k) (fF (gr (cu (fq s) ie l))) ao cap n w') (hb:Below w.heap.size w w')
theorem vT {s:ab}(h:iI s=true):vd (fq s) ie:=by
 obtain⟨d,e⟩:=BT h;obtain⟨a,b,c⟩:=Dr s d e;exact⟨ia.H (by omega),a,b,by omega,ak _⟩
theorem RT (s:ae)(l:ab)(bo:ag)(fZ n:Nat)(w:X)(hB:aB w bo fZ l)(hn:l.length=n)(hl:n<=20000):
 Calls prog 231 #[V s,Z bo n fZ] w fun e w'=>SJ w s.data.toList l e w':=by
 have D:=hB;have G:=aa hn
 go_enter func231,ntmps231;go_wp2_with fail;refine(Mq s w).mono ?_;intro e w1 v;cases v with
 | no t d f =>
   subst d;have c:=t;have j:=aa f
   go_wp2;go_ret2;exact .no 5 (by decide) (A ⟨c,rfl⟩) rfl j.o
 | yes t g d v f =>
   subst d;have hz:=f.size;have c:=t;have j:=aa f
   have tL:l≠[]->∀a,bo=M a->¬w.heap.size<=a.block:=fun x a ea=>by
    subst ea;have hp:=kY.2 x;have:=bY w _ (D.j 0 hp);rw[oc] at this;omega
   go_wp2_with fail;refine(LG w1 _ g (fq s.data.toList) ie l bo fZ n v (vT t) (D.a f) tL G.o hl).mono ?_;rintro e H ⟨ao,y,k,S',So',d,L,N,S,hd,hS,p,T⟩;subst d;have b:=j.o.trans (T.below (B:=w.heap.size) (fun k e=>e) j.o.size);have xC:=QH H S' g _ _ N;have mH:=wQ (by have:=(vT c).b;omega) l (vT c).a;have z:=BE (cu (fq s.data.toList) ie l);have hk4:k<=40000:=by have:=G.o;omega
   have ZP:=Oe H (fun k=>w.heap.size<=k) ao y k _ (S.r.a (fun i _ e=>cq j.o.size (p i e))).f L.symm (by omega) (Ki _ _);clear L N S hd hS p T mH z;generalize q:mN (cZ (fq s.data.toList) ie l)=u at *;go_wp2_with fail;refine xC.mono ?_;rintro e w3 ⟨rfl,hw⟩;subst hw;by_cases C:u=0
   . have tc:((u:Int) != 0)=F:=by rw[C];rfl
     go_wp2_with fail;refine ZP.mono ?_;rintro e w4 ⟨gL,r,m,rfl,W⟩;go_wp2;go_ret2;exact .yes c (q.trans C) w3 b.size gL r m rfl W (au b W.below)
   . have tc:((u:Int) != 0)=true:=by rw[di];omega
     go_wp2;go_ret2;exact .no u C (R ⟨c,q⟩) rfl b
structure ot (S:Nat->Prop)(tO:Nat)(w:X)(g:Nat)(s:aA)(w':X):Prop where
 b:gI w' (ay S w) tO 92 5 g s
 c:am S w w'
theorem ot.a {S:Nat->Prop}{a g:Nat}{w b w':X}{s:aA}(c:Below w.heap.size w b)(h:ot S a b g s w'):ot S a w g s w':=by
 have d:=c.size;refine⟨h.b.f (fun k _ e=>?_),(am.f c).a h.c (fun _ e _=>e)⟩;rcases e with e | e
 . exact A e
 . exact R (by omega)
theorem Su {s:aA}{e:aH}(h:e.b=1):(dF s e).1=(eZ s e.n (gA e.c)).1:=by unfold dF;rw[if_pos h];rfl
theorem Sv {s:aA}{e:aH}(h:e.b=2):dF s e=iL s e.a (nU s e.a) e.c:=by unfold dF;rw[if_neg (by omega),if_pos h]
theorem Sw {s:aA}{e:aH}(h:e.b=3):dF s e=lC s e.a e.n:=by unfold dF;rw[if_neg (by omega),if_neg (by omega),if_pos h]
theorem Sy {s:aA}{e:aH}(h:e.b=4):dF s e=mt s e.a:=by unfold dF;rw[if_neg (by omega),if_neg (by omega),if_neg (by omega),if_pos h]
theorem Sz {s:aA}{e:aH}(h:e.b=5):dF s e=kh s e.a:=by unfold dF;rw[if_neg (by omega),if_neg (by omega),if_neg (by omega),if_neg (by omega),if_pos h]
theorem SA {s:aA}{e:aH}(h:e.b=6):dF s e=lD s e.a:=by unfold dF;rw[if_neg (by omega),if_neg (by omega),if_neg (by omega),if_neg (by omega),if_neg (by omega)]
theorem SB (s:aA)(S:Nat->Prop)(g:Nat)(x:aH)(N:ag)(G T:Nat)(w:X)(h:cD w S g s)(ok:cN s)(hl:s.a<=1000000)(hT:aB w N T x.c)(H:x.c.length=G)(hN:G<=1000000)(hk:1<=x.b∧x.b<=6):
 Calls prog 186 #[Q (M ⟨g,0,U⟩),.agg #[I J x.b,I J x.a,I J x.n,Z N G T]] w fun e w'=>e=Y (.tuple #[])∧ot S 141 w g (dF s x).1 w':=by
 have B:=(ar _ w).alloc (ak _) (K #[I J x.b,I J x.a,I J x.n,Z N G T] 264);have t:=h.a B;have f:=hT.a B;obtain⟨⟨D,x1,x2,x3⟩,_⟩:=dU (aX w (K #[I J x.b,I J x.a,I J x.n,Z N G T] 264));obtain⟨W,L⟩:∃W,(w.alloc (K #[I J x.b,I J x.a,I J x.n,Z N G T] 264))=W:=⟨_,rfl⟩;have hwl:w.heap.size<W.heap.size:=by rw[<-L];simp
 rw[L] at B t f D x1 x2 x3;have k:=f.H (P:=prog) 31 9 5 underlying31 underlying5 underlying9;rw[H] at k;have r:(gA x.c).size<=1000000:=by rw[GJ];omega
 have HB:=aa B;obtain a | a | a | a | a | a:x.b=1∨x.b=2∨x.b=3∨x.b=4∨x.b=5∨x.b=6:=by omega
 . have y:=aa (B0 s S g x.n (gA x.c) W t ok hl r);have v:=aa (Su (s:=s) a);rw[show(⟨x.c.toArray⟩:ae)=gA x.c from rfl] at k;rw[a] at D L ⊢;clear h ok hl hT H hk f t a B r;generalize eZ s x.n (gA x.c)=q at *;generalize gA x.c=m at *;go_enter func186,ntmps186;go_wp2_with fail;refine y.o.mono ?_;intro e c b;have z:Hid (ot S 141 w g (dF s x).1 c):=ot.a HB.o (by rw[v.o];exact⟨b.b,b.c⟩);obtain⟨rfl,_,_⟩:=b;go_wp2;go_end0
   exact⟨rfl,z.o⟩
 . have v:=aa (Sv (s:=s) a);have HA:Hid (∀c,Below W.heap.size W c->Calls prog 249 #[Q (M ⟨g,0,U⟩),I J x.a,I J (nU s x.a),Z N G T] c (bE S 141 c g (iL s x.a (nU s x.a) x.c))):=fun c d=>BY s S g x.a _ N G T x.c c (t.a d) ok (f.a d) H hN;have xC:Hid (∀c,Below W.heap.size W c->c.cell? ⟨w.heap.size,1,U⟩=M (I J x.a)∧c.cell? ⟨w.heap.size,3,U⟩=M (Z N G T)):=fun c d=>⟨(d.cell (p:=⟨w.heap.size,1,U⟩) hwl).trans x1,(d.cell (p:=⟨w.heap.size,3,U⟩) hwl).trans x3⟩;cases hp:cE s.l x.a with
   | none =>
     have HG:=aa (Ef s S g x.a W t ok hp);rw[Pm hp] at HA v;rw[a] at D L ⊢;clear h ok hl hT H hk f t a B r hp k;generalize iL s x.a _ x.c=q at *;go_enter func186,ntmps186;go_wp2_with fail;refine HG.o.mono ?_;rintro e c ⟨rfl,d⟩;have C:=(ar _ c).alloc (ak _) (K #[I J 0,I J 0,V ⟨#[]⟩,Z U 0 0,I J 0] 92);have j:=au d C;have y:=aa (HA.o _ j);obtain⟨y1,y3⟩:=xC.o _ j;have HB3:=aa (au HB.o j);clear d C j HA xC D x1 x2 x3;go_wp2_with fail;refine y.o.mono ?_;intro e w4 b;have z:Hid (ot S 141 w g (dF s x).1 w4):=ot.a HB3.o (by rw[v.o];exact⟨b.b,b.c⟩);obtain⟨rfl,_,_⟩:=b;go_wp2;go_end0
     exact⟨rfl,z.o⟩
   | some i =>
     have hi:=mu hp;have HG:=aa (yF s S g x.a i W t ok hp hi);have hL:nU s x.a=s.l[i].b.length:=GH hp;rw[hL] at HA v;rw[a] at D L ⊢;clear h ok hl hT H hk f t a B r hp k hL;generalize s.l[i]=u at *;generalize iL s x.a _ x.c=q at *;go_enter func186,ntmps186;go_wp2_with fail;refine HG.o.mono ?_;rintro e c ⟨bo,bc,rfl,_,d⟩;have C:=(ar _ c).alloc (ak _) (K #[I J u.c,I J u.a,V u.d,Z bo u.b.length bc,I J u.e] 92);have j:=au d C;have y:=aa (HA.o _ j);obtain⟨y1,y3⟩:=xC.o _ j;have HB3:=aa (au HB.o j);clear d C j HA xC D x1 x2 x3;go_wp2_with fail;refine y.o.mono ?_;intro e w4 b;have z:Hid (ot S 141 w g (dF s x).1 w4):=ot.a HB3.o (by rw[v.o];exact⟨b.b,b.c⟩);obtain⟨rfl,_,_⟩:=b;go_wp2;go_end0
     exact⟨rfl,z.o⟩
 . have y:=aa (Ii s S g x.a x.n W t ok);have v:=aa (Sw (s:=s) a);rw[a] at D L ⊢;clear h ok hl hT H hk f t a B r k;generalize lC s x.a x.n=q at *;go_enter func186,ntmps186;go_wp2_with fail;refine y.o.mono ?_;intro e c b;have z:Hid (ot S 141 w g (dF s x).1 c):=ot.a HB.o (by rw[v.o];exact⟨b.b,b.c⟩);obtain⟨rfl,_,_⟩:=b;go_wp2;go_end0
   exact⟨rfl,z.o⟩
 . have y:=aa (Ed s S g x.a W t ok);have v:=aa (Sy (s:=s) a);rw[a] at D L ⊢;clear h ok hl hT H hk f t a B r k;generalize mt s x.a=q at *;go_enter func186,ntmps186;go_wp2_with fail;refine y.o.mono ?_;intro e c b;have z:Hid (ot S 141 w g (dF s x).1 c):=ot.a HB.o (by rw[v.o];exact⟨b.b,b.c⟩);obtain⟨rfl,_,_⟩:=b;go_wp2;go_end0
   exact⟨rfl,z.o⟩
 . have y:=aa (DU s S g x.a W t ok);have v:=aa (Sz (s:=s) a);rw[a] at D L ⊢;clear h ok hl hT H hk f t a B r k;generalize kh s x.a=q at *;go_enter func186,ntmps186;go_wp2_with fail;refine y.o.mono ?_;intro e c b;have z:Hid (ot S 141 w g (dF s x).1 c):=ot.a HB.o (by rw[v.o];exact⟨b.b,b.c⟩);obtain⟨rfl,_,_⟩:=b;go_wp2;go_end0
   exact⟨rfl,z.o⟩
 . have y:=aa (E3 s S g x.a W t ok);have v:=aa (SA (s:=s) a);rw[a] at D L ⊢;clear h ok hl hT H hk f t a B r k;generalize lD s x.a=q at *;go_enter func186,ntmps186;go_wp2_with fail;refine y.o.mono ?_;intro e c b;have z:Hid (ot S 141 w g (dF s x).1 c):=ot.a HB.o (by rw[v.o];exact⟨b.b,b.c⟩);obtain⟨rfl,_,_⟩:=b;go_wp2;go_end0
   exact⟨rfl,z.o⟩
theorem S8 {w:X}{ao:ag}{cap:Nat}{l:List aH}(h:rG w ao cap l):l.length<=cap:=by
 obtain⟨b,_,a,_⟩:=h;exact a.1
theorem Te (e:aH):e.c.length<=(aW e).length:=by simp[aW,dQ];omega
theorem SC {b:ab}{e:aH}(h:e∈(ch b).1):e.c.length<=b.length:=by
 obtain⟨_,d,a,_⟩:=Ar _ b (ak _);have c:(aW e).length<=(((ch b).1.map aW).flatten).length:=(List.sublist_flatten_of_mem (List.mem_map_of_mem h)).length_le;rw[a,bU] at c;have:=Te e;omega
theorem SD {b:ab}{e:aH}(h:e∈(ch b).1):1<=e.b∧e.b<=6:=by
 obtain⟨a,_⟩:=Ar _ b (ak _);exact((uq e).1 (a e h)).1
theorem N7 (l:List aH)(ao:ag)(cap n:Nat)(w:X)(u:rG w ao cap l)(T:l.length=n)(hN:n<=1000000)(z:∀e∈l,(1<=e.b∧e.b<=6)∧e.c.length<=1000000):
 Calls prog 129 #[Z ao n cap] w fun e w'=>∃g,e=Y (Q (M ⟨g,0,U⟩))∧cD w' (fun k=>w.heap.size<=k) g (gY fa l)∧Below w.heap.size w w':=by
 subst T;have W:=aa (EY w);have HE:=aa u;have B:=S8 u;have HF:=aa z;clear u z;go_enter func129,ntmps129;go_wp2_with fail;refine W.o.mono ?_;rintro e w1 ⟨rfl,d,C⟩;have HS:=aa d;have HB:=aa C
 clear d C;go_wp2;go_loopw [9] (fun t wr=>∃k:Nat,k<=l.length∧t=I J k∧cD wr (fun k=>w.heap.size<=k) w.heap.size (gY fa (l.take k))∧Below w.heap.size w wr) (fun t _=>l.length-(intOf t).toNat)
 case atStart=>exact⟨0,ax _,rfl,by rw[List.take_zero];exact HS.o,HB.o⟩
 case round =>
  obtain⟨k,hk,rfl,d,D⟩:=hrel;have a:=aa d;have b:=aa D
  clear d D;by_cases c:k<l.length
  . obtain⟨bb,oo,q,rfl,hc0,hc1,hc2,hc3,f⟩:=(HE.o.f b.o).a k c;have G:(k:Int)<l.length:=by omega
    have v:=HF.o _ (fb c);have s:=(ar _ wr).alloc (ak _) (K #[I J l[k].b,I J l[k].a,I J l[k].n,Z q.a l[k].c.length q.b] 264);have i:cN (gY fa (l.take k)):=Bi _ cN.r;have m:(gY fa (l.take k)).a<=1000000:=by
     have:=Bh (l.take k) fa;rw[bU] at this;have h0:fa.a=0:=rfl;omega
    have H:=aa (SB (gY fa (l.take k)) (fun k=>w.heap.size<=k) w.heap.size l[k] q.a l[k].c.length q.b _ (a.o.a s) i m (f.a s) rfl v.2 v.1);rw[<-Pi fa l k c] at H;have L:=aa s;clear v s i m f a;generalize l[k]=p at *;go_wp2_with fail;refine H.o.mono ?_;rintro e N ⟨rfl,x⟩;have r:=b.o.size;have y:=L.o.size;have S:Hid (cD N (fun k=>w.heap.size<=k) w.heap.size (gY fa (l.take (k+1)))∧Below w.heap.size w N):=by
     refine⟨x.b.f (fun j _ e=>?_),(b.o.trans (L.o.mono r)).trans (x.c.below (fun j e=>e) (by omega))⟩;rcases e with e | e
     . exact e
     . show w.heap.size<=j;omega
    clear x r y;go_wp2;go_roundw
    case rel=>exact⟨k+1,by omega,by go_num,S.o.1,S.o.2⟩
    case measure=>simp[intOf];omega
  . obtain rfl:k=l.length:=by omega
    rw[eQ] at a;go_wp2;go_ret;exact⟨_,rfl,a.o,b.o⟩
structure G3 (S:Nat->Prop)(w:X)(g:Nat)(s:av)(w':X):Prop where
 b:aS w' (ay S w) g s
 a:am S w w'
theorem MI {s:av}{S:Nat->Prop}{g:Nat}{w:X}(h:aS w S g s)(ok:aJ s)(a:Int):
 Calls prog 73 #[Q (M ⟨g,0,U⟩),I J a] w fun e w'=>e=Y (.tuple #[])∧G3 S w g (gV s a) w':=by
 obtain⟨gs,gl,ao,ca,P,hI⟩:=h;obtain⟨⟨c0,c1⟩,_⟩:=ce hI.a;have c:s.b+jv a (s.a.length-s.b)=dJ s a:=rfl;have hll:=Pv ok.d a;have mH:=ok.b;obtain⟨hd1,i,y⟩:=GM s a;have HC:=aa (L3 hI.b a);rw[c] at HC;have z:(s.a.take (dJ s a)).length=dJ s a:=by rw[bU];omega
 have HK:Hid (∀e∈(ch (s.a.take (dJ s a))).1,(1<=e.b∧e.b<=6)∧e.c.length<=1000000):=fun e he=>⟨SD he,by have:=SC he;omega⟩;have Mw:Hid (gV s a=⟨gY fa (ch (s.a.take (dJ s a))).1,(s.a.take (dJ s a)).take (ch (s.a.take (dJ s a))).2,(ch (s.a.take (dJ s a))).2⟩):=by
  show _=_;rw[List.take_take,pN i];rfl
 have HI:=aa hI;have hn5:dJ s a<=100000:=by omega
 clear hI c hll ok hd1;generalize s.a.take (dJ s a)=b at *;generalize dJ s a=n at *;subst z;clear mH;go_enter func73,ntmps73;go_wp2_with fail;refine HC.o.mono ?_;rintro e w1 ⟨rfl,q,B⟩;obtain⟨r,C⟩:=HI.o.y q B;obtain⟨⟨c0',c1'⟩,_⟩:=ce r.a;have D:=aa (Ig q);have G:=aa r;have H:=aa C
 clear q B r C c0 c1 HC HI;go_wp2_with fail;refine D.o.mono ?_;rintro e w2 ⟨jZ,ca2,rfl,L,t⟩;have N:=aa (MH b jZ ca2 b.length w2 L rfl (by omega));have T:=aa (G.o.f t);have HT2:Hid (am S w w2):=H.o.a (am.f t) (fun _ e _=>e);clear L t G H D c0' c1';go_wp2_with fail;refine N.o.mono ?_;rintro e w3 ⟨lS,ZO,rfl,W,u⟩;have VR:=T.o.f u;obtain⟨⟨c0,c1⟩,_⟩:=ce VR.a;have hgl:gl<w2.heap.size:=T.o.b.f;have HT3:Hid (am S w w3):=HT2.o.a (am.f u) (fun _ e _=>e);have HE3:=aa W;have j:=aa VR
 clear W u VR N;have l:Hid (∀f,ll f S g gs gl ao ca P ⟨s.h,b.take (ch b).2,(ch b).2⟩->am S w f->lj f (fun k=>w2.heap.size<=k) 264 lS ZO (ch b).1 ->
  f.cell? ⟨g,0,U⟩=M (Q (M ⟨gs,0,U⟩))∧Calls prog 129 #[Z lS (ch b).1.length ZO] f (fun e w'=>∃x,e=Y (Q (M ⟨x,0,U⟩))∧(w'.cell? ⟨g,0,U⟩=M (Q (M ⟨gs,0,U⟩))∧w'.frozen? ⟨g,0,U⟩=F)∧G3 S w g (gV s a) (w'.setCell ⟨g,0,U⟩ (Q (M ⟨x,0,U⟩))))):=fun f m yX hE4=>by
  refine⟨(ce m.a).1.1,(N7 (ch b).1 lS ZO _ f hE4.r rfl (by omega) HK.o).mono ?_⟩;rintro e w5 ⟨x,rfl,hS5,hb5⟩;obtain⟨hr,hA,PO⟩:=m.r hb5 hS5 (m.b.j hb5) (am.B _ _) (A rfl);refine⟨x,rfl,⟨(ce hr).1.1,(ce hr).2.1⟩,?_,yX.a PO (fun _ e _=>e)⟩;rw[Mw.o];have hsz:=yX.b;refine hA.a (fun k _ e=>?_);rcases e with e | e
  . exact A e
  . exact R (by omega)
 by_cases hcut:(ch b).2<b.length
 . have IQ:=aa (CT j.o.b (ch b).2 hcut);have p:min b.length (ch b).2=(ch b).2:=Nat.min_eq_right i;simp only[p] at IQ;clear p hcut i y HK Mw;generalize (ch b).1=el at *;generalize (ch b).2=dn at *;go_wp2_with fail;refine IQ.o.mono ?_;rintro e f ⟨rfl,hL4,EN⟩;obtain⟨m,yX⟩:=j.o.y hL4 EN;obtain⟨y0,d⟩:=l.o f m (HT3.o.a yX (fun _ e _=>e)) (HE3.o.j EN (fun k e e2=>by subst e2;omega));have v:=aa d;clear hL4 EN m yX d l c0 c1;go_wp2_with fail;refine v.o.mono ?_;rintro e w5 ⟨x,rfl,⟨z0,z1⟩,hF⟩;have HF:=aa hF;clear hF y0;go_wp2;go_end0
   exact⟨rfl,HF.o⟩
 . have IQ:=aa (Er j.o.b ((ch b).2:Int) (by show ¬(_∧_<(b.length:Int));omega));have hdn:(ch b).2=b.length:=by omega
   have m:ll w3 S g gs gl ao ca P ⟨s.h,b.take (ch b).2,(ch b).2⟩:=by
    have:=j.o;rw[hdn,eQ];exact this
   obtain⟨y0,d⟩:=l.o w3 m HT3.o HE3.o;have v:=aa d;clear hcut i y HK Mw d l hdn m;generalize (ch b).1=el at *;generalize (ch b).2=dn at *;go_wp2_with fail;refine IQ.o.mono ?_;rintro e f ⟨rfl,hw⟩;rw[hw];clear hw;go_wp2_with fail;refine v.o.mono ?_;rintro e w5 ⟨x,rfl,⟨z0,z1⟩,hF⟩;have HF:=aa hF;clear hF y0 c0 c1;go_wp2;go_end0
   exact⟨rfl,HF.o⟩
