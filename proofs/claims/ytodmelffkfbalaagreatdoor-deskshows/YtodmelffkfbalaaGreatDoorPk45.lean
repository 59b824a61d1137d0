import Derived.Test.YtodmelffkfbalaaGreatDoorRqA
import Derived.Test.YtodmelffkfbalaaGreatDoorPk39
import Derived.Test.YtodmelffkfbalaaGreatDoorPk38
import Derived.Test.YtodmelffkfbalaaGreatDoorPk27
import Derived.Test.YtodmelffkfbalaaGreatDoorPk35
open Go.Value renaming int->I,string->V,slice->Z,pointer->Q
open Go.IntKind renaming i64->J
open Go.Obj renaming cells->K
open Go.Ending renaming returned->Y
open Option renaming none->U,some->M
open Bool renaming false->F
open Or renaming inl->A,inr->R
open Go renaming World->X
set_option maxHeartbeats 4000000
set_option maxRecDepth 100000
open Go.Proofs.Tryz
namespace Go.Proofs.YtodmelffkfbalaaGreatDoor
open Go.RowKit
structure kV where
 e:Nat
 d:ag
 c:Nat
 a:ag
 b:Nat
def mx (c:cY)(x:kV):List Value:=[Q (M ⟨x.e,0,U⟩),V ⟨c.a.e.toArray⟩,V ⟨c.a.b.toArray⟩,I J (c.a.d:Int),Z x.d c.a.a.length x.c,I J c.a.c,Z x.a c.b.length x.b]
def kX (gs:Nat)(v:Nat->List Value):List Value:=Q (M ⟨gs,0,U⟩)::(v 0++(v 1++(v 2++v 3)))
def ew (c:Nat->cY)(x:Nat->kV):Nat->List Value:=fun k=>mx (c k) (x k)
theorem rA {l:List Value}(h:l.length=7):∃a b a2 c d e f,l=[a,b,a2,c,d,e,f]:=by
 match l,h with
 | [a,b,a2,c,d,e,f],_=>exact⟨a,b,a2,c,d,e,f,rfl⟩
theorem Tm (gs:Nat)(v:Nat->List Value)(a:∀k,k<4->(v k).length=7){k:Nat}(b:k<4){j:Nat}(c:j<7):(kX gs v).toArray[1+k*7+j]? = (v k)[j]?:=by grind [kX]
theorem SU (gs:Nat)(v:Nat->List Value)(a:∀k,k<4->(v k).length=7){k:Nat}(f:k<4){j:Nat}(g:j<7)(u:Value):(kX gs v).set (1+k*7+j) u=kX gs (bJ v k ((v k).set j u)):=by
 obtain⟨i,l,m,n,o,p,q,b⟩:=rA (a 0 (by omega));obtain⟨r,s,t,w,x,y,z,c⟩:=rA (a 1 (by omega));obtain⟨B,C,D,G,H,L,N,d⟩:=rA (a 2 (by omega));obtain⟨S,T,W,s3,s4,s5,s6,e⟩:=rA (a 3 (by omega));obtain rfl | rfl | rfl | rfl:k=0∨k=1∨k=2∨k=3:=by omega
 . show _=Q (M ⟨gs,0,U⟩)::((v 0).set j u++(v 1++(v 2++v 3)));unfold kX;rw[b,c,d,e];obtain rfl | rfl | rfl | rfl | rfl | rfl | rfl:j=0∨j=1∨j=2∨j=3∨j=4∨j=5∨j=6:=by omega
   all_goals rfl
 . show _=Q (M ⟨gs,0,U⟩)::(v 0++((v 1).set j u++(v 2++v 3)));unfold kX;rw[b,c,d,e];obtain rfl | rfl | rfl | rfl | rfl | rfl | rfl:j=0∨j=1∨j=2∨j=3∨j=4∨j=5∨j=6:=by omega
   all_goals rfl
 . show _=Q (M ⟨gs,0,U⟩)::(v 0++(v 1++((v 2).set j u++v 3)));unfold kX;rw[b,c,d,e];obtain rfl | rfl | rfl | rfl | rfl | rfl | rfl:j=0∨j=1∨j=2∨j=3∨j=4∨j=5∨j=6:=by omega
   all_goals rfl
 . show _=Q (M ⟨gs,0,U⟩)::(v 0++(v 1++(v 2++(v 3).set j u)));unfold kX;rw[b,c,d,e];obtain rfl | rfl | rfl | rfl | rfl | rfl | rfl:j=0∨j=1∨j=2∨j=3∨j=4∨j=5∨j=6:=by omega
   all_goals rfl
theorem vX (c:Nat->cY)(x:Nat->kV)(k:Nat)(a:cY)(b:kV):ew (bJ c k a) (bJ x k b)=bJ (ew c x) k (mx a b):=by
 funext i;unfold ew bJ;split <;> rfl
structure gn (w:X)(g gs:Nat)(v:Nat->List Value):Prop where
 c:w.heap[g]? = M (K (kX gs v).toArray 89 (0,0))
 b:∀k,k<4->(v k).length=7
theorem gn.r {w:X}{g gs:Nat}{v:Nat->List Value}(h:gn w g gs v):w.cell? ⟨g,0,U⟩=M (Q (M ⟨gs,0,U⟩)):=aq w g 0 _ _ _ h.c
theorem gn.a {w:X}{g gs:Nat}{v:Nat->List Value}(h:gn w g gs v){k:Nat}(a:k<4){j:Nat}(b:j<7){u:Value}(c:(v k)[j]? = M u):w.cell? ⟨g,1+k*7+j,U⟩=M u:=by
 rw[aq w g _ _ _ _ h.c,Tm gs v h.b a b];exact c
theorem gn.f {w:X}{g gs:Nat}{v:Nat->List Value}(h:gn w g gs v)(j:Nat):w.frozen? ⟨g,j,U⟩=F:=aP w g j _ _ h.c
theorem gn.j {w:X}{g gs:Nat}{v:Nat->List Value}(h:gn w g gs v):g<w.heap.size:=(bM.1 h.c).1
theorem gn.e {w:X}{g gs:Nat}{v:Nat->List Value}(h:gn w g gs v){k:Nat}(a:k<4){j:Nat}(b:j<7)(u:Value):gn (w.setCell ⟨g,1+k*7+j,U⟩ u) g gs (bJ v k ((v k).set j u)):=by
 refine⟨?_,fun i c=>?_⟩
 . rw[aR w g _ _ _ _ h.c];congr 2;rw[<-SU gs v h.b a b];simp
 . unfold bJ;split
   . rw[pP];exact h.b k a
   . exact h.b i c
inductive lZ
 | row
 | jc
 | rq (k:Nat)
 | fl (k:Nat)
 | bd (k:Nat)
 | ret
 | out
def fM (g gs:Nat)(s:av)(v:Nat->List Value)(n:Nat)(c:Nat->cY)(x:Nat->kV)(z:Nat->dB)(o:dB):lZ->dB
 | .row=>fun w S=>gn w g gs v∧S g
 | .jc=>fun w S=>aT w S gs s
 | .rq k=>fun w S=>k<n->dN w S (x k).e (c k).c
 | .fl k=>fun w S=>(k<n->jt w S (x k).d (x k).c (c k).a.a.length (aJ (cf (c k).a.a)))∧z k w S
 | .bd k=>fun w S=>k<n->bI w S 5 (x k).a (x k).b (c k).b
 | .ret=>o
 | .out=>fun _ _=>True
theorem li {g gs:Nat}{s:av}{v:Nat->List Value}{n:Nat}{c:Nat->cY}{x:Nat->kV}{z:Nat->dB}{o:dB}(f:∀k,bK (z k))(i:bK o):∀d,bK (fM g gs s v n c x z o d)
 | .row=>⟨fun h e a=>⟨⟨e.q h.1.c (a g h.2),h.1.b⟩,h.2⟩,fun h a=>⟨h.1,a g h.1.j h.2⟩⟩
 | .jc=>⟨fun h e a=>aT.f h e a,fun h a=>aT.a h a⟩
 | .rq _=>⟨fun h e a b=>(h b).e e a,fun h a b=>(h b).a a⟩
 | .fl k=>⟨fun h e a=>⟨fun b=>(h.1 b).e e a,(f k).c h.2 e a⟩,fun h a=>⟨fun b=>(h.1 b).f a,(f k).b h.2 a⟩⟩
 | .bd _=>⟨fun h e a b=>(h b).a e a,fun h a b=>(h b).f a⟩
 | .ret=>i
 | .out=>bK.a
def ji:Nat->dB:=fun _ _ _=>True
def eK:dB:=fun _ _=>True
def gj (w:X)(S:Nat->Prop)(g gs:Nat)(s:av)(c:Nat->cY):Prop:=∃κ x,eQ (fM g gs s (ew c x) 4 c x ji eK) κ w∧∀k,κ k≠.out->S k
section
variable {w w':X} {S S':Nat->Prop} {g gs:Nat} {s:av} {c:Nat->cY}
theorem gj.e (h:gj w S g gs s c)(f:ak S' w w')(i:∀k,S k->¬S' k):gj w' S g gs s c:=by
 obtain⟨j,x,l,a⟩:=h;refine⟨j,x,fun d=>?_,a⟩;by_cases b:d=.out
 . subst b;exact trivial
 . exact(li (fun _=>bK.a) bK.a d).c (l d) f (fun k e=>i k (a k (by rw[e];exact b)))
theorem gj.j (h:gj w S g gs s c)(a:Below w.heap.size w w'):gj w' S g gs s c:=h.e (ak.e (S:=fun _=>False) a) (fun _ _ e=>e)
theorem gj.a (h:gj w S g gs s c)(f:∀k,k<w.heap.size->S k->S' k):gj w S' g gs s c:=by
 obtain⟨i,x,j,l⟩:=h;refine⟨cy i w.heap.size .out,x,fun d=>?_,fun k a=>?_⟩
 . by_cases m:d=.out
   . subst m;exact trivial
   . exact(li (fun _=>bK.a) bK.a d).b (j d) (fun k a e=>(fg a).trans e)
 . rcases eI k w.heap.size with b | b
   . rw[fg b] at a;exact f k b (l k a)
   . exact absurd (pW b) a
end
theorem Q3 (a b:ae):(a.toList==b.toList)=decide (a.data.toList=b.data.toList):=by
 rw[Lib.toList_data,Lib.toList_data,ix];simp
theorem gH.y {w:X}{S:Nat->Prop}{a c d g:Nat}{s:aB}(h:gH w S a c d g s)(v:Int):gH (w.setCell ⟨g,1,U⟩ (I J v)) S a c d g ⟨s.l,v⟩∧ak (fun k=>k=g) w (w.setCell ⟨g,1,U⟩ (I J v)):=by
 obtain⟨i,b,j,m,n⟩:=h;have f:ak (fun k=>k=g) w (w.setCell ⟨g,1,U⟩ (I J v)):=ak.j (fun k=>k=g) w _ _ rfl;exact⟨⟨i,b,aR w g 1 _ a _ j,m,n.q f (fun k e o=>e.2 o)⟩,f⟩
theorem Em (s:aB)(S:Nat->Prop)(g:Nat)(w:X)(h:cC w S g s)(k:0<=s.a)(l:s.a<=1000000):
 Calls prog 264 #[Q (M ⟨g,0,U⟩)] w fun e w'=>e=Y (I J (s.a+1))∧w'=w:=by
 obtain⟨m,a,b,n,c,d,f,i,j⟩:=h.f;clear j f i b c d h;generalize s.a=t at *;go_enter func264,ntmps264;go_wp2;go_ret;exact⟨rfl,rfl⟩
structure pC (S:Nat->Prop)(tO:Nat)(w:X)(g:Nat)(r:aB×Int×Nat)(e:Ending)(w':X):Prop where
 d:e=Y (.tuple #[I J r.2.1,I J (r.2.2:Int)])
 b:gH w' (ay S w) tO 92 5 g r.1
 c:ak S w w'
theorem pC.a {w w':X}{S:Nat->Prop}{a g:Nat}{s:aB}{c:Nat}(h:gH w S a 92 5 g s)(b:Below w.heap.size w w'){r:aB×Int×Nat}(d:r=(s,0,c)):pC S a w g r (Y (.tuple #[I J 0,I J (c:Int)])) w':=by
 subst d;exact⟨rfl,(h.a b).e (fun k _ e=>A e),ak.e b⟩
theorem B5 (s:aB)(S:Nat->Prop)(g:Nat)(c:Int)(m:ae)(w:X)(h:cC w S g s)(ok:cM s)(hl:s.a<=1000000)(hm:m.size<=1000000):
 Calls prog 248 #[Q (M ⟨g,0,U⟩),I J c,V m] w (pC S 141 w g (fb s c m)):=by
 have hN:=ok.b;have hl0:=ok.c;obtain⟨ao,cap,c0,c1,f0,f1,hg,hS,hU⟩:=h.f;have hcap:=hU.e;by_cases L:c < -1
 . have y:pC S 141 w g (fb s c m) (Y (.tuple #[I J 0,I J (1:Nat)])) w:=pC.a h (ar _ _) (by unfold fb;rw[if_pos L]);go_enter func248,ntmps248;go_wp2;go_ret2;exact y
 . have n1:decide (c < -1)=F:=by rw[cz];exact L
   by_cases h2:2000<c
   . have y:pC S 141 w g (fb s c m) (Y (.tuple #[I J 0,I J (4:Nat)])) w:=pC.a h (ar _ _) (by unfold fb;rw[if_neg L,if_pos (A h2)]);have n2:decide (c > 2000)=true:=by rw[bN];exact h2
     go_enter func248,ntmps248;go_wp2;go_ret2;exact y
   . have n2:decide (c > 2000)=F:=by rw[cz];exact h2
     by_cases h3:100<m.size
     . have y:pC S 141 w g (fb s c m) (Y (.tuple #[I J 0,I J (4:Nat)])) w:=pC.a h (ar _ _) (by unfold fb;rw[if_neg L,if_pos (R h3)]);have n3:decide ((m.size:Int) > 100)=true:=by rw[bN];omega
       go_enter func248,ntmps248;go_wp2;go_ret2;exact y
     . have n3:decide ((m.size:Int) > 100)=F:=by rw[cz];omega
       have e2:¬(2000<c∨100<m.size):=by omega
       have HV:=rj m w (by unfold maxLen;omega);cases hv:dP m.data.toList with
       | false =>
         rw[hv] at HV;have y:pC S 141 w g (fb s c m) (Y (.tuple #[I J 0,I J (3:Nat)])) w:=pC.a h (ar _ _) (by unfold fb;rw[if_neg L,if_neg e2,if_pos (A hv)]);go_enter func248,ntmps248;go_wp2_with (go_at_call 280;refine HV.mono ?_;rintro e z ⟨rfl,rfl⟩)
         go_ret2;exact y
       | true =>
         rw[hv] at HV;have Cj:=tD m w (by omega);have G:=Q3 ⟨(Lib.trimS m.data.toList bX).toArray⟩ m;obtain⟨T,hT⟩:∃T:ae,T=⟨(Lib.trimS m.data.toList bX).toArray⟩:=⟨_,rfl⟩;have hTd:T.data.toList=Lib.trimS m.data.toList bX:=by rw[hT]
         rw[<-hT] at Cj G;rw[hTd] at G;by_cases h4:Lib.trimS m.data.toList bX=m.data.toList
         . rw[bq h4] at G;have e3:¬(dP m.data.toList=F∨Lib.trimS m.data.toList bX≠m.data.toList):=by rw[hv];simpa using h4
           by_cases h5:12<=s.l.length
           . have y:∀W,Below w.heap.size w W->W.cell? ⟨g,0,U⟩=M (Z ao s.l.length cap)∧pC S 141 w g (fb s c m) (Y (.tuple #[I J 0,I J (8:Nat)])) W:=fun W D=>⟨by rw[D.cell (p:=⟨g,0,U⟩) h.j];exact c0,pC.a h D (by unfold fb;rw[if_neg L,if_neg e2,if_neg e3,if_pos h5])⟩;have n5:decide ((s.l.length:Int)≥12)=true:=by rw[bN];omega
             go_enter func248,ntmps248;go_wp2_with (first | (go_at_call 280;refine HV.mono ?_;rintro e z ⟨rfl,rfl⟩) | (go_at_call 281;refine Cj.mono ?_;rintro e z ⟨rfl,B⟩;obtain⟨d0,hd⟩:=y z B;have HD:=aa hd;clear hd B))
             go_ret2;exact HD.o
           . have n5:decide ((s.l.length:Int)≥12)=F:=by rw[cz];omega
             have Ms:Hid (fb s c m=(⟨s.l++[⟨s.a+1,c,m,[],0⟩],s.a+1⟩,s.a+1,0)):=by unfold fb;rw[if_neg L,if_neg e2,if_neg e3,if_neg h5];exact rfl
             have AB:∀W,Below w.heap.size w W->Calls prog 264 #[Q (M ⟨g,0,U⟩)] W fun e w'=>e=Y (I J (s.a+1))∧w'=W:=fun W D=>Em s S g W (h.a D) hl0 hl;have xE:=fun W=>oZ m W hm;have HC:∀W,Below w.heap.size w W->W.cell? ⟨g,0,U⟩=M (Z ao s.l.length cap)∧W.cell? ⟨g,1,U⟩=M (I J s.a)∧W.frozen? ⟨g,1,U⟩=F:=fun W D=>⟨by rw[D.cell (p:=⟨g,0,U⟩) h.j];exact c0,by rw[D.cell (p:=⟨g,1,U⟩) h.j];exact c1,by rw[D.frozen (p:=⟨g,1,U⟩) h.j];exact f1⟩;go_enter func248,ntmps248;go_wp2_with (first | (go_at_call 280;refine HV.mono ?_;rintro e z ⟨rfl,hw⟩;rw[hw];clear hw) | (go_at_call 281;refine Cj.mono ?_;rintro e z ⟨rfl,B⟩;obtain⟨d0,d1,d2⟩:=HC z B;have HB:=aa B;clear B) | (go_at_call 264;refine(AB _ HB.o).mono ?_;rintro e wn ⟨rfl,hw⟩;rw[hw];clear hw))
             obtain⟨hs2,ht2⟩:=(h.a HB.o).y (s.a+1);have jG:ak S w (z.setCell ⟨g,1,U⟩ (I J (s.a+1))):=(ak.e HB.o).a (ht2.f (fun k e=>by subst e;exact h.f.choose_spec.choose_spec.2.2.2.2.2.1)) (fun _ e _=>e);generalize hw3:z.setCell ⟨g,1,U⟩ (I J (s.a+1))=b at *;obtain⟨N,iw,c0,c1,f0,f1,hg3,IG,hU3⟩:=hs2.f;have hlt:=hs2.j;have yK:=hg3;have HU3:=aa hU3
             simp only at c0 c1;have afE:Calls prog 135 #[V m] (b.alloc (K #[I J 0,I J 0,V ⟨#[]⟩,Z U 0 0,I J 0] 92)).drew fun e d=>e=Y (V m)∧Below b.heap.size b d∧d.heap[b.heap.size]? = M (K #[I J 0,I J 0,V ⟨#[]⟩,Z U 0 0,I J 0] 92 (0,0)):=(xE _).mono fun e d ⟨he,f⟩=>by
              refine⟨he,(((ar _ b).alloc (am _) _).trans (bg _ _)).trans (f.mono (by show b.heap.size<=(b.alloc _).heap.size;rw[bu];omega)),?_⟩;rw[f.block b.heap.size (by show b.heap.size<(b.alloc _).heap.size;rw[bu];omega)];exact be b _
             have afF:Calls prog 135 #[V m] b.drew fun e d=>e=Y (V m)∧Below b.heap.size b d:=(xE _).mono fun e d ⟨he,f⟩=>⟨he,(bg _ _).trans f⟩;have alE:¬b.heap.size=g:=by omega
             have ajS:¬g=b.heap.size:=by omega
             clear xE;have HMt:∀d,Below b.heap.size b d->d.heap[b.heap.size]? = M (K #[I J 0,I J 0,V ⟨#[]⟩,Z U 0 0,I J 0] 92 (0,0))->Below b.heap.size b (((((d.setCell ⟨b.heap.size,0,U⟩ (I J (s.a+1))).setCell ⟨b.heap.size,1,U⟩ (I J c)).setCell ⟨b.heap.size,2,U⟩ (V m)).setCell ⟨b.heap.size,3,U⟩ (Z U 0 0)).setCell ⟨b.heap.size,4,U⟩ (I J 0))∧(((((d.setCell ⟨b.heap.size,0,U⟩ (I J (s.a+1))).setCell ⟨b.heap.size,1,U⟩ (I J c)).setCell ⟨b.heap.size,2,U⟩ (V m)).setCell ⟨b.heap.size,3,U⟩ (Z U 0 0)).setCell ⟨b.heap.size,4,U⟩ (I J 0)).heap[b.heap.size]? = M (K #[I J (s.a+1),I J c,V m,Z U 0 0,I J 0] 92 (0,0)):=fun d B hr=>by
              refine⟨((((B.setCell (am _) _).setCell (am _) _).setCell (am _) _).setCell (am _) _).setCell (am _) _,?_⟩;exact aR _ _ 4 _ _ _ (aR _ _ 3 _ _ _ (aR _ _ 2 _ _ _ (aR _ _ 1 _ _ _ (aR _ _ 0 _ _ _ hr))))
             go_cut [8] (fun t wd=>∃nb,t=Q (M ⟨nb,0,U⟩)∧b.heap.size<=nb∧Below b.heap.size b wd∧wd.heap[nb]? = M (K #[I J (s.a+1),I J c,V m,Z U 0 0,I J 0] 92 (0,0)))
             case first =>
              go_region_held3 (fun w'=>w'.cell? ⟨g,1,U⟩=M (I J (s.a+1))) (go_keep) (first
               | (go_at_call 135;refine afE.mono ?_;rintro e d ⟨rfl,i,v⟩;have c1':d.cell? ⟨g,1,U⟩=M (I J (s.a+1)):=(i.cell (p:=⟨g,1,U⟩) hlt).trans c1;have z0:=aq d _ 0 _ _ _ v;have z1:=aq d _ 1 _ _ _ v;have z2:=aq d _ 2 _ _ _ v;have z3:=aq d _ 3 _ _ _ v;have z4:=aq d _ 4 _ _ _ v;have y0:=aP d _ 0 _ _ v;have y1:=aP d _ 1 _ _ v;have y2:=aP d _ 2 _ _ v;have y3:=aP d _ 3 _ _ v;have y4:=aP d _ 4 _ _ v;simp at z0 z1 z2 z3 z4;have jH:=aa i;have HR4:=aa v;clear i v)
               | (go_at_call 135;refine afF.mono ?_;rintro e d ⟨rfl,i⟩;have c1':d.cell? ⟨g,1,U⟩=M (I J (s.a+1)):=(i.cell (p:=⟨g,1,U⟩) hlt).trans c1;have alF:¬d.heap.size=g:=(by have:=i.size;omega);have ajT:¬g=d.heap.size:=(by have:=i.size;omega);have jH:=aa i;clear i))
              all_goals go_wp2
              all_goals go_meet
              . exact⟨_,rfl,jH.o.size,jH.o.alloc jH.o.size _,be d _⟩
              . exact⟨_,rfl,am _,HMt d jH.o HR4.o⟩
             case rest =>
              obtain⟨nb,rfl,hnb,f,q⟩:=hcut;have hU4:=HU3.o.r f;obtain⟨xs,hO,hP⟩:=hU4.jL (K #[I J (s.a+1),I J c,V m,Z U 0 0,I J 0] 92);have H:wc.heap[g]? = M _:=(f.block g hlt).trans yK;have je:=(ar _ wc).alloc (am _) (K #[I J (s.a+1),I J c,V m,Z U 0 0,I J 0] 92);have c0a:(wc.alloc (K #[I J (s.a+1),I J c,V m,Z U 0 0,I J 0] 92)).cell? ⟨g,0,U⟩=M (Z N s.l.length iw):=(je.cell (p:=⟨g,0,U⟩) (by show g<wc.heap.size;have:=f.size;omega)).trans (aq wc g 0 _ _ _ H);have c0b:wc.cell? ⟨g,0,U⟩=M (Z N s.l.length iw):=aq wc g 0 _ _ _ H;have z0:wc.cell? ⟨nb,0,U⟩=M (I J (s.a+1)):=aq wc nb 0 _ _ _ q;have z1:wc.cell? ⟨nb,1,U⟩=M (I J c):=aq wc nb 1 _ _ _ q;have z2:wc.cell? ⟨nb,2,U⟩=M (V m):=aq wc nb 2 _ _ _ q;have z3:wc.cell? ⟨nb,3,U⟩=M (Z U 0 0):=aq wc nb 3 _ _ _ q;have z4:wc.cell? ⟨nb,4,U⟩=M (I J 0):=aq wc nb 4 _ _ _ q;have ady:=f.size;have hbl:∀k,aw N=M k->(S k∧k≠g)∧k<b.heap.size:=fun k e=>by
               obtain⟨us,_,h2,h3,_⟩:=HU3.o;cases N with
               | none=>cases e
               | some a=>injection e with e;subst e;exact⟨h3 a rfl,(h2.e a rfl).2⟩
              have alG:nb<wc.heap.size:=(bM.1 q).1;have HK:∀x,(wc.alloc (K #[I J (s.a+1),I J c,V m,Z U 0 0,I J 0] 92)).drew.grownBy x (Value.slice N s.l.length iw).ownBlock->x.heap[g]? = M (K #[Z N s.l.length iw,I J (s.a+1)] 141 (0,0))∧x.heap[nb]? = M (K #[I J (s.a+1),I J c,V m,Z U 0 0,I J 0] 92 (0,0)):=fun x hG=>by
               rw[dp] at hG;refine⟨?_,?_⟩
               . rw[hG.block g (by show g<(wc.alloc _).heap.size;rw[bu];omega) (fun e=>(hbl g e.symm).1.2 rfl)];exact(je.block g (by omega)).trans H
               . rw[hG.block nb (by show nb<(wc.alloc _).heap.size;rw[bu];omega) (fun e=>by have:=(hbl nb e.symm).2;omega)];exact(je.block nb (by omega)).trans q
              have HO:=aL.r hO (bg _ _);have Yr:∀j u,(du ⟨s.a+1,c,m,[],0⟩ ⟨U,0⟩)[j]? = M u->(wc.alloc (K #[I J (s.a+1),I J c,V m,Z U 0 0,I J 0] 92)).drew.cell? (Addr.add ⟨wc.heap.size,0,U⟩ j)=M u:=fun j u hu=>by
               rw[gg,eh];show(wc.alloc _).cell? _=_;rw[World.cell?_alloc_at _ _ _ _ rfl,mB];exact hu
              obtain⟨i0,hi0,hz0,hz1,hz2⟩:=info_parts Aj;have Hi:=hi0;have kS:=aa hz0;have kM:=aa hz1;have kT:=aa hz2
              have HN:s.l.length+1<=maxLen∧(s.l.length+1)*64<=140737488355328:=⟨by unfold maxLen;omega,by omega⟩;have hng:¬nb=g:=by omega
              have alH:¬g=nb:=by omega
              clear hi0 hz0 hz1 hz2 hO   je H hU4  q HMt afE afF;go_wp2;go_region_law
               ((refine step_append_lies _ (by rfl) _ _ _ (by rfl) 0 92 i0 (.agg #[I J 0,I J 0,V ⟨#[]⟩,Z U 0 0,I J 0]) 5 64 underlying40 Hi kS.o kM.o kT.o (by rfl) (by decide) (Z N s.l.length iw) s.l.length _ (by rfl) HO ⟨wc.heap.size,0,U⟩ 1 1 (du ⟨s.a+1,c,m,[],0⟩ ⟨U,0⟩) (by rfl) (by rfl) Yr (FQ _ _) (by decide) HN.1 HN.2 (ax _) (wc.heap.size+1) (by simp) ?_;intro g5 cap5 x C r sQ ah1;obtain⟨r5,r6⟩:=HK _ r;have q0:x.cell? ⟨g,0,U⟩=M (Z N s.l.length iw):=aq x g 0 _ _ _ r5;have q1:x.frozen? ⟨g,0,U⟩=F:=aP x g 0 _ _ r5;have q2:x.cell? ⟨nb,0,U⟩=M (I J (s.a+1)):=aq x nb 0 _ _ _ r6;have HR5:=aa r5;have HG5:=aa r;have zT:=aa C;have HA5:=aa sQ;clear r C sQ r5 r6 ah1))
              all_goals
               go_wp2;go_ret2;have hG:=HG5.o;have hat:=HA5.o;rw[dp] at hG hat;obtain⟨r1,r2⟩:=hP (M ⟨g5,0,U⟩) cap5 x ⟨s.a+1,c,m,[],0⟩ ⟨U,0⟩ (fun _=>False) (bI.e _ _ _) (fun _ _ e=>e) zT.o (op (vK _ _) hG) (by
                rcases hat with e | e
                . exact A e.symm
                . exact R (by rw[bu,e];rfl))
               have alI:=jG.b;obtain⟨hL,hTL⟩:=gH.r (S:=ay S w) HR5.o (A IG) (n:=s.l.length+1) (r1.a (fun k _ e=>by
                rcases e with e | e | e
                . exact⟨A e.1,e.2⟩
                . exact e.elim
                . exact⟨R (by omega),by omega⟩)) (by simp)
               refine⟨by rw[Ms.o];rfl,by rw[Ms.o];exact hL,?_⟩;exact((jG.a (ak.e f) (fun _ e _=>e)).a (r2.f (fun k e=>e.1)) (fun _ e _=>e)).a (hTL.f (fun k e=>by subst e;exact IG)) (fun _ e _=>e)
         . rw[aX h4] at G;have y:∀W,Below w.heap.size w W->pC S 141 w g (fb s c m) (Y (.tuple #[I J 0,I J (3:Nat)])) W:=fun W D=>pC.a h D (by unfold fb;rw[if_neg L,if_neg e2,if_pos (R h4)]);clear h ok hU hg c0 c1 hT hTd h4 hv;go_enter func248,ntmps248;go_wp2_with (first | (go_at_call 280;refine HV.mono ?_;rintro e z ⟨rfl,rfl⟩) | (go_at_call 281;refine Cj.mono ?_;rintro e z ⟨rfl,B⟩;have HD:=aa (y z B);clear B))
           go_ret2;exact HD.o
theorem Qv (s:aB)(S:Nat->Prop)(g b:Nat)(a:Int)(w:X)(h:cC w S g s)(ok:cM s)(i:w.cell? ⟨b,0,U⟩=M (I J a)):
 Calls prog 183 #[Q (M ⟨g,0,U⟩),Q (M ⟨b,0,U⟩)] w (bE S 141 w g (lD s a)):=by
 have d:=aa (E8 s S g a w h ok);generalize lD s a=r at *;clear ok h;go_enter func183,ntmps183;go_wp2_with fail;refine d.o.mono ?_;intro e j c;have f:=aa c;obtain⟨rfl,_,_⟩:=c;go_wp2;go_ret;exact f.o
theorem Qw (s:aB)(S:Nat->Prop)(g b:Nat)(a:Int)(w:X)(h:cC w S g s)(ok:cM s)(i:w.cell? ⟨b,0,U⟩=M (I J a)):
 Calls prog 179 #[Q (M ⟨g,0,U⟩),Q (M ⟨b,0,U⟩)] w (bE S 141 w g (kj s a)):=by
 have d:=aa (D1 s S g a w h ok);generalize kj s a=r at *;clear ok h;go_enter func179,ntmps179;go_wp2_with fail;refine d.o.mono ?_;intro e j c;have f:=aa c;obtain⟨rfl,_,_⟩:=c;go_wp2;go_ret;exact f.o
theorem Qx (s:aB)(S:Nat->Prop)(g b:Nat)(a:Int)(w:X)(h:cC w S g s)(ok:cM s)(i:w.cell? ⟨b,0,U⟩=M (I J a)):
 Calls prog 273 #[Q (M ⟨g,0,U⟩),Q (M ⟨b,0,U⟩)] w (bE S 141 w g (mt s a)):=by
 have d:=El s S g a w h ok;generalize mt s a=r at *;go_enter func273,ntmps273;go_wp2_with fail;refine d.mono ?_;intro e j c;have f:=aa c;obtain⟨rfl,_,_⟩:=c;go_wp2;go_ret;exact f.o
theorem QB (s:aB)(S:Nat->Prop)(g c d:Nat)(a:Int)(b:Int)(w:X)(h:cC w S g s)(ok:cM s)(k:w.cell? ⟨c,0,U⟩=M (I J a))(l:w.cell? ⟨d,0,U⟩=M (I J b)):
 Calls prog 272 #[Q (M ⟨g,0,U⟩),Q (M ⟨c,0,U⟩),Q (M ⟨d,0,U⟩)] w (bE S 141 w g (lC s a b)):=by
 have i:=BS s S g a b w h ok;generalize lC s a b=r at *;go_enter func272,ntmps272;go_wp2_with fail;refine i.mono ?_;intro e m f;have j:=aa f;obtain⟨rfl,_,_⟩:=f;go_wp2;go_ret;exact j.o
theorem QD (s:aB)(S:Nat->Prop)(g f i j:Nat)(b:Int)(a:Int)(bo:ag)(c d:Nat)(l:ab)(w:X)(h:cC w S g s)(ok:cM s)(u:w.cell? ⟨f,0,U⟩=M (I J b))(v:w.cell? ⟨i,0,U⟩=M (I J a))(x:w.cell? ⟨j,0,U⟩=M (Z bo c d))(m:az w bo d l)(n:l.length=c)(p:c<=1000000):
 Calls prog 271 #[Q (M ⟨g,0,U⟩),Q (M ⟨f,0,U⟩),Q (M ⟨i,0,U⟩),Q (M ⟨j,0,U⟩)] w (bE S 141 w g (iM s b a l)):=by
 have q:=B4 s S g b a bo c d l w h ok m n p;generalize iM s b a l=r at *;go_enter func271,ntmps271;go_wp2_with fail;refine q.mono ?_;intro e y k;have t:=aa k;obtain⟨rfl,_,_⟩:=k;go_wp2;go_ret;exact t.o
theorem QE (s:aB)(S:Nat->Prop)(g c d:Nat)(a:Int)(m:ae)(w:X)(h:cC w S g s)(ok:cM s)(p:w.cell? ⟨c,0,U⟩=M (I J a))(t:w.cell? ⟨d,0,U⟩=M (V m))(f:s.a<=1000000)(i:m.size<=1000000):
 Calls prog 265 #[Q (M ⟨g,0,U⟩),Q (M ⟨c,0,U⟩),Q (M ⟨d,0,U⟩)] w (bE S 141 w g (nr s a m)):=by
 have j:=B5 s S g a m w h ok f i;have k:nr s a m=((fb s a m).1,(fb s a m).2.2):=rfl;generalize fb s a m=q at *;obtain⟨u,v,l⟩:=q;generalize nr s a m=r at *;go_enter func265,ntmps265;go_wp2_with fail;refine j.mono ?_;intro e n b;have o:bE S 141 w g r (Y (I J (l:Int))) n:=by
  rw[k];exact⟨rfl,b.b,b.c⟩
 obtain⟨rfl,_,_⟩:=b;go_wp2;go_ret;exact o
abbrev Tr (B:Nat)(w:X)(g:Nat)(s:aB):Prop:=cC w (fun k=>B<=k) g s
theorem bE.e {B:Nat}{w w':X}{g:Nat}{r:aB×Nat}{e:Ending}(h:bE (fun k=>B<=k) 141 w g r e w')(a:B<=w.heap.size):e=Y (I J (r.2:Int))∧Tr B w' g r.1∧Below B w w':=by
 refine⟨h.d,h.b.e (fun k _ e=>?_),h.c.below (fun k e=>e) a⟩;rcases e with e | e
 . exact e
 . omega
theorem D2 (i z t:Int)(m:ae)(bo:ag)(n fV:Nat)(bs:ab)(w:X)(hB:az w bo fV bs)(hn:bs.length=n)(hN:n<=1000000)(hm:m.size<=1000000):
 Calls prog 82 #[.agg #[I J i,I J z,V m,Z bo n fV,I J t]] w fun e w'=>∃ao cap,e=Y (.agg #[I J i,I J z,V m,Z ao n cap,I J t])∧bI w' (fun k=>w.heap.size<=k) 5 ao cap bs∧Below w.heap.size w w':=by
 have q:∀W,Below w.heap.size w W->Calls prog 136 #[Z bo n fV] W fun e w'=>∃ao cap,e=Y (Z ao n cap)∧bI w' (fun k=>W.heap.size<=k) 5 ao cap bs∧Below W.heap.size W w':=fun W hW=>KP bs bo fV n W (hB.a hW) hn (by omega);go_enter func82,ntmps82;go_upto_region 1 with fail
 have C:=kw.B w #[I J i,I J z,V m,Z bo n fV,I J t] #[I J 0,I J 0,V ⟨#[]⟩,Z U 0 0,I J 0] 92 92;have r:∀W,kw w (K #[I J i,I J z,V m,Z bo n fV,I J t] 92 (0,0)) (K #[I J 0,I J 0,V ⟨#[]⟩,Z U 0 0,I J 0] 92 (0,0)) W->W.cell? ⟨w.heap.size,2,U⟩=M (V m)∧W.cell? ⟨w.heap.size,3,U⟩=M (Z bo n fV)∧W.frozen? ⟨w.heap.size,2,U⟩=F∧W.frozen? ⟨w.heap.size,3,U⟩=F:=fun W h=>⟨h.e 2,h.e 3,h.q 2,h.q 3⟩;have c2:=r _ C;have j:w.heap.size+2<=((w.alloc (K #[I J i,I J z,V m,Z bo n fV,I J t] 92)).alloc (K #[I J 0,I J 0,V ⟨#[]⟩,Z U 0 0,I J 0] 92)).heap.size:=by simp
 generalize ((w.alloc (K #[I J i,I J z,V m,Z bo n fV,I J t] 92)).alloc (K #[I J 0,I J 0,V ⟨#[]⟩,Z U 0 0,I J 0] 92))=w1 at *;have ZY:=aa j;go_cut [3] (fun _ D=>∃ao cap,kw w (K #[I J i,I J z,V m,Z ao n cap,I J t] 92 (0,0)) (K #[I J 0,I J 0,V ⟨#[]⟩,Z U 0 0,I J 0] 92 (0,0)) D∧bI D (fun k=>w.heap.size+2<=k) 5 ao cap bs)
 case first =>
  go_region_with (first
   | (go_at_call 135;refine((fun W=>oZ m W hm) _).mono ?_;rintro e w2 ⟨rfl,c⟩;have d:=C.r ((bg _ _).trans c);obtain⟨G,H,g2,g3⟩:=r _ d;have L:=aa d;have s:Hid (w1.heap.size<=w2.heap.size):=c.size;clear c d)
   | (go_at_call 136;refine(q _ L.o.below).mono ?_;rintro e u ⟨ao,cap,rfl,p,l⟩;have f:=L.o.r l;obtain⟨N,S,k2,k3⟩:=r _ f;have x:=aa f;have HO:=aa p;clear l f p))
  all_goals
   go_wp2;go_meet;have y:=x.o.E 2 (V m) rfl;obtain⟨B,A9⟩:=y.y 3 (Z ao n cap);have EW:ak (fun k=>w.heap.size<=k∧k<w.heap.size+2) u (u.setCell ⟨w.heap.size,2,U⟩ (V m)):=ak.j _ u _ _ ⟨am _,by show w.heap.size<_;omega⟩;have j:=ZY.o;have hs2:=s.o;refine⟨ao,cap,B,((HO.o.B (S':=fun k=>w.heap.size+2<=k) (fun k e _ _=>by omega)).a EW (fun k e h=>by omega)).a A9 (fun k e h=>by omega)⟩
 case rest =>
  obtain⟨ao,cap,a,p⟩:=hcut;have d0:=a.e 0;have d1:=a.e 1;have G:=a.e 2;have H:=a.e 3;have d4:=a.e 4
  have g0:=a.j 0;have g1:=a.j 1;have g2:=a.j 2;have g3:=a.j 3;have g4:=a.j 4
  have e0:=a.a 0;have e1:=a.a 1;have N:=a.a 2;have S:=a.a 3;have e4:=a.a 4
  simp at d0 d1 G H d4 e0 e1 N S e4;go_wp2;obtain⟨a1,t1⟩:=a.f 0 (I J i);obtain⟨a2,t2⟩:=a1.f 1 (I J z);obtain⟨a3,t3⟩:=a2.f 2 (V m);obtain⟨a4,t4⟩:=a3.f 3 (Z ao n cap);obtain⟨g,t5⟩:=a4.f 4 (I J t);have b:∀k,w.heap.size+2<=k->¬(w.heap.size<=k∧k<w.heap.size+2):=fun k e h=>by omega
  have T:=((((p.a t1 b).a t2 b).a t3 b).a t4 b).a t5 b;generalize (((((wc.setCell ⟨w.heap.size+1,0,U⟩ (Value.int J i)).setCell ⟨w.heap.size+1,1,U⟩ (Value.int J z)).setCell ⟨w.heap.size+1,2,U⟩ (Value.string m)).setCell ⟨w.heap.size+1,3,U⟩ (Value.slice ao n cap)).setCell ⟨w.heap.size+1,4,U⟩ (Value.int J t))=w6 at g T ⊢;have r0:=g.a 0;have r1:=g.a 1;have r2:=g.a 2;have r3:=g.a 3;have r4:=g.a 4;refine aS (v:=.agg #[I J i,I J z,V m,Z ao n cap,I J t]) (by simp[results,results82,go_sem,r0,r1,r2,r3,r4]) rfl ⟨ao,cap,rfl,T.f (fun k _ e=>by omega),g.below⟩
def uh (l:List aN):Prop:=l.length<=1000∧∀u∈l,u.d.size<=1000000∧u.b.length<=1000000
theorem cM.G {s:aB}(ok:cM s):uh s.l:=⟨by have:=ok.b;omega,fun u a=>⟨by have:=(ok.a u a).b;omega,by have:=(ok.a u a).a;omega⟩⟩
theorem BT (l:List aN)(ao:ag)(cap n:Nat)(w:X)(hl:qh w ao cap l)(hcap:n<=cap)(hn:l.length=n)(m:uh l):
 Calls prog 63 #[Z ao n cap] w fun e w'=>∃gL,e=Y (Z gL n n)∧dO w' (fun k=>w.heap.size<=k) 92 5 gL n l∧Below w.heap.size w w':=by
 subst hn;have hN:=m.1;obtain⟨i0,y,z,B,C⟩:=info_parts Aj;obtain⟨w1,hmk,tq,c⟩:=run_make_full (P:=prog) w 0 40 92 i0 (.agg #[I J 0,I J 0,V ⟨#[]⟩,Z U 0 0,I J 0]) 5 underlying40 y z B J J l.length (by rw[C];omega) (by unfold maxLen;omega) (ax _);rw[show(Value.agg #[I J 0,I J 0,V ⟨#[]⟩,Z U 0 0,I J 0]).cells=#[I J 0,I J 0,V ⟨#[]⟩,Z U 0 0,I J 0] from rfl,QF] at tq;have D:Below w.heap.size w w1:=⟨c.os,c.tape,c.output,c.size,fun k hk=>c.block k hk (by simp)⟩;have G:dO w1 (fun k=>w.heap.size<=k) 92 5 (M ⟨w.heap.size,0,U⟩) l.length (List.replicate l.length kP):=dO.kW tq (am _);have HZ:=aa m;go_enter func63,ntmps63;go_wp2;go_loopw [11] (fun t wr=>∃k:Nat,k<=l.length∧t=I J k∧Below w.heap.size w wr∧dO wr (fun k=>w.heap.size<=k) 92 5 (M ⟨w.heap.size,0,U⟩) l.length (l.take k++List.replicate (l.length-k) kP)) (fun t _=>l.length-(intOf t).toNat)
 case atStart=>exact⟨0,ax _,rfl,D,G⟩
 case round =>
  obtain⟨k,hk,rfl,x,hU⟩:=hrel;by_cases f:k<l.length
  . obtain⟨bb,oo,q,rfl,hc0,hc1,hc2,hc3,hc4,H⟩:=(hl.e x).a k f;have hlt':(k:Int)<l.length:=by omega
    have m:=HZ.o.2 l[k] (eX f);have HT:(l.take k++List.replicate (l.length-k) kP).set k l[k]=l.take (k+1)++List.replicate (l.length-(k+1)) kP:=QG l k f;have hL:k<(l.take k++List.replicate (l.length-k) kP).length:=by rw[aD,bV,List.length_replicate];omega
    have je:=(ar _ wr).alloc (am _) (K #[I J l[k].c,I J l[k].a,V l[k].d,Z q.a l[k].b.length q.b,I J l[k].e] 92);have HC:=D2 l[k].c l[k].a l[k].e l[k].d q.a l[k].b.length q.b l[k].b (wr.alloc (K #[I J l[k].c,I J l[k].a,V l[k].d,Z q.a l[k].b.length q.b,I J l[k].e] 92)) (H.a je) rfl m.2 m.1;have L:=x.size;have HX:Hid (∀d gL a,bI d (fun j=>(wr.alloc (K #[I J l[k].c,I J l[k].a,V l[k].d,Z q.a l[k].b.length q.b,I J l[k].e] 92)).heap.size<=j) 5 gL a l[k].b->Below (wr.alloc (K #[I J l[k].c,I J l[k].a,V l[k].d,Z q.a l[k].b.length q.b,I J l[k].e] 92)).heap.size (wr.alloc (K #[I J l[k].c,I J l[k].a,V l[k].d,Z q.a l[k].b.length q.b,I J l[k].e] 92)) d ->
     (∀j,j<5->(∃v,d.cell? ⟨w.heap.size,k*5+j,U⟩=M v)∧d.frozen? ⟨w.heap.size,k*5+j,U⟩=F) ∧
     Below w.heap.size w (((((d.setCell ⟨w.heap.size,k*5,U⟩ (I J l[k].c)).setCell ⟨w.heap.size,k*5+1,U⟩ (I J l[k].a)).setCell ⟨w.heap.size,k*5+2,U⟩ (V l[k].d)).setCell ⟨w.heap.size,k*5+3,U⟩ (Z gL l[k].b.length a)).setCell ⟨w.heap.size,k*5+4,U⟩ (I J l[k].e)) ∧
     dO (((((d.setCell ⟨w.heap.size,k*5,U⟩ (I J l[k].c)).setCell ⟨w.heap.size,k*5+1,U⟩ (I J l[k].a)).setCell ⟨w.heap.size,k*5+2,U⟩ (V l[k].d)).setCell ⟨w.heap.size,k*5+3,U⟩ (Z gL l[k].b.length a)).setCell ⟨w.heap.size,k*5+4,U⟩ (I J l[k].e)) (fun k=>w.heap.size<=k) 92 5 (M ⟨w.heap.size,0,U⟩) l.length (l.take (k+1)++List.replicate (l.length-(k+1)) kP)):=fun d gL a N g=>by
     have i:=au je g;have r:=(hU.a (S':=fun j=>w.heap.size<=j∧j<wr.heap.size) (fun j hj e=>⟨e,hj⟩)).r i;obtain⟨g2,s,_,_,b⟩:=r.j.a k hL;injection s with s;injection s with s;subst s;obtain⟨S,wO⟩:=r.B (u:=l[k]) hL N (fun j e h=>by rw[bu] at e;omega) rfl;refine⟨b,(x.trans (i.mono L)).trans (wO.below (fun j e=>by subst e;exact am _) (by have:=i.size;omega)),?_⟩;rw[<-HT];refine S.a (fun j _ e=>?_);rcases e with e | e
     . exact e.1
     . rw[bu] at e;omega
    generalize l[k]=p at *;go_wp2_with fail;refine HC.mono ?_;rintro e d ⟨gL,a,rfl,N,g⟩;obtain⟨b,T,W⟩:=HX.o d gL a N g;obtain⟨⟨v0,d0⟩,f0⟩:=b 0 (by decide);obtain⟨⟨v1,d1⟩,f1⟩:=b 1 (by decide);obtain⟨⟨v2,d2⟩,f2⟩:=b 2 (by decide);obtain⟨⟨v3,d3⟩,f3⟩:=b 3 (by decide);obtain⟨⟨v4,d4⟩,f4⟩:=b 4 (by decide);rw[mA] at d0 f0;have Z0:=T;have RN:=aa W
    go_wp2;go_roundw
    case rel=>exact⟨k+1,by omega,by go_num,Z0,RN.o⟩
    case measure=>simp[intOf];omega
  . obtain rfl:k=l.length:=by omega
    go_wp2;go_ret;refine⟨M ⟨w.heap.size,0,U⟩,rfl,?_,x⟩;have:=hU;rw[fL,Nat.sub_self,List.replicate_zero,fx] at this;exact this
theorem QH (s:aB)(S:Nat->Prop)(g:Nat)(w:X)(h:cC w S g s)(j:uh s.l):
 Calls prog 21 #[Q (M ⟨g,0,U⟩)] w fun e w'=>∃gL,e=Y (Z gL s.l.length s.l.length)∧dO w' (fun k=>w.heap.size<=k) 92 5 gL s.l.length s.l∧Below w.heap.size w w':=by
 obtain⟨m,a,p,q,r,t,u,v,i⟩:=h.f;have n:=BT s.l m a s.l.length w i.f i.e rfl j;generalize s.l=l at *;go_enter func21,ntmps21;go_wp2_with fail;refine n.mono ?_;rintro e x ⟨gL,rfl,b,c⟩;have d:=b;have f:=aa c
 go_wp2;go_ret;exact⟨gL,rfl,d,f.o⟩
theorem ty (s:aB)(S:Nat->Prop)(g:Nat)(w:X)(h:cC w S g s)(x:uh s.l):
 Calls prog 238 #[Q (M ⟨g,0,U⟩)] w fun e w'=>∃q,e=Y (Q (M ⟨q,0,U⟩))∧cC w' (fun k=>w.heap.size<=k) q s∧Below w.heap.size w w':=by
 have j:=h.j;obtain⟨m,i,y,z,N,T,W,hS,r⟩:=h.f;have B:=BT s.l m i s.l.length w.drew (r.f.e (bg _ _)) r.e rfl x;have C:∀a f,dO a (fun k=>w.drew.heap.size<=k) 92 5 f s.l.length s.l->Below w.drew.heap.size w.drew a->a.cell? ⟨g,0,U⟩=M (Z m s.l.length i)∧a.cell? ⟨g,1,U⟩=M (I J s.a)∧cC (a.alloc (K #[Z f s.l.length s.l.length,I J s.a] 141)) (fun k=>w.heap.size<=k) a.heap.size s∧Below w.heap.size w (a.alloc (K #[Z f s.l.length s.l.length,I J s.a] 141)):=fun a f b c=>by
  have d:=(bg _ _).trans c;have t:=(ar _ a).alloc (am _) (K #[Z f s.l.length s.l.length,I J s.a] 141);exact⟨(d.cell (p:=⟨g,0,U⟩) j).trans y,(d.cell (p:=⟨g,1,U⟩) j).trans z,⟨f,s.l.length,be a _,d.size,((b.a (S':=fun k=>w.heap.size<=k∧k<a.heap.size) (fun k D e=>⟨e,D⟩)).r t).a (fun k _ e=>⟨e.1,by omega⟩)⟩,au d t⟩
 generalize s.l.length=n at *;generalize hl:s.a=G at *;go_enter func238,ntmps238;go_wp2_with fail;go_region_held3 (fun w'=>w'.cell? ⟨g,0,U⟩=M (Z m n i)∧w'.cell? ⟨g,1,U⟩=M (I J G)) (go_keep) (first | (go_at_call 63;refine B.mono ?_;rintro e a ⟨f,rfl,b,c⟩;obtain⟨d0,d1,u,v⟩:=C a f b c;have H:=aa u;have L:=aa v;clear u v b c))
 all_goals
  go_wp2;go_ret;exact⟨_,rfl,H.o,L.o⟩
theorem En (s:aB)(S:Nat->Prop)(g:Nat)(i:Int)(w:X)(h:cC w S g s)(ok:cM s)(r:cE s.l i=U):
 Calls prog 32 #[Q (M ⟨g,0,U⟩),I J i] w fun e w'=>e=Y (.tuple #[.agg #[I J 0,I J 0,V ⟨#[]⟩,Z U 0 0,I J 0],.bool F])∧Below w.heap.size w w':=by
 have m:=(ar _ w).alloc (am _) (K #[I J 0,I J 0,V ⟨#[]⟩,Z U 0 0,I J 0] 92);have n:=rp s S g i _ (h.a m) (by have:=ok.b;omega);rw[qI r] at n;go_enter func32,ntmps32;go_wp2_with fail;refine n.mono ?_;rintro e a ⟨rfl,q⟩;have j:=au m q;have b:=(q.block w.heap.size (by simp)).trans (be w _);have t:=aq a _ 0 _ _ _ b;have u:=aq a _ 1 _ _ _ b;have x:=aq a _ 2 _ _ _ b;have z3:=aq a _ 3 _ _ _ b;have y:=aq a _ 4 _ _ _ b
 have L:=aP a _ 0 _ _ b;have N:=aP a _ 1 _ _ b;have T:=aP a _ 2 _ _ b;have W:=aP a _ 3 _ _ b;have y4:=aP a _ 4 _ _ b
 simp at t u x z3 y;have k:=j;have z:=aa b
 go_wp2;have d:=((((k.setCell (p:=⟨w.heap.size,0,U⟩) (am _) (I J 0)).setCell (p:=⟨w.heap.size,1,U⟩) (am _) (I J 0)).setCell (p:=⟨w.heap.size,2,U⟩) (am _) (V ⟨#[]⟩)).setCell (p:=⟨w.heap.size,3,U⟩) (am _) (Z U 0 0)).setCell (p:=⟨w.heap.size,4,U⟩) (am _) (I J 0);have c:=aR _ _ 4 _ _ (I J 0) (aR _ _ 3 _ _ (Z U 0 0) (aR _ _ 2 _ _ (V ⟨#[]⟩) (aR _ _ 1 _ _ (I J 0) (aR _ _ 0 _ _ (I J 0) z.o))));generalize (((((a.setCell ⟨w.heap.size,0,U⟩ (Value.int J 0)).setCell ⟨w.heap.size,1,U⟩ (Value.int J 0)).setCell ⟨w.heap.size,2,U⟩ (Value.string ⟨#[]⟩)).setCell ⟨w.heap.size,3,U⟩ (Value.slice U 0 0)).setCell ⟨w.heap.size,4,U⟩ (Value.int J 0))=f at d c ⊢;have B:=aq f _ 0 _ _ _ c;have C:=aq f _ 1 _ _ _ c;have D:=aq f _ 2 _ _ _ c;have G:=aq f _ 3 _ _ _ c;have H:=aq f _ 4 _ _ _ c;refine aS (v:=.tuple #[.agg #[I J 0,I J 0,V ⟨#[]⟩,Z U 0 0,I J 0],.bool F]) (by simp[results,results32,go_sem,B,C,D,G,H]) rfl ⟨rfl,d⟩
theorem yE (s:aB)(S:Nat->Prop)(g:Nat)(y:Int)(i:Nat)(w:X)(h:cC w S g s)(ok:cM s)(hp:cE s.l y=M i)(z:i<s.l.length):
 Calls prog 32 #[Q (M ⟨g,0,U⟩),I J y] w fun e w'=>∃ao cap,e=Y (.tuple #[.agg #[I J s.l[i].c,I J s.l[i].a,V s.l[i].d,Z ao s.l[i].b.length cap,I J s.l[i].e],.bool true])∧az w' ao cap s.l[i].b∧Below w.heap.size w w':=by
 have L:=(ar _ w).alloc (am _) (K #[I J 0,I J 0,V ⟨#[]⟩,Z U 0 0,I J 0] 92);have N:=rp s S g y _ (h.a L) (by have:=ok.b;omega);rw[qJ hp] at N;have T:=aa h;have W:=ok.a _ (eX z);have k1:=W.a;have k2:=W.b;have mF:=ok.b
 have hi':(i:Int)<s.l.length:=by omega
 obtain⟨u,hu⟩:∃u,s.l[i]=u:=⟨_,rfl⟩;rw[hu] at k1 k2 ⊢;go_enter func32,ntmps32;go_wp2_with fail;refine N.mono ?_;rintro e w1 ⟨rfl,hb⟩;have d:=au L hb;obtain⟨gu,m⟩:=lg.e (T.o.a d) z;obtain⟨q,h0,h1,h2,h3,h4,hf,n⟩:=lg.a (T.o.a d) m z;rw[hu] at h0 h1 h2 h3 h4 n;obtain⟨cap,hcap,hc⟩:=m;have b:=(hb.block w.heap.size (by simp)).trans (be w _);have B:=(bM.1 b).1;have C:=d;have HR:=aa b
 go_wp2_with fail;refine(D2 u.c u.a u.e u.d q.a u.b.length q.b u.b w1 n rfl (by omega) (by omega)).mono ?_;rintro e c ⟨f,a,rfl,hO,r⟩;have D:=au C r;have b:=(r.block w.heap.size B).trans HR.o;have z0:=aq c _ 0 _ _ _ b;have z1:=aq c _ 1 _ _ _ b;have z2:=aq c _ 2 _ _ _ b;have z3:=aq c _ 3 _ _ _ b;have z4:=aq c _ 4 _ _ _ b
 have y0:=aP c _ 0 _ _ b;have y1:=aP c _ 1 _ _ b;have y2:=aP c _ 2 _ _ b;have y3:=aP c _ 3 _ _ b;have y4:=aP c _ 4 _ _ b
 simp at z0 z1 z2 z3 z4;have jH:=D;have G:=aa b;have HO:=aa hO
 go_wp2;have t:=((((jH.setCell (p:=⟨w.heap.size,0,U⟩) (am _) (I J u.c)).setCell (p:=⟨w.heap.size,1,U⟩) (am _) (I J u.a)).setCell (p:=⟨w.heap.size,2,U⟩) (am _) (V u.d)).setCell (p:=⟨w.heap.size,3,U⟩) (am _) (Z f u.b.length a)).setCell (p:=⟨w.heap.size,4,U⟩) (am _) (I J u.e);have j:=aR _ _ 4 _ _ (I J u.e) (aR _ _ 3 _ _ (Z f u.b.length a) (aR _ _ 2 _ _ (V u.d) (aR _ _ 1 _ _ (I J u.a) (aR _ _ 0 _ _ (I J u.c) G.o))));have H:=(HO.o.a (vB w.heap.size [I J u.c,I J u.a,V u.d,Z f u.b.length a,I J u.e] 0 c) (fun k e h=>by subst h;omega)).r;change az (((((c.setCell ⟨w.heap.size,0,U⟩ (Value.int J u.c)).setCell ⟨w.heap.size,1,U⟩ (Value.int J u.a)).setCell ⟨w.heap.size,2,U⟩ (Value.string u.d)).setCell ⟨w.heap.size,3,U⟩ (Value.slice f u.b.length a)).setCell ⟨w.heap.size,4,U⟩ (Value.int J u.e)) _ _ _ at H;generalize (((((c.setCell ⟨w.heap.size,0,U⟩ (Value.int J u.c)).setCell ⟨w.heap.size,1,U⟩ (Value.int J u.a)).setCell ⟨w.heap.size,2,U⟩ (Value.string u.d)).setCell ⟨w.heap.size,3,U⟩ (Value.slice f u.b.length a)).setCell ⟨w.heap.size,4,U⟩ (Value.int J u.e))=x at t j H ⊢;have r0:=aq x _ 0 _ _ _ j;have r1:=aq x _ 1 _ _ _ j;have r2:=aq x _ 2 _ _ _ j;have r3:=aq x _ 3 _ _ _ j;have r4:=aq x _ 4 _ _ _ j;refine aS (v:=.tuple #[.agg #[I J u.c,I J u.a,V u.d,Z f u.b.length a,I J u.e],.bool true]) (by simp[results,results32,go_sem,r0,r1,r2,r3,r4]) rfl ⟨f,a,rfl,H,t⟩
theorem tA {x:aI}(h:de x=F):nH x=([],1):=by unfold nH;rw[if_neg (by simp[h])]
theorem ti {x:aI}(h:de x=true):nH x=(aW x,0):=by unfold nH;rw[if_pos h]
theorem tI {s:aB}(ok:cM s):uh s.l:=cM.G ok
theorem T6 (s:av)(S:Nat->Prop)(g b1:Nat)(x:aI)(B:ag)(C D:Nat)(r:aB×Nat)(w:X)(h:aT w S g s)(ok:aK s)(hT:az w B D x.c)(hn:x.c.length=C)
 (hF:∀W G,Below w.heap.size w W->w.heap.size+1<=W.heap.size->cC W (fun k=>w.heap.size+1<=k) G s.h->Calls prog 183 #[Q (M ⟨G,0,U⟩),Q (M ⟨b1,0,U⟩)] W (bE (fun k=>w.heap.size+1<=k) 141 W G r)) :
 Calls prog 178 #[Q (M ⟨g,0,U⟩),.agg #[I J x.b,I J x.a,I J x.n,Z B C D],.func (.func 183) #[] #[Q (M ⟨b1,0,U⟩)]] w (dt S w g (bH s r x)):=by
 obtain⟨gs,gl,ao,ca,P,hI⟩:=h;have je:=(ar _ w).alloc (am _) (K #[I J x.b,I J x.a,I J x.n,Z B C D] 264);have l:=hI.e je;obtain⟨⟨c0,c1⟩,_⟩:=cD l.a;have HC:=aa (ty s.h P gs _ l.d (tI ok.h));have m:=aa hI;have uq:=aa je;have HF:=aa hF;have HT:=aa hT
 have hlt:=hI.f;clear hI l je hF hT;go_enter func178,ntmps178;go_wp2_with fail;refine HC.o.mono ?_;rintro e w2 ⟨G,rfl,H,f⟩;have p:Below w.heap.size w w2:=au uq.o f;have HD:=aa (HF.o w2 G p (by have:=f.size;simpa using this) (H.e (fun k _ e=>by simpa using e)));have L:=aa p;have q:=aa f
 clear H f p HC HF c0 c1;go_wp2_with fail;refine HD.o.mono ?_;intro e w3 hd;have j:=q.o.size;have N:w.heap.size+1<=w2.heap.size:=by simpa using j
 obtain⟨he,IG,t⟩:=hd.e N;have T:Below (w.heap.size+1) (w.alloc (K #[I J x.b,I J x.a,I J x.n,Z B C D] 264)) w3:=(q.o.mono (by simp)).trans t;have hB3:Below w.heap.size w w3:=L.o.trans (t.mono (Nat.le_succ _));obtain⟨x0,x1,x2,x3⟩:=rD (Nat.lt_succ_self _) T;have c:=aa hB3;have Ci:=aa IG
 clear hd IG t T hB3 j N HD L q;subst he;by_cases i:r.2=0
 . have u:=aa (th x B C D w3 (HT.o.a c.o) hn);rw[i];cases d:de x with
   | false =>
     have v:Hid (∀W,Below w.heap.size w W->dt S w g (bH s r x) (Y (I J (1:Nat))) W):=fun W hb=>dt.a ⟨gs,gl,ao,ca,P,m.o⟩ hb (qP i d);unfold lR at u;rw[tA d] at u;clear i d m;go_wp2_with fail;refine u.o.mono ?_;rintro e w4 ⟨sG,zk,rfl,_,a⟩;have jH:=aa (au c.o a);clear a;go_wp2;go_ret;exact v.o _ jH.o
   | true =>
     unfold lR at u;rw[ti d] at u;have hlx:(aW x).length<=1048600:=by have:=rW d;have:=nT d;omega
     by_cases hl:100000<s.a.length+(aW x).length
     . have v:Hid (∀W,Below w.heap.size w W->dt S w g (bH s r x) (Y (I J (16:Nat))) W):=fun W hb=>dt.a ⟨gs,gl,ao,ca,P,m.o⟩ hb (qN i d hl);have HL:=aa (show ¬s.a.length+(aW x).length<=100000 by omega);clear i d hl;generalize aW x=y at *;go_wp2_with fail;refine u.o.mono ?_;rintro e w4 ⟨sG,zk,rfl,_,a⟩;have b:=au c.o a;have z:=m.o.e b;obtain⟨⟨c0,c1⟩,_⟩:=cD z.a;have HW:=aa (sY z.b sG zk y.length HL.o);have jH:=aa b;clear a b z;go_wp2_with fail;refine HW.o.mono ?_;rintro e w5 ⟨rfl,DR⟩;rw[DR];clear DR;go_wp2;go_ret;exact v.o _ jH.o
     . have v:Hid (∀W,aT W (ay S w) g ⟨r.1,s.a++aW x,s.b⟩->ak S w W->dt S w g (bH s r x) (Y (I J 0)) W):=fun W h1 h2=>by
        rw[qQ i d hl];exact⟨rfl,h1,h2⟩
       have HL:=aa (show s.a.length+(aW x).length<=100000 by omega);clear i d hl;generalize aW x=y at *;go_wp2_with fail;refine u.o.mono ?_;rintro e w4 ⟨sG,zk,rfl,hO4,a⟩;have b:=au c.o a;have z:=m.o.e b;obtain⟨⟨c0,c1⟩,_⟩:=cD z.a;have HW:=aa (sU z.b sG zk y.length y hO4.f rfl HL.o);have Yt:=aa (((Ci.o.a a).e (S':=fun k=>w.heap.size<=k) (fun k _ e=>Nat.le_of_succ_le e)));have jH:=aa b;clear a b z hO4;go_wp2_with fail;refine HW.o.mono ?_;rintro e w5 ⟨Ad,ca5,rfl,hL5,A9,sQ⟩;obtain⟨oF,hA,PN⟩:=m.o.j jH.o Yt.o hL5 A9 sQ;obtain⟨⟨y0,y1⟩,z0,z1⟩:=cD oF;have HA:=aa hA;have Yu:=aa PN
       clear hL5 A9 sQ oF hA PN c0 c1;go_wp2;go_ret;exact v.o _ HA.o Yu.o
 . have v:Hid (dt S w g (bH s r x) (Y (I J (r.2:Int))) w3):=dt.a ⟨gs,gl,ao,ca,P,m.o⟩ c.o (qM i);have hc':¬(r.2:Int)=0:=by omega
   clear i;generalize (r.2:Int)=rc at *;go_wp2;go_ret;exact v.o
theorem Si (s:av)(S:Nat->Prop)(g b1:Nat)(x:aI)(B:ag)(C D:Nat)(r:aB×Nat)(w:X)(h:aT w S g s)(ok:aK s)(hT:az w B D x.c)(hn:x.c.length=C)
 (hF:∀W G,Below w.heap.size w W->w.heap.size+1<=W.heap.size->cC W (fun k=>w.heap.size+1<=k) G s.h->Calls prog 179 #[Q (M ⟨G,0,U⟩),Q (M ⟨b1,0,U⟩)] W (bE (fun k=>w.heap.size+1<=k) 141 W G r)) :
 Calls prog 178 #[Q (M ⟨g,0,U⟩),.agg #[I J x.b,I J x.a,I J x.n,Z B C D],.func (.func 179) #[] #[Q (M ⟨b1,0,U⟩)]] w (dt S w g (bH s r x)):=by
 obtain⟨gs,gl,ao,ca,P,hI⟩:=h;have je:=(ar _ w).alloc (am _) (K #[I J x.b,I J x.a,I J x.n,Z B C D] 264);have l:=hI.e je;obtain⟨⟨c0,c1⟩,_⟩:=cD l.a;have HC:=aa (ty s.h P gs _ l.d (tI ok.h));have m:=aa hI;have uq:=aa je;have HF:=aa hF;have HT:=aa hT
 have hlt:=hI.f;clear hI l je hF hT;go_enter func178,ntmps178;go_wp2_with fail;refine HC.o.mono ?_;rintro e w2 ⟨G,rfl,H,f⟩;have p:Below w.heap.size w w2:=au uq.o f;have HD:=aa (HF.o w2 G p (by have:=f.size;simpa using this) (H.e (fun k _ e=>by simpa using e)));have L:=aa p;have q:=aa f
 clear H f p HC HF c0 c1;go_wp2_with fail;refine HD.o.mono ?_;intro e w3 hd;have j:=q.o.size;have N:w.heap.size+1<=w2.heap.size:=by simpa using j
 obtain⟨he,IG,t⟩:=hd.e N;have T:Below (w.heap.size+1) (w.alloc (K #[I J x.b,I J x.a,I J x.n,Z B C D] 264)) w3:=(q.o.mono (by simp)).trans t;have hB3:Below w.heap.size w w3:=L.o.trans (t.mono (Nat.le_succ _));obtain⟨x0,x1,x2,x3⟩:=rD (Nat.lt_succ_self _) T;have c:=aa hB3;have Ci:=aa IG
 clear hd IG t T hB3 j N HD L q;subst he;by_cases i:r.2=0
 . have u:=aa (th x B C D w3 (HT.o.a c.o) hn);rw[i];cases d:de x with
   | false =>
     have v:Hid (∀W,Below w.heap.size w W->dt S w g (bH s r x) (Y (I J (1:Nat))) W):=fun W hb=>dt.a ⟨gs,gl,ao,ca,P,m.o⟩ hb (qP i d);unfold lR at u;rw[tA d] at u;clear i d m;go_wp2_with fail;refine u.o.mono ?_;rintro e w4 ⟨sG,zk,rfl,_,a⟩;have jH:=aa (au c.o a);clear a;go_wp2;go_ret;exact v.o _ jH.o
   | true =>
     unfold lR at u;rw[ti d] at u;have hlx:(aW x).length<=1048600:=by have:=rW d;have:=nT d;omega
     by_cases hl:100000<s.a.length+(aW x).length
     . have v:Hid (∀W,Below w.heap.size w W->dt S w g (bH s r x) (Y (I J (16:Nat))) W):=fun W hb=>dt.a ⟨gs,gl,ao,ca,P,m.o⟩ hb (qN i d hl);have HL:=aa (show ¬s.a.length+(aW x).length<=100000 by omega);clear i d hl;generalize aW x=y at *;go_wp2_with fail;refine u.o.mono ?_;rintro e w4 ⟨sG,zk,rfl,_,a⟩;have b:=au c.o a;have z:=m.o.e b;obtain⟨⟨c0,c1⟩,_⟩:=cD z.a;have HW:=aa (sY z.b sG zk y.length HL.o);have jH:=aa b;clear a b z;go_wp2_with fail;refine HW.o.mono ?_;rintro e w5 ⟨rfl,DR⟩;rw[DR];clear DR;go_wp2;go_ret;exact v.o _ jH.o
     . have v:Hid (∀W,aT W (ay S w) g ⟨r.1,s.a++aW x,s.b⟩->ak S w W->dt S w g (bH s r x) (Y (I J 0)) W):=fun W h1 h2=>by
        rw[qQ i d hl];exact⟨rfl,h1,h2⟩
       have HL:=aa (show s.a.length+(aW x).length<=100000 by omega);clear i d hl;generalize aW x=y at *;go_wp2_with fail;refine u.o.mono ?_;rintro e w4 ⟨sG,zk,rfl,hO4,a⟩;have b:=au c.o a;have z:=m.o.e b;obtain⟨⟨c0,c1⟩,_⟩:=cD z.a;have HW:=aa (sU z.b sG zk y.length y hO4.f rfl HL.o);have Yt:=aa (((Ci.o.a a).e (S':=fun k=>w.heap.size<=k) (fun k _ e=>Nat.le_of_succ_le e)));have jH:=aa b;clear a b z hO4;go_wp2_with fail;refine HW.o.mono ?_;rintro e w5 ⟨Ad,ca5,rfl,hL5,A9,sQ⟩;obtain⟨oF,hA,PN⟩:=m.o.j jH.o Yt.o hL5 A9 sQ;obtain⟨⟨y0,y1⟩,z0,z1⟩:=cD oF;have HA:=aa hA;have Yu:=aa PN
       clear hL5 A9 sQ oF hA PN c0 c1;go_wp2;go_ret;exact v.o _ HA.o Yu.o
 . have v:Hid (dt S w g (bH s r x) (Y (I J (r.2:Int))) w3):=dt.a ⟨gs,gl,ao,ca,P,m.o⟩ c.o (qM i);have hc':¬(r.2:Int)=0:=by omega
   clear i;generalize (r.2:Int)=rc at *;go_wp2;go_ret;exact v.o
theorem Sj (s:av)(S:Nat->Prop)(g b1:Nat)(x:aI)(D:ag)(G H:Nat)(r:aB×Nat)(w:X)(h:aT w S g s)(ok:aK s)(hT:az w D H x.c)(hn:x.c.length=G)
 (hF:∀W m,Below w.heap.size w W->w.heap.size+1<=W.heap.size->cC W (fun k=>w.heap.size+1<=k) m s.h->Calls prog 273 #[Q (M ⟨m,0,U⟩),Q (M ⟨b1,0,U⟩)] W (bE (fun k=>w.heap.size+1<=k) 141 W m r)) :
 Calls prog 178 #[Q (M ⟨g,0,U⟩),.agg #[I J x.b,I J x.a,I J x.n,Z D G H],.func (.func 273) #[] #[Q (M ⟨b1,0,U⟩)]] w (dt S w g (bH s r x)):=by
 obtain⟨L,gl,ao,ca,P,hI⟩:=h;have je:=(ar _ w).alloc (am _) (K #[I J x.b,I J x.a,I J x.n,Z D G H] 264);have p:=hI.e je;obtain⟨⟨c0,c1⟩,_⟩:=cD p.a;have l:=aa hI;have uq:=aa je;have HF:=aa hF;have HT:=aa hT
 have hlt:=hI.f;go_enter func178,ntmps178;go_wp2_with fail;refine(ty s.h P L _ p.d (tI ok.h)).mono ?_;rintro e w2 ⟨m,rfl,hS2,d⟩;have q:=au uq.o d;have HB2:=q;have t:=aa d
 go_wp2_with fail;refine(HF.o w2 m q (by have:=d.size;simpa using this) (hS2.e (fun k _ e=>by simpa using e))).mono ?_;intro e w3 hd;have u:=t.o.size;have hs3:w.heap.size+1<=w2.heap.size:=by simpa using u
 obtain⟨he,IG,v⟩:=hd.e hs3;have hbx:=(t.o.mono (by simp)).trans v;have hB3:=HB2.trans (v.mono (Nat.le_succ _));have x0:=rD (Nat.lt_succ_self _) hbx;have b:=hB3;have Ci:=aa IG
 subst he;by_cases z:r.2=0
 . have f:=aa (th x D G H w3 (HT.o.a b) hn);rw[z];cases i:de x with
   | false =>
     have j:∀W,Below w.heap.size w W->dt S w g (bH s r x) (Y (I J (1:Nat))) W:=fun W hb=>dt.a ⟨L,gl,ao,ca,P,l.o⟩ hb (qP z i);unfold lR at f;rw[tA i] at f;go_wp2_with fail;refine f.o.mono ?_;rintro e w4 ⟨N,T,rfl,_,a⟩;have B:=au b a;go_wp2;go_ret;exact j _ B
   | true =>
     unfold lR at f;rw[ti i] at f;have hlx:(aW x).length<=1048600:=by have:=rW i;have:=nT i;omega
     by_cases hl:100000<s.a.length+(aW x).length
     . have j:Hid (∀W,Below w.heap.size w W->dt S w g (bH s r x) (Y (I J (16:Nat))) W):=fun W hb=>dt.a ⟨L,gl,ao,ca,P,l.o⟩ hb (qN z i hl);have HL:=show ¬s.a.length+(aW x).length<=100000 by omega
       generalize aW x=y at *;go_wp2_with fail;refine f.o.mono ?_;rintro e w4 ⟨N,T,rfl,_,a⟩;have c:=au b a;have C:=l.o.e c;obtain⟨⟨c0,c1⟩,_⟩:=cD C.a;have B:=aa c;go_wp2_with fail;refine(sY C.b N T y.length HL).mono ?_;rintro e w5 ⟨rfl,DR⟩;rw[DR];clear DR;go_wp2;go_ret;exact j _ B
     . have j:∀W,aT W (ay S w) g ⟨r.1,s.a++aW x,s.b⟩->ak S w W->dt S w g (bH s r x) (Y (I J 0)) W:=fun W h1 h2=>by
        rw[qQ z i hl];exact⟨rfl,h1,h2⟩
       have HL:=show s.a.length+(aW x).length<=100000 by omega
       generalize aW x=y at *;go_wp2_with fail;refine f.o.mono ?_;rintro e w4 ⟨N,T,rfl,hO4,a⟩;have c:=au b a;have C:=l.o.e c;obtain⟨⟨c0,c1⟩,_⟩:=cD C.a;have Yt:=aa (((Ci.o.a a).e (S':=fun k=>w.heap.size<=k) (fun k _ e=>Nat.le_of_succ_le e)));have B:=aa c;go_wp2_with fail;refine(sU C.b N T y.length y hO4.f rfl HL).mono ?_;rintro e w5 ⟨Ad,ca5,rfl,hL5,A9,sQ⟩;obtain⟨oF,hA,PN⟩:=l.o.j B Yt.o hL5 A9 sQ;have y0:=cD oF;have HA:=hA;have Yu:=aa PN
       go_wp2;go_ret;exact j _ HA Yu.o
 . have j:dt S w g (bH s r x) (Y (I J (r.2:Int))) w3:=dt.a ⟨L,gl,ao,ca,P,l.o⟩ b (qM z);have hc':¬(r.2:Int)=0:=by omega
   generalize (r.2:Int)=rc at *;go_wp2;go_ret;exact j
theorem Sk (s:av)(S:Nat->Prop)(g b1 b2:Nat)(x:aI)(D:ag)(G H:Nat)(r:aB×Nat)(w:X)(h:aT w S g s)(ok:aK s)(hT:az w D H x.c)(hn:x.c.length=G)
 (hF:∀W m,Below w.heap.size w W->w.heap.size+1<=W.heap.size->cC W (fun k=>w.heap.size+1<=k) m s.h->Calls prog 272 #[Q (M ⟨m,0,U⟩),Q (M ⟨b1,0,U⟩),Q (M ⟨b2,0,U⟩)] W (bE (fun k=>w.heap.size+1<=k) 141 W m r)) :
 Calls prog 178 #[Q (M ⟨g,0,U⟩),.agg #[I J x.b,I J x.a,I J x.n,Z D G H],.func (.func 272) #[] #[Q (M ⟨b1,0,U⟩),Q (M ⟨b2,0,U⟩)]] w (dt S w g (bH s r x)):=by
 obtain⟨L,gl,ao,ca,P,hI⟩:=h;have je:=(ar _ w).alloc (am _) (K #[I J x.b,I J x.a,I J x.n,Z D G H] 264);have p:=hI.e je;obtain⟨⟨c0,c1⟩,_⟩:=cD p.a;have l:=aa hI;have uq:=aa je;have HF:=aa hF;have HT:=aa hT
 have hlt:=hI.f;go_enter func178,ntmps178;go_wp2_with fail;refine(ty s.h P L _ p.d (tI ok.h)).mono ?_;rintro e w2 ⟨m,rfl,hS2,d⟩;have q:=au uq.o d;have HB2:=q;have t:=aa d
 go_wp2_with fail;refine(HF.o w2 m q (by have:=d.size;simpa using this) (hS2.e (fun k _ e=>by simpa using e))).mono ?_;intro e w3 hd;have u:=t.o.size;have hs3:w.heap.size+1<=w2.heap.size:=by simpa using u
 obtain⟨he,IG,v⟩:=hd.e hs3;have hbx:=(t.o.mono (by simp)).trans v;have hB3:=HB2.trans (v.mono (Nat.le_succ _));have x0:=rD (Nat.lt_succ_self _) hbx;have b:=hB3;have Ci:=aa IG
 subst he;by_cases z:r.2=0
 . have f:=aa (th x D G H w3 (HT.o.a b) hn);rw[z];cases i:de x with
   | false =>
     have j:∀W,Below w.heap.size w W->dt S w g (bH s r x) (Y (I J (1:Nat))) W:=fun W hb=>dt.a ⟨L,gl,ao,ca,P,l.o⟩ hb (qP z i);unfold lR at f;rw[tA i] at f;go_wp2_with fail;refine f.o.mono ?_;rintro e w4 ⟨N,T,rfl,_,a⟩;have B:=au b a;go_wp2;go_ret;exact j _ B
   | true =>
     unfold lR at f;rw[ti i] at f;have hlx:(aW x).length<=1048600:=by have:=rW i;have:=nT i;omega
     by_cases hl:100000<s.a.length+(aW x).length
     . have j:Hid (∀W,Below w.heap.size w W->dt S w g (bH s r x) (Y (I J (16:Nat))) W):=fun W hb=>dt.a ⟨L,gl,ao,ca,P,l.o⟩ hb (qN z i hl);have HL:=show ¬s.a.length+(aW x).length<=100000 by omega
       generalize aW x=y at *;go_wp2_with fail;refine f.o.mono ?_;rintro e w4 ⟨N,T,rfl,_,a⟩;have c:=au b a;have C:=l.o.e c;obtain⟨⟨c0,c1⟩,_⟩:=cD C.a;have B:=aa c;go_wp2_with fail;refine(sY C.b N T y.length HL).mono ?_;rintro e w5 ⟨rfl,DR⟩;rw[DR];clear DR;go_wp2;go_ret;exact j _ B
     . have j:∀W,aT W (ay S w) g ⟨r.1,s.a++aW x,s.b⟩->ak S w W->dt S w g (bH s r x) (Y (I J 0)) W:=fun W h1 h2=>by
        rw[qQ z i hl];exact⟨rfl,h1,h2⟩
       have HL:=show s.a.length+(aW x).length<=100000 by omega
       generalize aW x=y at *;go_wp2_with fail;refine f.o.mono ?_;rintro e w4 ⟨N,T,rfl,hO4,a⟩;have c:=au b a;have C:=l.o.e c;obtain⟨⟨c0,c1⟩,_⟩:=cD C.a;have Yt:=aa (((Ci.o.a a).e (S':=fun k=>w.heap.size<=k) (fun k _ e=>Nat.le_of_succ_le e)));have B:=aa c;go_wp2_with fail;refine(sU C.b N T y.length y hO4.f rfl HL).mono ?_;rintro e w5 ⟨Ad,ca5,rfl,hL5,A9,sQ⟩;obtain⟨oF,hA,PN⟩:=l.o.j B Yt.o hL5 A9 sQ;have y0:=cD oF;have HA:=hA;have Yu:=aa PN
       go_wp2;go_ret;exact j _ HA Yu.o
 . have j:dt S w g (bH s r x) (Y (I J (r.2:Int))) w3:=dt.a ⟨L,gl,ao,ca,P,l.o⟩ b (qM z);have hc':¬(r.2:Int)=0:=by omega
   generalize (r.2:Int)=rc at *;go_wp2;go_ret;exact j
theorem Sn (s:av)(S:Nat->Prop)(g b1 b2 b3:Nat)(x:aI)(D:ag)(G H:Nat)(r:aB×Nat)(w:X)(h:aT w S g s)(ok:aK s)(hT:az w D H x.c)(hn:x.c.length=G)
 (hF:∀W m,Below w.heap.size w W->w.heap.size+1<=W.heap.size->cC W (fun k=>w.heap.size+1<=k) m s.h->Calls prog 271 #[Q (M ⟨m,0,U⟩),Q (M ⟨b1,0,U⟩),Q (M ⟨b2,0,U⟩),Q (M ⟨b3,0,U⟩)] W (bE (fun k=>w.heap.size+1<=k) 141 W m r)) :
 Calls prog 178 #[Q (M ⟨g,0,U⟩),.agg #[I J x.b,I J x.a,I J x.n,Z D G H],.func (.func 271) #[] #[Q (M ⟨b1,0,U⟩),Q (M ⟨b2,0,U⟩),Q (M ⟨b3,0,U⟩)]] w (dt S w g (bH s r x)):=by
 obtain⟨L,gl,ao,ca,P,hI⟩:=h;have je:=(ar _ w).alloc (am _) (K #[I J x.b,I J x.a,I J x.n,Z D G H] 264);have p:=hI.e je;obtain⟨⟨c0,c1⟩,_⟩:=cD p.a;have l:=aa hI;have uq:=aa je;have HF:=aa hF;have HT:=aa hT
 have hlt:=hI.f;go_enter func178,ntmps178;go_wp2_with fail;refine(ty s.h P L _ p.d (tI ok.h)).mono ?_;rintro e w2 ⟨m,rfl,hS2,d⟩;have q:=au uq.o d;have HB2:=q;have t:=aa d
 go_wp2_with fail;refine(HF.o w2 m q (by have:=d.size;simpa using this) (hS2.e (fun k _ e=>by simpa using e))).mono ?_;intro e w3 hd;have u:=t.o.size;have hs3:w.heap.size+1<=w2.heap.size:=by simpa using u
 obtain⟨he,IG,v⟩:=hd.e hs3;have hbx:=(t.o.mono (by simp)).trans v;have hB3:=HB2.trans (v.mono (Nat.le_succ _));have x0:=rD (Nat.lt_succ_self _) hbx;have b:=hB3;have Ci:=aa IG
 subst he;by_cases z:r.2=0
 . have f:=aa (th x D G H w3 (HT.o.a b) hn);rw[z];cases i:de x with
   | false =>
     have j:∀W,Below w.heap.size w W->dt S w g (bH s r x) (Y (I J (1:Nat))) W:=fun W hb=>dt.a ⟨L,gl,ao,ca,P,l.o⟩ hb (qP z i);unfold lR at f;rw[tA i] at f;go_wp2_with fail;refine f.o.mono ?_;rintro e w4 ⟨N,T,rfl,_,a⟩;have B:=au b a;go_wp2;go_ret;exact j _ B
   | true =>
     unfold lR at f;rw[ti i] at f;have hlx:(aW x).length<=1048600:=by have:=rW i;have:=nT i;omega
     by_cases hl:100000<s.a.length+(aW x).length
     . have j:Hid (∀W,Below w.heap.size w W->dt S w g (bH s r x) (Y (I J (16:Nat))) W):=fun W hb=>dt.a ⟨L,gl,ao,ca,P,l.o⟩ hb (qN z i hl);have HL:=show ¬s.a.length+(aW x).length<=100000 by omega
       generalize aW x=y at *;go_wp2_with fail;refine f.o.mono ?_;rintro e w4 ⟨N,T,rfl,_,a⟩;have c:=au b a;have C:=l.o.e c;obtain⟨⟨c0,c1⟩,_⟩:=cD C.a;have B:=aa c;go_wp2_with fail;refine(sY C.b N T y.length HL).mono ?_;rintro e w5 ⟨rfl,DR⟩;rw[DR];clear DR;go_wp2;go_ret;exact j _ B
     . have j:∀W,aT W (ay S w) g ⟨r.1,s.a++aW x,s.b⟩->ak S w W->dt S w g (bH s r x) (Y (I J 0)) W:=fun W h1 h2=>by
        rw[qQ z i hl];exact⟨rfl,h1,h2⟩
       have HL:=show s.a.length+(aW x).length<=100000 by omega
       generalize aW x=y at *;go_wp2_with fail;refine f.o.mono ?_;rintro e w4 ⟨N,T,rfl,hO4,a⟩;have c:=au b a;have C:=l.o.e c;obtain⟨⟨c0,c1⟩,_⟩:=cD C.a;have Yt:=aa (((Ci.o.a a).e (S':=fun k=>w.heap.size<=k) (fun k _ e=>Nat.le_of_succ_le e)));have B:=aa c;go_wp2_with fail;refine(sU C.b N T y.length y hO4.f rfl HL).mono ?_;rintro e w5 ⟨Ad,ca5,rfl,hL5,A9,sQ⟩;obtain⟨oF,hA,PN⟩:=l.o.j B Yt.o hL5 A9 sQ;have y0:=cD oF;have HA:=hA;have Yu:=aa PN
       go_wp2;go_ret;exact j _ HA Yu.o
 . have j:dt S w g (bH s r x) (Y (I J (r.2:Int))) w3:=dt.a ⟨L,gl,ao,ca,P,l.o⟩ b (qM z);have hc':¬(r.2:Int)=0:=by omega
   generalize (r.2:Int)=rc at *;go_wp2;go_ret;exact j
theorem Sp (s:av)(S:Nat->Prop)(g b1 b2:Nat)(x:aI)(D:ag)(G H:Nat)(r:aB×Nat)(w:X)(h:aT w S g s)(ok:aK s)(hT:az w D H x.c)(hn:x.c.length=G)
 (hF:∀W m,Below w.heap.size w W->w.heap.size+1<=W.heap.size->cC W (fun k=>w.heap.size+1<=k) m s.h->Calls prog 265 #[Q (M ⟨m,0,U⟩),Q (M ⟨b1,0,U⟩),Q (M ⟨b2,0,U⟩)] W (bE (fun k=>w.heap.size+1<=k) 141 W m r)) :
 Calls prog 178 #[Q (M ⟨g,0,U⟩),.agg #[I J x.b,I J x.a,I J x.n,Z D G H],.func (.func 265) #[] #[Q (M ⟨b1,0,U⟩),Q (M ⟨b2,0,U⟩)]] w (dt S w g (bH s r x)):=by
 obtain⟨L,gl,ao,ca,P,hI⟩:=h;have je:=(ar _ w).alloc (am _) (K #[I J x.b,I J x.a,I J x.n,Z D G H] 264);have p:=hI.e je;obtain⟨⟨c0,c1⟩,_⟩:=cD p.a;have l:=aa hI;have uq:=aa je;have HF:=aa hF;have HT:=aa hT
 have hlt:=hI.f;go_enter func178,ntmps178;go_wp2_with fail;refine(ty s.h P L _ p.d (tI ok.h)).mono ?_;rintro e w2 ⟨m,rfl,hS2,d⟩;have q:=au uq.o d;have HB2:=q;have t:=aa d
 go_wp2_with fail;refine(HF.o w2 m q (by have:=d.size;simpa using this) (hS2.e (fun k _ e=>by simpa using e))).mono ?_;intro e w3 hd;have u:=t.o.size;have hs3:w.heap.size+1<=w2.heap.size:=by simpa using u
 obtain⟨he,IG,v⟩:=hd.e hs3;have hbx:=(t.o.mono (by simp)).trans v;have hB3:=HB2.trans (v.mono (Nat.le_succ _));have x0:=rD (Nat.lt_succ_self _) hbx;have b:=hB3;have Ci:=aa IG
 subst he;by_cases z:r.2=0
 . have f:=aa (th x D G H w3 (HT.o.a b) hn);rw[z];cases i:de x with
   | false =>
     have j:∀W,Below w.heap.size w W->dt S w g (bH s r x) (Y (I J (1:Nat))) W:=fun W hb=>dt.a ⟨L,gl,ao,ca,P,l.o⟩ hb (qP z i);unfold lR at f;rw[tA i] at f;go_wp2_with fail;refine f.o.mono ?_;rintro e w4 ⟨N,T,rfl,_,a⟩;have B:=au b a;go_wp2;go_ret;exact j _ B
   | true =>
     unfold lR at f;rw[ti i] at f;have hlx:(aW x).length<=1048600:=by have:=rW i;have:=nT i;omega
     by_cases hl:100000<s.a.length+(aW x).length
     . have j:Hid (∀W,Below w.heap.size w W->dt S w g (bH s r x) (Y (I J (16:Nat))) W):=fun W hb=>dt.a ⟨L,gl,ao,ca,P,l.o⟩ hb (qN z i hl);have HL:=show ¬s.a.length+(aW x).length<=100000 by omega
       generalize aW x=y at *;go_wp2_with fail;refine f.o.mono ?_;rintro e w4 ⟨N,T,rfl,_,a⟩;have c:=au b a;have C:=l.o.e c;obtain⟨⟨c0,c1⟩,_⟩:=cD C.a;have B:=aa c;go_wp2_with fail;refine(sY C.b N T y.length HL).mono ?_;rintro e w5 ⟨rfl,DR⟩;rw[DR];clear DR;go_wp2;go_ret;exact j _ B
     . have j:∀W,aT W (ay S w) g ⟨r.1,s.a++aW x,s.b⟩->ak S w W->dt S w g (bH s r x) (Y (I J 0)) W:=fun W h1 h2=>by
        rw[qQ z i hl];exact⟨rfl,h1,h2⟩
       have HL:=show s.a.length+(aW x).length<=100000 by omega
       generalize aW x=y at *;go_wp2_with fail;refine f.o.mono ?_;rintro e w4 ⟨N,T,rfl,hO4,a⟩;have c:=au b a;have C:=l.o.e c;obtain⟨⟨c0,c1⟩,_⟩:=cD C.a;have Yt:=aa (((Ci.o.a a).e (S':=fun k=>w.heap.size<=k) (fun k _ e=>Nat.le_of_succ_le e)));have B:=aa c;go_wp2_with fail;refine(sU C.b N T y.length y hO4.f rfl HL).mono ?_;rintro e w5 ⟨Ad,ca5,rfl,hL5,A9,sQ⟩;obtain⟨oF,hA,PN⟩:=l.o.j B Yt.o hL5 A9 sQ;have y0:=cD oF;have HA:=hA;have Yu:=aa PN
       go_wp2;go_ret;exact j _ HA Yu.o
 . have j:dt S w g (bH s r x) (Y (I J (r.2:Int))) w3:=dt.a ⟨L,gl,ao,ca,P,l.o⟩ b (qM z);have hc':¬(r.2:Int)=0:=by omega
   generalize (r.2:Int)=rc at *;go_wp2;go_ret;exact j
theorem QI (w:X):
 Calls prog 11 #[] w fun e w'=>∃g,e=Y (Q (M ⟨g,0,U⟩))∧aT w' (fun k=>w.heap.size<=k) g iX∧Below w.heap.size w w':=by
 go_enter func11,ntmps11;go_wp2_with fail;refine(Fa w).mono ?_;rintro e a ⟨rfl,m,q⟩;have v:=m.j;have r:=m;have n:=aa q
 go_wp2_with fail;refine((fun W=>Ng W) a).mono ?_;rintro e c ⟨rfl,f,b⟩;have s:=f.f;have x:=b.size;have t:=n.o.size;have d:=au n.o b;have p:aT (c.alloc (K #[Q (M ⟨w.heap.size,0,U⟩),Q (M ⟨a.heap.size,0,U⟩)] 45)) (fun k=>w.heap.size<=k) c.heap.size iX∧Below w.heap.size w (c.alloc (K #[Q (M ⟨w.heap.size,0,U⟩),Q (M ⟨a.heap.size,0,U⟩)] 45)):=by
  have j:=(ar _ c).alloc (am _) (K #[Q (M ⟨w.heap.size,0,U⟩),Q (M ⟨a.heap.size,0,U⟩)] 45);have l:dG c 0 a.heap.size [] 0 U 0:=⟨f.a,bl.q _ _ _,ax _,f.h,f.d⟩;refine⟨⟨w.heap.size,a.heap.size,U,0,fun k=>w.heap.size<=k∧k<a.heap.size,be c _,((r.e (S':=fun k=>w.heap.size<=k∧k<a.heap.size) (fun k u e=>⟨e,u⟩)).a b).a j,l.j j,d.size,fun k e=>⟨e.1,by omega,fun i=>?_⟩,fun k e=>?_⟩,au d j⟩
  . rcases i with i | i
    . omega
    . cases i
  . rcases e with e | e
    . exact⟨by show w.heap.size<=k;omega,by omega⟩
    . cases e
 go_wp2;go_ret;exact⟨_,rfl,p.1,p.2⟩
section
variable {s:av} {S:Nat->Prop} {g:Nat} {w:X}
theorem lm.q {w':X}{gs a:Nat}{ao:ag}{b:Nat}{P:Nat->Prop}{d:ab}{f:Nat}(h:lm w S g gs a ao b P s)(i:dG w' 0 a d f ao b)(c:ak (fun k=>k=a) w w'):lm w' S g gs a ao b P ⟨s.h,d,f⟩∧ak S w w' :=
 ⟨⟨c.q h.a (fun e=>(h.c a (A rfl)).2 e.symm),h.d.q c (fun k e j=>(h.h k e).2.2 (A j)),i,h.i,h.h,h.c⟩,c.f (fun k e=>by subst e;exact(h.c _ (A rfl)).1)⟩
theorem rl (h:aT w S g s):
 Calls prog 123 #[Q (M ⟨g,0,U⟩)] w fun e w'=>e=Y (.tuple #[])∧aT w' S g (eG s)∧ak S w w':=by
 obtain⟨d,f,i,j,P,a⟩:=h;obtain⟨⟨o,p⟩,_⟩:=cD a.a;go_enter func123,ntmps123;go_wp2_with fail;refine(Cm a.b).mono ?_;rintro e b ⟨rfl,k,l⟩;obtain⟨m,n⟩:=a.q k l;have c:aT b S g (eG s)∧ak S w b:=⟨⟨d,f,i,j,P,m⟩,n⟩;go_wp2;go_end0
 exact⟨rfl,c.1,c.2⟩
theorem QJ (h:aT w S g s):
 Calls prog 19 #[Q (M ⟨g,0,U⟩)] w fun e w'=>∃gL zV,e=Y (.tuple #[Z gL s.a.length zV,I J (s.b:Int)])∧az w' gL zV s.a∧Below w.heap.size w w':=by
 have f:=h.j;obtain⟨z,i,B,C,P,j⟩:=h;obtain⟨⟨D,r⟩,_⟩:=cD j.a;have t:=In (j.b.j (bg w.heap.size w));have u:∀W,Below w.heap.size w W->Calls prog 62 #[Q (M ⟨i,0,U⟩)] W fun e w'=>e=Y (I J (s.b:Int))∧w'=W:=fun W k=>Mn (j.b.j k);have v:∀W,Below w.heap.size w W->W.cell? ⟨g,1,U⟩=M (Q (M ⟨i,0,U⟩)):=fun W k=>(k.cell (p:=⟨g,1,U⟩) f).trans r;have b:=bg w.heap.size w;generalize s.a.length=n at *;go_enter func19,ntmps19;go_wp2_with fail;go_region_held3 (fun w'=>w'.cell? ⟨g,1,U⟩=M (Q (M ⟨i,0,U⟩))) (go_keep) (first | (go_at_call 61;refine t.mono ?_;rintro e l ⟨gL,zV,rfl,c,d⟩;have a:=b.trans d;have x:=v l a;have y:=aa c;have m:=aa a;clear c d a) | (go_at_call 62;refine(u _ (by first | with_reducible exact b | with_reducible exact m.o)).mono ?_;rintro e l ⟨rfl,q⟩;rw[q];clear q))
 all_goals
  go_wp2;go_ret2;exact⟨_,_,rfl,y.o,m.o⟩
end
section
variable {s:av} {S:Nat->Prop} {g:Nat} {w:X}
theorem QK (h:aT w S g s)(ok:aK s)(a:Int):
 Calls prog 125 #[Q (M ⟨g,0,U⟩),I J a] w (dt S w g (kY s a)):=by
 have d:Below w.heap.size w ((w.alloc (K #[I J a] 3)).alloc (K #[I J 6,I J a,I J 0,Z U 0 0] 264)):=((ar _ _).alloc (by simp;try omega) _).alloc (by simp;try omega) _;have b:∀W,Below ((w.alloc (K #[I J a] 3)).alloc (K #[I J 6,I J a,I J 0,Z U 0 0] 264)).heap.size ((w.alloc (K #[I J a] 3)).alloc (K #[I J 6,I J a,I J 0,Z U 0 0] 264)) W->W.cell? ⟨w.heap.size,0,U⟩=M (I J a):=fun W f=>by rw[f.cell (p:=⟨w.heap.size,0,U⟩) (by simp;try omega)];exact jP _ _ _ _ (lQ _ _ _ _ (by simp;try omega))
 have k:=aa (T6 s S g w.heap.size ⟨6,a,0,[]⟩ U 0 0 (lD s.h a) _ (h.e d) ok (az.e _) rfl (fun W l f _ m=>Qv s.h _ l w.heap.size a W m ok.h (b W f)));have n:=aa d;have t:∀(i:Fn) (first c:Array Value) (w:X),(Instr.makeFunc i first c).run prog w=.ok (.func i first c) w:=fun _ _ _ _=>rfl;unfold kY;generalize bH s _ _=r at *;clear h ok d b;go_enter func125,ntmps125;go_wp2_with fail;refine k.o.mono ?_;intro e u j;have q:=aa (dt.e n.o j);obtain⟨rfl,_,_⟩:=j;go_wp2;go_ret;exact q.o
theorem MR (h:aT w S g s)(ok:aK s)(a:Int):
 Calls prog 122 #[Q (M ⟨g,0,U⟩),I J a] w (dt S w g (fr s a)):=by
 have d:Below w.heap.size w ((w.alloc (K #[I J a] 3)).alloc (K #[I J 5,I J a,I J 0,Z U 0 0] 264)):=((ar _ _).alloc (by simp;try omega) _).alloc (by simp;try omega) _;have b:∀W,Below ((w.alloc (K #[I J a] 3)).alloc (K #[I J 5,I J a,I J 0,Z U 0 0] 264)).heap.size ((w.alloc (K #[I J a] 3)).alloc (K #[I J 5,I J a,I J 0,Z U 0 0] 264)) W->W.cell? ⟨w.heap.size,0,U⟩=M (I J a):=fun W f=>by rw[f.cell (p:=⟨w.heap.size,0,U⟩) (by simp;try omega)];exact jP _ _ _ _ (lQ _ _ _ _ (by simp;try omega))
 have k:=aa (Si s S g w.heap.size ⟨5,a,0,[]⟩ U 0 0 (kj s.h a) _ (h.e d) ok (az.e _) rfl (fun W l f _ m=>Qw s.h _ l w.heap.size a W m ok.h (b W f)));have n:=aa d;have t:∀(i:Fn) (first c:Array Value) (w:X),(Instr.makeFunc i first c).run prog w=.ok (.func i first c) w:=fun _ _ _ _=>rfl;unfold fr;generalize bH s _ _=r at *;clear h ok d b;go_enter func122,ntmps122;go_wp2_with fail;refine k.o.mono ?_;intro e u j;have q:=aa (dt.e n.o j);obtain⟨rfl,_,_⟩:=j;go_wp2;go_ret;exact q.o
theorem BP (h:aT w S g s)(ok:aK s)(a:Int):
 Calls prog 218 #[Q (M ⟨g,0,U⟩),I J a] w (dt S w g (gc s a)):=by
 have f:Below w.heap.size w ((w.alloc (K #[I J a] 3)).alloc (K #[I J 4,I J a,I J 0,Z U 0 0] 264)):=((ar _ _).alloc (by simp;try omega) _).alloc (by simp;try omega) _;have c:∀W,Below ((w.alloc (K #[I J a] 3)).alloc (K #[I J 4,I J a,I J 0,Z U 0 0] 264)).heap.size ((w.alloc (K #[I J a] 3)).alloc (K #[I J 4,I J a,I J 0,Z U 0 0] 264)) W->W.cell? ⟨w.heap.size,0,U⟩=M (I J a):=fun W d=>by rw[d.cell (p:=⟨w.heap.size,0,U⟩) (by simp;try omega)];exact jP _ _ _ _ (lQ _ _ _ _ (by simp;try omega))
 have k:=Sj s S g w.heap.size ⟨4,a,0,[]⟩ U 0 0 (mt s.h a) _ (h.e f) ok (az.e _) rfl (fun W l d _ m=>Qx s.h _ l w.heap.size a W m ok.h (c W d));have o:∀(i:Fn) (first b:Array Value) (w:X),(Instr.makeFunc i first b).run prog w=.ok (.func i first b) w:=fun _ _ _ _=>rfl;unfold gc;generalize bH s _ _=r at *;go_enter func218,ntmps218;go_wp2_with fail;refine k.mono ?_;intro e q j;have n:=dt.e f j;obtain⟨rfl,_,_⟩:=j;go_wp2;go_ret;exact n
theorem LD (h:aT w S g s)(ok:aK s)(a:Int)(b:Int):
 Calls prog 217 #[Q (M ⟨g,0,U⟩),I J a,I J b] w (dt S w g (qL s a b)):=by
 have j:Below w.heap.size w (((w.alloc (K #[I J a] 3)).alloc (K #[I J b] 3)).alloc (K #[I J 3,I J a,I J b,Z U 0 0] 264)):=(((ar _ _).alloc (by simp;try omega) _).alloc (by simp;try omega) _).alloc (by simp;try omega) _;have f:∀W,Below (((w.alloc (K #[I J a] 3)).alloc (K #[I J b] 3)).alloc (K #[I J 3,I J a,I J b,Z U 0 0] 264)).heap.size (((w.alloc (K #[I J a] 3)).alloc (K #[I J b] 3)).alloc (K #[I J 3,I J a,I J b,Z U 0 0] 264)) W->W.cell? ⟨w.heap.size,0,U⟩=M (I J a):=fun W c=>by rw[c.cell (p:=⟨w.heap.size,0,U⟩) (by simp;try omega)];exact jP _ _ _ _ (jP _ _ _ _ (lQ _ _ _ _ (by simp;try omega)))
 have i:∀W,Below (((w.alloc (K #[I J a] 3)).alloc (K #[I J b] 3)).alloc (K #[I J 3,I J a,I J b,Z U 0 0] 264)).heap.size (((w.alloc (K #[I J a] 3)).alloc (K #[I J b] 3)).alloc (K #[I J 3,I J a,I J b,Z U 0 0] 264)) W->W.cell? ⟨w.heap.size+1,0,U⟩=M (I J b):=fun W c=>by rw[c.cell (p:=⟨w.heap.size+1,0,U⟩) (by simp;try omega)];exact jP _ _ _ _ (lQ _ _ _ _ (by simp;try omega))
 have m:=Sk s S g w.heap.size (w.heap.size+1) ⟨3,a,b,[]⟩ U 0 0 (lC s.h a b) _ (h.e j) ok (az.e _) rfl (fun W n c _ o=>QB s.h _ n w.heap.size (w.heap.size+1) a b W o ok.h (f W c) (i W c));have t:∀(k:Fn) (first d:Array Value) (w:X),(Instr.makeFunc k first d).run prog w=.ok (.func k first d) w:=fun _ _ _ _=>rfl;unfold qL;generalize bH s _ _=r at *;go_enter func217,ntmps217;go_wp2_with fail;refine m.mono ?_;intro e u l;have q:=dt.e j l;obtain⟨rfl,_,_⟩:=l;go_wp2;go_ret;exact q
theorem yd (h:aT w S g s)(ok:aK s)(b:Int)(a:Int)(bo:ag)(c d:Nat)(l:ab)(o:az w bo d l)(q:l.length=c)(v:c<=1000000):
 Calls prog 216 #[Q (M ⟨g,0,U⟩),I J b,I J a,Z bo c d] w (dt S w g (cK s b a l)):=by
 have j:Below w.heap.size w ((((w.alloc (K #[I J b] 3)).alloc (K #[I J a] 3)).alloc (K #[Z bo c d] 31)).alloc (K #[I J 2,I J b,I J 0,Z bo c d] 264)):=((((ar _ _).alloc (by simp;try omega) _).alloc (by simp;try omega) _).alloc (by simp;try omega) _).alloc (by simp;try omega) _;have k:∀W,Below ((((w.alloc (K #[I J b] 3)).alloc (K #[I J a] 3)).alloc (K #[Z bo c d] 31)).alloc (K #[I J 2,I J b,I J 0,Z bo c d] 264)).heap.size ((((w.alloc (K #[I J b] 3)).alloc (K #[I J a] 3)).alloc (K #[Z bo c d] 31)).alloc (K #[I J 2,I J b,I J 0,Z bo c d] 264)) W->W.cell? ⟨w.heap.size,0,U⟩=M (I J b):=fun W f=>by rw[f.cell (p:=⟨w.heap.size,0,U⟩) (by simp;try omega)];exact jP _ _ _ _ (jP _ _ _ _ (jP _ _ _ _ (lQ _ _ _ _ (by simp;try omega))))
 have m:∀W,Below ((((w.alloc (K #[I J b] 3)).alloc (K #[I J a] 3)).alloc (K #[Z bo c d] 31)).alloc (K #[I J 2,I J b,I J 0,Z bo c d] 264)).heap.size ((((w.alloc (K #[I J b] 3)).alloc (K #[I J a] 3)).alloc (K #[Z bo c d] 31)).alloc (K #[I J 2,I J b,I J 0,Z bo c d] 264)) W->W.cell? ⟨w.heap.size+1,0,U⟩=M (I J a):=fun W f=>by rw[f.cell (p:=⟨w.heap.size+1,0,U⟩) (by simp;try omega)];exact jP _ _ _ _ (jP _ _ _ _ (lQ _ _ _ _ (by simp;try omega)))
 have n:∀W,Below ((((w.alloc (K #[I J b] 3)).alloc (K #[I J a] 3)).alloc (K #[Z bo c d] 31)).alloc (K #[I J 2,I J b,I J 0,Z bo c d] 264)).heap.size ((((w.alloc (K #[I J b] 3)).alloc (K #[I J a] 3)).alloc (K #[Z bo c d] 31)).alloc (K #[I J 2,I J b,I J 0,Z bo c d] 264)) W->W.cell? ⟨w.heap.size+2,0,U⟩=M (Z bo c d):=fun W f=>by rw[f.cell (p:=⟨w.heap.size+2,0,U⟩) (by simp;try omega)];exact jP _ _ _ _ (lQ _ _ _ _ (by simp;try omega))
 have x:=Sn s S g w.heap.size (w.heap.size+1) (w.heap.size+2) ⟨2,b,0,l⟩ bo c d (iM s.h b a l) _ (h.e j) ok (o.a j) q (fun W y f _ z=>QD s.h _ y w.heap.size (w.heap.size+1) (w.heap.size+2) b a bo c d l W z ok.h (k W f) (m W f) (n W f) ((o.a j).a f) q v);have C:∀(t:Fn) (first i:Array Value) (w:X),(Instr.makeFunc t first i).run prog w=.ok (.func t first i) w:=fun _ _ _ _=>rfl;unfold cK;generalize bH s _ _=r at *;go_enter func216,ntmps216;go_wp2_with fail;refine x.mono ?_;intro e D u;have B:=dt.e j u;obtain⟨rfl,_,_⟩:=u;go_wp2;go_ret;exact B
end
structure G3 (S:Nat->Prop)(w:X)(g:Nat)(s:av)(r:av×Nat)(e:Ending)(w':X):Prop where
 b:e=Y (.tuple #[I J (nj s r.2),I J (r.2:Int)])
 a:aT w' (ay S w) g r.1
 c:ak S w w'
section
variable {s:av} {S:Nat->Prop} {g:Nat} {w:X}
theorem BU (h:aT w S g s)(ok:aK s)(a:Int)(m:ae)(L:m.size<=1000000):
 Calls prog 208 #[Q (M ⟨g,0,U⟩),I J a,V m] w (G3 S w g s (cw s a m)):=by
 have b:Below w.heap.size w ((w.alloc (K #[I J a] 3)).alloc (K #[V m] 9)):=((ar _ _).alloc (am _) _).alloc (by simp) _;have B:((w.alloc (K #[I J a] 3)).alloc (K #[V m] 9)).cell? ⟨w.heap.size,0,U⟩=M (I J a):=jP _ _ _ _ (lQ _ _ _ _ rfl);have N:((w.alloc (K #[I J a] 3)).alloc (K #[V m] 9)).cell? ⟨w.heap.size+1,0,U⟩=M (V m):=lQ _ _ _ _ (by simp);have k:((w.alloc (K #[I J a] 3)).alloc (K #[V m] 9)).heap.size=w.heap.size+2:=by simp
 obtain⟨d,C⟩:∃W,((w.alloc (K #[I J a] 3)).alloc (K #[V m] 9))=W:=⟨_,rfl⟩;rw[C] at b B N k;have h2:=h.e b;obtain⟨gs,gl,ao,ca,P,D⟩:=h2;obtain⟨⟨c0,c1⟩,_⟩:=cD D.a;have hl:=ok.q;have HN:=Em s.h P gs d D.d ok.h.c (by omega);obtain⟨u,G,hcv,f,hs3,l⟩:=EO (P:=prog) d m 9 31 5 underlying9 underlying31 underlying5;have n:=au b f;have x:=(ar _ G).alloc (am _) (K #[I J 1,I J (s.h.a+1),I J a,Z (M ⟨d.heap.size,0,U⟩) m.size u] 264);have o:=au n x;have j:∀W,Below (G.alloc (K #[I J 1,I J (s.h.a+1),I J a,Z (M ⟨d.heap.size,0,U⟩) m.size u] 264)).heap.size (G.alloc (K #[I J 1,I J (s.h.a+1),I J a,Z (M ⟨d.heap.size,0,U⟩) m.size u] 264)) W->W.cell? ⟨w.heap.size,0,U⟩=M (I J a)∧W.cell? ⟨w.heap.size+1,0,U⟩=M (V m):=fun W y=>by
  have q:=au f (au x y);exact⟨(q.cell (p:=⟨w.heap.size,0,U⟩) (show w.heap.size<d.heap.size by omega)).trans B,(q.cell (p:=⟨w.heap.size+1,0,U⟩) (show w.heap.size+1<d.heap.size by omega)).trans N⟩
 have HC:=Sp s S g w.heap.size (w.heap.size+1) ⟨1,s.h.a+1,a,m.data.toList⟩ (M ⟨d.heap.size,0,U⟩) m.size u (nr s.h a m) _ (h.e o) ok (l.a x) (by simp) (fun W g' y _ hS=>QE s.h _ g' w.heap.size (w.heap.size+1) a m W hS ok.h (j W y).1 (j W y).2 (by omega) L);have Ro:∀(T:Fn) (first t:Array Value) (w:X),(Instr.makeFunc T first t).run prog w=.ok (.func T first t) w:=fun _ _ _ _=>rfl;have d1:=(f.cell (p:=⟨w.heap.size,0,U⟩) (show w.heap.size<d.heap.size by omega)).trans B;unfold cw;generalize bH s _ _=r at *;have OO:∀c:Nat,c=0->nj s c=s.h.a+1:=fun c i=>by unfold nj;rw[if_pos i]
 have H:∀c:Nat,c≠0->nj s c=0:=fun c i=>by unfold nj;rw[if_neg i]
 clear h ok b n  x j D k  l f c1 L;generalize hla:s.h.a=la at *;go_enter func208,ntmps208;go_wp2_with fail;refine HN.mono ?_;rintro e w1 ⟨rfl,hw⟩;rw[hw];clear hw;go_wp2_with fail;refine HC.mono ?_;intro e w2 hd;have z:=dt.e o hd;obtain⟨rfl,_,_⟩:=hd;by_cases i:r.2=0
 . rw[i];go_wp2;go_ret2;exact⟨by rw[OO _ i,i];rfl,z.c,z.b⟩
 . have hc':¬(r.2:Int)=0:=by omega
   have HX:∀v,v=(r.2:Int)->G3 S w g s r (Y (.tuple #[I J 0,I J v])) w2:=fun v hv=>⟨by rw[H _ i,hv],z.c,z.b⟩;generalize (r.2:Int)=rc at *;go_wp2;go_ret2;exact HX _ rfl
end
inductive lY (w:X)(S So:Nat->Prop)(g gt:Nat)(m:ab)(s:bi)(t:dI)(w':X):Prop
 | mk (S' So':Nat->Prop) (hF:dK w' S' g m s) (hO:et w' So' gt t) (hd:∀k,S' k->¬So' k) (hS:∀k,S' k->S k∨w.heap.size<=k) (hSo:∀k,So' k->So k∨w.heap.size<=k) (hT:ak (fun k=>S k∨So k) w w')
inductive uE (w:X)(S So:Nat->Prop)(g gt:Nat)(t:dI)(w':X):Prop
 | mk (So':Nat->Prop) (sk ln:Value) (ah pl pt cd:Int) (fo:ag) (nf fZ:Nat) (hR:dV w' g sk ah ln fo nf fZ pl pt cd) (hO:et w' So' gt t) (hd:¬So' g) (hSo:∀k,So' k->So k∨w.heap.size<=k) (hT:ak (fun k=>S k∨So k) w w')
inductive xO (w:X)(S So:Nat->Prop)(g gt:Nat)(m:ab)(s:bi)(c:UInt8)(t:dI)(e:Ending)(w':X):Prop
 | ok (he:e=Y (I J 0)) (h:lY w S So g gt m (cB m s c).1 (dz t (cB m s c).2) w')
 | fail (k:Nat) (hk:k≠0) (hN:cB m s c=iR k) (he:e=Y (I J (k:Int))) (h:uE w S So g gt t w')
section
variable {w w1 w':X} {S:Nat->Prop} {g gs gl:Nat} {m:ab} {s:bi}
theorem dK.y (h:dK w S g m s)(b:iJ s)(p:Nat)(c:p≠6):dK (w.setCell ⟨g,4,U⟩ (I J (p:Int))) S g m { s with b:=p }∧ak S w (w.setCell ⟨g,4,U⟩ (I J (p:Int))):=by
 cases h with
 | dead h a row=>exact absurd b h
 | live h a gs gl q d f D row inn =>
   exact⟨.live ⟨h.1,c⟩ a gs gl q d f D (row.E p) ((inn.a (dV.e w g 4 _) (fun k e=>e.2)).q rfl rfl rfl),(dV.e w g 4 _).f (fun k e=>by subst e;exact a)⟩
theorem dK.j {p:ke}{fo:ag}{fZ:Nat}{D:Nat->Prop}(l:iJ s)(i:S g)(row:dV w g (Q (M ⟨gs,0,U⟩)) (s.d:Int) (Q (M ⟨gl,0,U⟩)) fo s.e.length fZ (s.b:Int) (s.f:Int) (s.g:Int))(inn:jT w (fun k=>S k∧k≠g) m s gs gl p fo fZ D)
 {c a2:Nat} (n:er w1 gs m c p) (o:w.grownBy w1 (M gs)):dK (w1.setCell ⟨g,1,U⟩ (I J (a2:Int))) S g m { s with c:=c,d:=a2 }∧ak S w (w1.setCell ⟨g,1,U⟩ (I J (a2:Int))):=by
 have b:ak (fun k=>k=gs) w w1:=ak.y o (fun k e=>by injection e with e;exact e.symm);have j:ak (fun k=>k=g) w1 (w1.setCell ⟨g,1,U⟩ (I J (a2:Int))):=dV.e w1 g 1 _;have d:gs≠g:=inn.b.1.2;have q:=(row.j b (fun e=>d e.symm)).nE (a2:Int);have f:∀k,(((S k∧k≠g)∧D k)->¬k=gs):=fun k e r=>inn.e.1 (r▸e.2);have t:jT w1 (fun k=>S k∧k≠g) m { s with c:=c,d:=a2 } gs gl p fo fZ D:=⟨n,inn.b,inn.e,inn.g.e b f,inn.f.f b (fun a e=>(inn.j a e).1),inn.c⟩;refine⟨.live l i gs gl p fo fZ D q (t.a j (fun k e=>e.2)),(b.f (fun k e=>by subst e;exact inn.b.1.1)).a (j.f (S':=S) (fun k e=>by subst e;exact i)) (fun _ e _=>e)⟩
end
structure sb (w0:X)(S So:Nat->Prop)(g gt:Nat)(m:ab)(s:bi)(t:dI)(w:X):Prop where
 b:dK w (fun k=>S k∧k<w0.heap.size) g m s
 a:et w (fun k=>So k∧k<w0.heap.size) gt t
 c:∀k,S k->¬So k
 d:ak (fun k=>S k∨So k) w0 w
section
variable {w0 w w':X} {S So:Nat->Prop} {g gt:Nat} {m:ab} {s s':bi} {t t':dI}
theorem sb.f (b:dK w S g m s)(c:et w So gt t)(hd:∀k,S k->¬So k):sb w S So g gt m s t w:=⟨b.f (fun _ a e=>⟨e,a⟩),c.e (fun _ a e=>⟨e,a⟩),hd,ak.r _ _⟩
theorem sb.e (h:sb w0 S So g gt m s t w)(b:dK w' (fun k=>S k∧k<w0.heap.size) g m s')(a:ak (fun k=>S k∧k<w0.heap.size) w w'):sb w0 S So g gt m s' t w' :=
 ⟨b,h.a.a a (fun k e c=>h.c k c.1 e.1),h.c,h.d.a a (fun _ e _=>A e.1)⟩
theorem sb.q (h:sb w0 S So g gt m s t w):lY w0 S So g gt m s t w :=
 .mk _ _ h.b h.a (fun k e a=>h.c k e.1 a.1) (fun _ e=>A e.1) (fun _ e=>A e.1) h.d
theorem sb.j (h:sb w0 S So g gt m s t w)(d:et w' (ay (fun k=>So k∧k<w0.heap.size) w) gt t')(b:ak (fun k=>So k∧k<w0.heap.size) w w'):lY w0 S So g gt m s t' w'∧dK w' (fun k=>S k∧k<w0.heap.size) g m s:=by
 have f:=h.d.b;have c:=h.b.e b (fun k e a=>h.c k e.1 a.1);refine⟨.mk _ _ c d (fun k e a=>?_) (fun k e=>A e.1) (fun k e=>?_) (h.d.a b (fun i e _=>R e.1)),c⟩
 . rcases a with a | a
   . exact h.c k e.1 a.1
   . have:=e.2;omega
 . rcases e with e | e
   . exact A e.1
   . exact R (by omega)
end
theorem lY.a {w0 w w':X}{S So l n:Nat->Prop}{g gt:Nat}{m:ab}{o:bi}{p:dI}(a:∀k,l k->S k∨w0.heap.size<=k)(q:∀k,n k->So k∨w0.heap.size<=k)(r:ak (fun k=>S k∨So k) w0 w)(s:lY w l n g gt m o p w'):lY w0 S So g gt m o p w':=by
 obtain⟨t,b,c,d,f,j,u,v⟩:=s;have x:=r.b;refine .mk t b c d f (fun k e=>?_) (fun k e=>?_) (r.a v (fun i e y=>?_))
 . rcases j k e with e | e
   . exact a k e
   . exact R (by omega)
 . rcases u k e with e | e
   . exact q k e
   . exact R (by omega)
 . rcases e with e | e
   . rcases a i e with e | e
     . exact A e
     . omega
   . rcases q i e with e | e
     . exact R e
     . omega
theorem LS (w:World)(S So:Nat->Prop)(g gt:Nat)(m:ab)(s:bi)(c:UInt8)(t:dI)(h:dK w S g m s)(hl:iJ s)(hp:s.b=0)(hG:ie m s)(hO:et w So gt t)(hd:∀k,S k->¬So k)(hm:m.length<=1000)(ha:s.d<=2)(hes:t.b.length<=80000)(hbs:t.a.length<=80000):
 Calls prog 354 #[.pointer (some ⟨g,0,none⟩),.pointer (some ⟨gt,0,none⟩),.int .u8 c.toNat] w fun e w'=>e=.returned (.tuple #[])∧lY w S So g gt m (cB m s c).1 (dz t (cB m s c).2) w':=by
 have hP:=sb.f h hO hd;have hN:cB m s c=({ s with c:=fK m s.c c,d:=s.d-(dD m s.c c).length,b:=if eU m s.c c then 1 else 0 },if 0<s.f then ih ((dD m s.c c).drop s.d)++(if eU m s.c c then [ua] else []) else []):=by
  unfold cB;rw[if_neg (fun k=>k hl),if_pos hp]
 have hol:=zH m s.c c hG.a;have hhl:=hG.a;cases hP.b with
 | dead h2 me row=>exact absurd hl h2
 | live h2 me gs gl p fo fZ D row inn =>
   have c0:=row.q;have hne:g≠gs:=fun e=>inn.b.1.2 e.symm;have hSo:∀w1 a2,er w1 gs m (fK m s.c c) p->w.grownBy w1 (some gs)->sb w S So g gt m { s with c:=fK m s.c c,d:=a2 } t (w1.setCell ⟨g,1,none⟩ (.int .i64 ((a2:Nat):Int))):=fun w1 a2 hS hG=>by
    obtain⟨r1,r2⟩:=dK.j (a2:=a2) hl me row inn hS hG;exact hP.e r1 r2
   have HG:=And.intro hl hp;have hlt:=row.f;generalize hout:dD m s.c c=out at *;generalize hfd:eU m s.c c=fd at *;generalize haf:fK m s.c c=af at *;go_enter func354,ntmps354;go_wp2_with fail;refine(Jq w g gs s.d m s.c c p row.q row.B (row.a 1) hne inn.d hG.a hm (by omega)).mono ?_;rintro e w2 ⟨w1,ao,cap,n,he,hn,hw,hB,hlo,hS,hGr⟩;rw[hout] at hn hw hB;rw[hfd] at he;rw[haf] at hS;subst he;have hP2:=hSo w1 (s.d-out.length) hS hGr;have hB2:az w2 ao cap (out.drop s.d):=by
    rw[hw];exact hB.r (dV.e w1 g 1 _) (fun a e e2=>by have:=hlo a e;omega)
   rw[<-hw] at hP2;have uz:=hP2;have HB2:=aa hB2;have Ye:=aa hn
   obtain⟨c4,c5,_,fz⟩:=hP2.b.a;have f4:=fz 4;have hnl:n<=1001:=by rw[hn,cQ];omega
   have HMv:=fun(W:World) (hW:dK W (fun k=>S k∧k<w.heap.size) g m { s with c:=af,d:=s.d-out.length })=>hW.y HG.1 1 (by decide);clear hP2 hB2 hn hB hS hGr hw hlo fz  hout hfd haf;have c5:=c5;by_cases hpt:0<s.f
   . have tp:decide ((s.f:Int) > 0)=true:=bq (by omega);go_wp2_with fail;refine(LR w2 _ gt t ao cap n (out.drop s.d) uz.a HB2.o Ye.o.symm (by omega)).mono ?_;rintro e w3 ⟨rfl,hO3,qj⟩;obtain⟨hW3,YK⟩:=uz.j hO3 qj;obtain⟨c4',c5',_,fz⟩:=YK.a;have f4':=fz 4;have sW:=hO3;have HW3:=aa hW3;have HF3:=aa YK;have HT3:=aa qj
     have c5':=c5';cases fd with
     | false =>
       go_wp2;refine aS (results_none rfl _ _ _) rfl ?_;refine⟨rfl,?_⟩;rw[hN,if_pos hpt];show lY w S So g gt m { s with c:=af,d:=s.d-out.length,b:=0 } (dz t (ih (out.drop s.d)++[])) w3;rw[fx,Do];have:({ s with c:=af,d:=s.d-out.length,b:=0 }:bi)={ s with c:=af,d:=s.d-out.length }:=by have:=HG.2;cases s;simp only at this;subst this;rfl
       rw[this];exact HW3.o
     | true =>
       obtain⟨hm1,hm2⟩:=HMv w3 HF3.o;have hTo:=sW.a hm2 (fun k e e2=>by
        rcases e with e | e
        . exact uz.c k e2.1 e.1
        . have:=e2.2;have:=uz.d.b;omega)
       have YL:=hm1;have MI:=aa hm2
       have YM:=hm1.a.2.1;have YM:=YM;go_wp2_with fail;refine(yw _ _ gt _ 6 ⟨#[]⟩ ⟨#[]⟩ ⟨#[]⟩ 0 hTo (by decide) (by show t.b.length<=90000;omega)).mono ?_;rintro e w5 ⟨rfl,yg,wO⟩;have zT:=yg;have U1:=aa wO
       go_wp2;go_end0
       refine⟨rfl,?_⟩;rw[hN,if_pos hpt];show lY w S So g gt m { s with c:=af,d:=s.d-out.length,b:=1 } (dz t (ih (out.drop s.d)++[ua])) w5;rw[DZ,Do];have hz:=HT3.o.b;have hz0:=uz.d.b;have hF5:=YL.e U1.o (fun k e e2=>by
        rcases e2 with e2 | e2
        . exact uz.c k e.1 e2.1
        . have:=e.2;omega)
       refine .mk _ _ hF5 zT (fun k e e2=>?_) (fun _ e=>Or.inl e.1) (fun k e=>?_) (((uz.d.a HT3.o (fun _ e _=>Or.inr e.1)).a MI.o (fun _ e _=>Or.inl e.1)).a U1.o (fun i e hi=>?_))
       . rcases e2 with e2 | e2
         . rcases e2 with e2 | e2
           . exact uz.c k e.1 e2.1
           . have:=e.2;omega
         . have:=e.2;simp at e2;omega
       . rcases e with e | e
         . rcases e with e | e
           . exact Or.inl e.1
           . exact Or.inr (by omega)
         . exact Or.inr (by simp at e;omega)
       . rcases e with e | e
         . exact Or.inr e.1
         . omega
   . have tp:decide ((s.f:Int) > 0)=false:=aX (by omega);cases fd with
     | false =>
       go_wp2;refine aS (results_none rfl _ _ _) rfl ?_;refine⟨rfl,?_⟩;rw[hN,if_neg hpt];show lY w S So g gt m { s with c:=af,d:=s.d-out.length,b:=0 } t w2;have:({ s with c:=af,d:=s.d-out.length,b:=0 }:bi)={ s with c:=af,d:=s.d-out.length }:=by have:=HG.2;cases s;simp only at this;subst this;rfl
       rw[this];exact uz.q
     | true =>
       obtain⟨hm1,hm2⟩:=HMv w2 uz.b;have YL:=hm1;have MI:=aa hm2
       have YM:=hm1.a.2.1;have YM:=YM;go_wp2;go_end0
       refine⟨rfl,?_⟩;rw[hN,if_neg hpt];exact(uz.e YL MI.o).q
theorem dV.mH {w:X}{g:Nat}{f ln:Value}{fo:ag}{nf fZ:Nat}{e pl c d:Int}(h:dV w g f e ln fo nf fZ pl c d)(a b:Int):
 dV (((((((w.setCell ⟨g,0,U⟩ (Q U)).setCell ⟨g,1,U⟩ (I J 0)).setCell ⟨g,2,U⟩ (Q U)).setCell ⟨g,3,U⟩ (Z U 0 0)).setCell ⟨g,4,U⟩ (I J a)).setCell ⟨g,5,U⟩ (I J 0)).setCell ⟨g,6,U⟩ (I J b)) g (Q U) 0 (Q U) U 0 0 a 0 b ∧
 ak (fun k=>k=g) w (((((((w.setCell ⟨g,0,U⟩ (Q U)).setCell ⟨g,1,U⟩ (I J 0)).setCell ⟨g,2,U⟩ (Q U)).setCell ⟨g,3,U⟩ (Z U 0 0)).setCell ⟨g,4,U⟩ (I J a)).setCell ⟨g,5,U⟩ (I J 0)).setCell ⟨g,6,U⟩ (I J b)):=by
 have i:dV (w.setCell ⟨g,0,U⟩ (Q U)) g (Q U) e ln fo nf fZ pl c d:=⟨by rw[aR w g 0 _ _ _ h.b];rfl⟩;have j:=i.nE 0;have l:dV (((w.setCell ⟨g,0,U⟩ (Q U)).setCell ⟨g,1,U⟩ (I J 0)).setCell ⟨g,2,U⟩ (Q U)) g (Q U) 0 (Q U) fo nf fZ pl c d:=⟨by rw[aR _ g 2 _ _ _ j.b];rfl⟩;have m:=((l.lH U 0 0).E a).jZ 0;refine⟨⟨by rw[aR _ g 6 _ _ _ m.b];rfl⟩,js g [Q U,I J 0,Q U,Z U 0 0,I J a,I J 0,I J b] 0 w⟩
theorem Ub (w:X)(S So:Nat->Prop)(g gt:Nat)(m:ab)(s:bi)(c:UInt8)(t:dI)(h:dK w S g m s)(r:iJ s)(N:s.b=1∨s.b=2∨s.b=3∨s.b=4)(hO:et w So gt t)(hd:∀k,S k->¬So k)(hes:t.b.length<=80000):
 Calls prog 356 #[Q (M ⟨g,0,U⟩),Q (M ⟨gt,0,U⟩),I .u8 c.toNat] w fun e w'=>xO w S So g gt m s c t e w':=by
 have T:=sb.f h hO hd;have hN:=J8 m N r.1 c;have u:=R7 w s.b c N;cases T.b with
 | dead W v row=>exact absurd r W
 | live W v gs gl p fo fZ D row inn =>
   have l:=T;have z:=aa hN;have yM:=aa row;have HL:=aa r;have d:=aa v
   have c4:=row.r;have f4:=row.a 4
   have hlt:=row.f;have B:¬So g:=hd g v.1;generalize hx:(ij s.b c).1=x at *;generalize hy:(ij s.b c).2=y at *;by_cases b:y=0
   . subst b;by_cases f:x=6
     . subst f;have a:=yM.o.E 6;have c0':=a.q;have c1':=a.B;have c2':=a.lG;have c3':=a.G;have c4':=a.r;have c5':=a.y;have c6':=a.jL
       have f0':=a.a 0;have f1':=a.a 1;have f2':=a.a 2;have f3':=a.a 3;have f4':=a.a 4;have f5':=a.a 5;have f6':=a.a 6
       obtain⟨ZX,Fh⟩:=a.mH 6 0;have RH:=ZX;have YN:=aa Fh
       have hT:=((dV.e w g 4 (I J 6)).a Fh (fun _ e _=>e)).f (S':=fun k=>S k∧k<w.heap.size) (fun k e=>by subst e;exact d.o);have i:dK _ (fun k=>S k∧k<w.heap.size) g m uc:=.dead J7 d.o RH;have n:=l.e i hT;go_enter func356,ntmps356;go_wp2_with fail;refine u.mono ?_;rintro e j ⟨rfl,q⟩;subst q;go_wp2_with fail;refine(yw _ _ gt t 3 ⟨#[]⟩ ⟨#[]⟩ ⟨#[]⟩ 0 n.a (by decide) (by omega)).mono ?_;rintro e w5 ⟨rfl,yg,wO⟩;have C:=(n.j yg wO).1;go_wp2;go_ret;refine .ok rfl ?_;rw[z.o];exact C
     . have t6:((x:Int)==6)=F:=by rw[aO];omega
       obtain⟨G,H⟩:=l.b.y HL.o x f;have C:=(l.e G H).q;go_enter func356,ntmps356;go_wp2_with fail;refine u.mono ?_;rintro e j ⟨rfl,q⟩;subst q;go_wp2;go_ret;refine .ok rfl ?_;rw[z.o,if_neg (fun e=>e rfl),if_neg f];exact C
   . have hx0:x≠6:=fun e=>by
      have:=J9 s.b c;rw[hx,hy] at this;exact b (this e)
     have t6:((x:Int)==6)=F:=by rw[aO];omega
     have L:=yM.o.E (x:Int);go_enter func356,ntmps356;go_wp2_with fail;refine u.mono ?_;rintro e j ⟨rfl,q⟩;subst q;have HT:ak (fun k=>S k∧k<j.heap.size) j (j.setCell ⟨g,4,U⟩ (I J (x:Int))):=(dV.e j g 4 _).f (fun k e=>by subst e;exact d.o);go_wp2;go_ret;refine .fail y b (by rw[z.o,if_pos b]) rfl ?_;exact .mk _ _ _ _ _ _ _ _ _ _ L (l.a.a HT (fun k e e2=>l.c k e2.1 e.1)) (fun e=>B e.1) (fun k e=>A e.1) (HT.f (fun k e=>A e.1))
inductive Tg (w:X)(g:Nat)(fo:ag)(nf:Nat)(fs:List gA)(t:ab)(e:Ending)(w':X):Prop
 | many (h:nf=16) (he:e=Y (I J 8)) (hw:w'=w)
 | bad (h:nf≠16) (c:Nat) (hc:c≠0) (hd:(aZ t).a=c) (he:e=Y (I J (c:Int))) (hB:Below w.heap.size w w')
 | ok (h:nf≠16) (hd:(aZ t).a=0) (w3:X) (g3 iw:Nat) (he:e=Y (I J 0)) (hw:w'=w3.setCell ⟨g,3,U⟩ (Z (M ⟨g3,0,U⟩) (nf+1) iw)) (hO:aL w3 0 148 2 (M ⟨g3,0,U⟩) iw (nf+1) (aJ (cf (fs++[((aZ t).b,(aZ t).c)])))) (hT:ak (fun k=>aw fo=M k) w w3) (hat:aw fo=M g3∨w.heap.size<=g3)
theorem Ol (w:X)(g:Nat)(fo:ag)(nf fZ:Nat)(D:List gA)(t:ae)(c3:w.cell? ⟨g,3,U⟩=M (Z fo nf fZ))(f3:w.frozen? ⟨g,3,U⟩=F)(r:aw fo≠M g)(ho:aL w 0 148 2 fo fZ nf (aJ (cf D)))(hn:nf<=16)(ht:t.size<=2000):
 Calls prog 372 #[Q (M ⟨g,2,U⟩),V t] w fun e w'=>Tg w g fo nf D t.data.toList e w':=by
 by_cases i:nf=16
 . have L:((nf:Int)==16)=true:=by rw[i];rfl
   go_enter func372,ntmps372;go_wp2;go_ret;exact .many i rfl rfl
 . have L:((nf:Int)==16)=F:=by rw[aO];omega
   have s:=yt t w ht;unfold tZ at s;have n:=ch w _ c3;by_cases N:(aZ t.data.toList).a=0
   . rw[N] at s;obtain⟨c,v⟩:∃c:ae,(⟨(aZ t.data.toList).b.toArray⟩:ae)=c:=⟨_,rfl⟩;obtain⟨d,x⟩:∃d:ae,(⟨(aZ t.data.toList).c.toArray⟩:ae)=d:=⟨_,rfl⟩;rw[v,x] at s;have T:Hid (aJ (cf D)++[V c,V d]=aJ (cf (D++[((aZ t.data.toList).b,(aZ t.data.toList).c)]))):=by
      unfold Hid;rw[F3,ye,<-v,<-x];rfl
     have hK:∀W,Below w.heap.size w W->W.cell? ⟨g,3,U⟩=M (Z fo nf fZ):=fun W y=>(y.cell n).trans c3;have hK2:∀W G,Below w.heap.size w W->W.grownBy G (Value.slice fo nf fZ).ownBlock->G.cell? ⟨g,3,U⟩=M (Z fo nf fZ)∧G.frozen? ⟨g,3,U⟩=F:=fun W G y q=>by
      rw[dp] at q;have hb:W.heap[g]? = w.heap[g]?:=y.block g n;refine⟨q.cell (hK W y) (fun e=>r e.symm),?_⟩;rw[vz (a:=⟨g,3,U⟩) ((q.block g (nC n y.size) (fun e=>r e.symm)).trans hb)];exact f3
     have HK:=hK;have z:=aa hK2
     obtain⟨i0,hi0,hz0,hz1,hz2⟩:=info_parts pX;have Hi:=hi0;have kS:=aa hz0;have kM:=aa hz1;have kT:=aa hz2
     have HN:nf+1<=maxLen∧(nf+1)*32<=140737488355328:=⟨by unfold maxLen;omega,by omega⟩;go_enter func372,ntmps372;go_wp2_with fail;refine s.mono ?_;rintro e l ⟨rfl,B⟩;have p:Below w.heap.size w (l.alloc (K #[V c,V d] 148)):=B.trans ((ar _ _).alloc B.size _);have C:Below w.heap.size w ((l.alloc (K #[V c,V d] 148)).alloc (K #[V c,V d] 148)):=p.trans ((ar _ _).alloc p.size _);have m:Below w.heap.size w ((l.alloc (K #[V c,V d] 148)).alloc (K #[V c,V d] 148)).drew:=C.trans ⟨rfl,rfl,rfl,am _,fun _ _=>rfl⟩;have k3:=HK _ p;have j3:=HK _ C;have Wi:=aL.below ho m (fun a e=>(ho.e a e).2);have Yr:∀j u,([V c,V d]:List Value)[j]? = M u->((l.alloc (K #[V c,V d] 148)).alloc (K #[V c,V d] 148)).drew.cell? (Addr.add ⟨l.heap.size+1,0,U⟩ j)=M u:=fun j u H=>by
      rw[gg,eh];show((l.alloc (K #[V c,V d] 148)).alloc (K #[V c,V d] 148)).cell? _=_;rw[World.cell?_alloc_at _ _ _ _ (by simp),mB];exact H
     have HS:=B.size;go_wp2;go_region_law
      ((refine step_append_lies _ (by rfl) _ _ _ (by rfl) 0 148 i0 (.agg #[V ⟨#[]⟩,V ⟨#[]⟩]) 2 32 underlying80 Hi kS.o kM.o kT.o (by rfl) (by decide) (Z fo nf fZ) nf _ (by rfl) Wi ⟨l.heap.size+1,0,U⟩ 1 1 [V c,V d] (by rfl) (by rfl) Yr (fun u H=>by simp at H;rcases H with rfl | rfl <;> rfl) (by decide) HN.1 HN.2 (ax _) (l.heap.size+2) (by simp) ?_;intro g3 iw w3 f b kE hlt3;have yK:=aa b;have sW:=aa f;have Ki:=aa kE;have q3:=(z.o _ _ m b).1;have qf:=(z.o _ _ m b).2;clear b f kE))
     all_goals
      go_wp2;go_ret;have q:=yK.o;have hA:=Ki.o
      rw[dp] at q hA;refine .ok i N w3 g3 iw rfl rfl (by rw[<-T.o];exact sW.o) ((ak.e m).a (ak.y (S:=fun k=>aw fo=M k) q (fun k e=>e)) (fun _ e _=>e)) ?_;rcases hA with e | e
      . exact A e
      . exact R (by have:=HS;omega)
   . have tc:(((aZ t.data.toList).a:Int)==0)=F:=by rw[aO];omega
     generalize hcc:(aZ t.data.toList).a=cc at *;go_enter func372,ntmps372;go_wp2_with fail;refine s.mono ?_;rintro e l ⟨rfl,B⟩;have xS:=au B ((ar _ _).alloc (am _) (K #[V ⟨(aZ t.data.toList).b.toArray⟩,V ⟨(aZ t.data.toList).c.toArray⟩] 148));go_wp2;go_ret;exact .bad i cc N hcc rfl xS
inductive tN (w:X)(S So:Nat->Prop)(g gt:Nat)(m:ab)(s:bi)(tx:ab)(t:dI)(e:Ending)(w':X):Prop
 | ok (he:e=Y (I J 0)) (h:lY w S So g gt m (dZ s tx).1 (dz t (dZ s tx).2) w')
 | fail (k:Nat) (hk:k≠0) (hN:dZ s tx=iR k) (he:e=Y (I J (k:Int))) (h:uE w S So g gt t w')
theorem Om {s:bi}{p:oL}(b:kF s.e=.inr p)(a:s.f≠12):dZ s []=({ s with e:=[],f:=s.f+1,b:=0,c:=2,d:=2 },[wJ p]):=by
 have:=Ka (s:=s) b a;exact this
theorem Qq {s:bi}{c:Nat}(a:kF s.e=.inl c):dZ s []=iR c:=by
 unfold dZ;rw[if_neg (fun h=>h rfl),a]
theorem Qs {s:bi}{p:oL}(b:kF s.e=.inr p)(a:s.f=12):dZ s []=iR 8:=by grind [kF,dZ,iR]
theorem Qt (w:X)(S So:Nat->Prop)(g gt:Nat)(m:ab)(s:bi)(t:dI)(h:dK w S g m s)(hl:iJ s)(h0:s.c=0)(hm:s.e.length<=16)(hsh:∀f∈s.e,f.1.length<=200∧f.2.length<=200)(hpt:s.f<=12)(hO:et w So gt t)(hd:∀k,S k->¬So k)(h2:m.take 2=[13,10])(h3:3<=m.length)(hL:m.length<=1000)(hes:t.b.length<=80000):
 Calls prog 373 #[Q (M ⟨g,0,U⟩),Q (M ⟨gt,0,U⟩)] w fun e w'=>tN w S So g gt m s [] t e w':=by
 have hP:=sb.f h hO hd;cases hP.b with
 | dead h2 me row=>exact absurd hl h2
 | live hl2 me G gl p fo fZ D row inn =>
   have v:ak (fun k=>k=g) w (w.setCell ⟨g,3,U⟩ (Z U 0 0)):=dV.e w g 3 _;have r1:=row.lH U 0 0;have i0:jT w (fun k=>(S k∧k<w.heap.size)∧k≠g) m { s with e:=[] } G gl p U 0 D:=⟨inn.d,inn.b,inn.e,inn.g,aL.q _ _ _ _,fun a e=>(by cases e)⟩;have i1:=i0.a v (fun k e=>e.2);have hV:=inn.f.a.r v (fun a e=>(inn.c a e).1.2);have hne:g≠G:=fun e=>inn.b.1.2 e.symm;have NH:=QO w g fo s.e.length fZ row.G (row.a 3);have r:=aa (R9 (cf s.e) fo fZ s.e.length _ hV (uO _) (by omega) (fun q hq=>by
    unfold cf at hq;obtain⟨f,hf,rfl⟩:=oh.1 hq;have:=hsh f hf;refine⟨?_,?_⟩
    . show f.1.toArray.size<=_;rw[cx];omega
    . show f.2.toArray.size<=_;rw[cx];omega))
   rw[Gi] at r;have HP:=hP;have x:=aa r1;have H:=aa i1;have y:=aa v;have z:=aa me;have HLv:=aa hl;have HH0:=aa h0
   have hlt:=row.f;have L:¬So g:=hd g me.1;have HM:m.take 2=[13,10]∧3<=m.length∧m.length<=1000:=⟨h2,h3,hL⟩;have N:∀(u:X),Below (w.setCell ⟨g,3,U⟩ (Z U 0 0)).heap.size (w.setCell ⟨g,3,U⟩ (Z U 0 0)) u->uE w S So g gt t u:=fun u hb=>by
    have hTd:=(HP.a.a y.o (fun k e e2=>by subst e2;exact L e.1)).f hb;exact .mk _ _ _ _ _ _ _ _ _ _ (x.o.kW hb) hTd (fun e=>L e.1) (fun k e=>A e.1) ((y.o.f (S':=fun k=>S k∨So k) (fun k e=>by subst e;exact A z.o.1)).a (ak.e hb) (fun _ e _=>e))
   cases d:kF s.e with
   | inl k =>
     have hk:=Kb d;have T:=Qq d;rw[d] at r;unfold ub at r;simp only at r;have tc:((k:Int) != 0)=true:=by rw[dh];omega
     go_enter func373,ntmps373;go_wp2_with fail;refine NH.mono ?_;rintro e w1 ⟨rfl,W⟩;subst W;go_wp2_with fail;refine r.o.mono ?_;rintro e n ⟨rfl,i⟩;have HF:=N _ (au i ((ar _ _).alloc (am _) (K #[V ⟨#[]⟩,V ⟨#[]⟩,V ⟨#[]⟩,Z U 0 0] 96)));go_wp2;go_ret;exact .fail k hk T rfl HF
   | inr c =>
     rw[d] at r;unfold ub at r;simp only at r;by_cases B:s.f=12
     . have T:=aa (Qs d B);have t12:((s.f:Int)==12)=true:=by rw[B];rfl
       go_enter func373,ntmps373;go_wp2_with fail;refine NH.mono ?_;rintro e w1 ⟨rfl,W⟩;subst W;go_wp2_with fail;refine r.o.mono ?_;rintro e n ⟨rfl,i⟩;have j:=au i ((ar _ _).alloc (am _) (K #[V ⟨c.b.toArray⟩,V ⟨c.a.toArray⟩,V ⟨c.c.toArray⟩,Z U 0 0] 96));have HF:=N _ j;have c5:=(x.o.kW j).y;go_wp2;go_ret;exact .fail 8 (by decide) T rfl HF
     . have T:=aa (Om d B);have t12:((s.f:Int)==12)=F:=by rw[aO];omega
       go_enter func373,ntmps373;go_wp2_with fail;refine NH.mono ?_;rintro e w1 ⟨rfl,W⟩;subst W;go_wp2_with fail;refine r.o.mono ?_;rintro e n ⟨rfl,i⟩;have j:=au i ((ar _ _).alloc (am _) (K #[V ⟨c.b.toArray⟩,V ⟨c.a.toArray⟩,V ⟨c.c.toArray⟩,Z U 0 0] 96));have C:=be n (K #[V ⟨c.b.toArray⟩,V ⟨c.a.toArray⟩,V ⟨c.c.toArray⟩,Z U 0 0] 96);have hw2:w.heap.size<=n.heap.size:=by have:=i.size;simpa using this
       go_upto_region 2 with fail
       generalize hW2:(n.alloc (K #[V ⟨c.b.toArray⟩,V ⟨c.a.toArray⟩,V ⟨c.c.toArray⟩,Z U 0 0] 96))=u at *;have r2:=x.o.kW j;have r3:=(r2.jZ ((s.f:Int)+1)).E 0;have qj:ak (fun k=>k=g) u ((u.setCell ⟨g,5,U⟩ (I J ((s.f:Int)+1))).setCell ⟨g,4,U⟩ (I J 0)):=(dV.e u g 5 _).a (dV.e _ g 4 _) (fun _ e _=>e);have i3:=(H.o.y j).a qj (fun k e=>e.2);have c5:=r2.y;have f5:=r2.a 5
       have c4:=(r2.jZ ((s.f:Int)+1)).r;have f4:=(r2.jZ ((s.f:Int)+1)).a 4
       have hSk:er ((u.setCell ⟨g,5,U⟩ (I J ((s.f:Int)+1))).setCell ⟨g,4,U⟩ (I J 0)) G m 0 p:=by have:=i3.d;rw[show({ s with e:=[] }:bi).c=0 from HH0.o] at this;exact this
       have HSb:=Ig _ g G m p _ r3.q r3.B (r3.a 1) hne hSk HM.1 HM.2.1 (by have:=HM.2.2;omega);have HB3:=j;have afL:=aa C;have HR3:=aa r3;have HT3:=aa qj;have HI3:=aa i3
       go_wp2_with fail;refine HSb.mono ?_;rintro e l ⟨w4,rfl,DR,hS5,NC⟩;obtain⟨r5,t5⟩:=dK.j (s:={ s with e:=[],f:=s.f+1,b:=0 }) (a2:=2) (S:=fun k=>S k∧k<w.heap.size) ⟨HLv.o.1,by show(0:Nat)≠6;decide⟩ z.o HR3.o (HI3.o.q rfl rfl rfl) hS5 NC;have e5:w4.setCell ⟨g,1,U⟩ (I J ((2:Nat):Int))=l:=DR.symm;rw[e5] at r5 t5;have hgs:G<w.heap.size:=by have:=H.o.d.e;simpa using this
       have Dq:∀{a b:X},ak (fun k=>k=g) a b->ak (fun k=>S k∧k<w.heap.size) a b:=fun hh=>hh.f (fun k e=>by subst e;exact z.o);have acg:ak (fun k=>S k∧k<w.heap.size) w l:=(((Dq y.o).a (ak.e HB3) (fun _ e _=>e)).a (Dq HT3.o) (fun _ e _=>e)).a t5 (fun _ e _=>e);have RU:=HP.e r5 acg;have q1:=HT3.o.q afL.o (fun e=>by omega);have q2:w4.heap[n.heap.size]? = _:=(NC.block _ (bM.1 q1).1 (fun e=>by injection e with e;omega)).trans q1;have q3:l.heap[n.heap.size]? = M (K #[V ⟨c.b.toArray⟩,V ⟨c.a.toArray⟩,V ⟨c.c.toArray⟩,Z U 0 0] 96 (0,0)):=by
        rw[<-e5];exact(dV.e w4 g 1 _).q q2 (fun e=>by omega)
       have p0:l.cell? ⟨n.heap.size,0,U⟩=M (V ⟨c.b.toArray⟩):=aq l _ 0 _ _ _ q3;have p1:l.cell? ⟨n.heap.size,1,U⟩=M (V ⟨c.a.toArray⟩):=aq l _ 1 _ _ _ q3;have p2:l.cell? ⟨n.heap.size,2,U⟩=M (V ⟨c.c.toArray⟩):=aq l _ 2 _ _ _ q3;have p3:l.cell? ⟨n.heap.size,3,U⟩=M (Z U 0 0):=aq l _ 3 _ _ _ q3;have HAd:=yw l _ gt t 5 ⟨c.b.toArray⟩ ⟨c.a.toArray⟩ ⟨c.c.toArray⟩ 0 RU.a (by decide) (by omega);clear r5 t5 e5 acg  q1 q2 q3 Dq DR hS5 NC hgs;go_wp2_with fail;refine HAd.mono ?_;rintro e w6 ⟨rfl,Fg,CU⟩;have HW:=(RU.j Fg CU).1;clear Fg CU;go_wp2;go_ret;refine .ok rfl ?_;rw[T];exact HW
theorem uE.a {w0 w w':X}{S So f j:Nat->Prop}{g gt:Nat}{l:dI}(a:∀k,f k->S k∨w0.heap.size<=k)(m:∀k,j k->So k∨w0.heap.size<=k)(n:ak (fun k=>S k∨So k) w0 w)(o:uE w f j g gt l w'):uE w0 S So g gt l w':=by
 obtain⟨b,p,q,r,pl,s,t,u,v,x,y,c,d,z,B⟩:=o;have C:=n.b;refine .mk b p q r pl s t u v x y c d (fun k e=>?_) (n.a B (fun i e D=>?_))
 . rcases z k e with e | e
   . exact m k e
   . exact R (by omega)
 . rcases e with e | e
   . rcases a i e with e | e
     . exact A e
     . omega
   . rcases m i e with e | e
     . exact R e
     . omega
theorem tN.a {w0 w w':X}{S So d f:Nat->Prop}{g gt:Nat}{m:ab}{s i:bi}{c:UInt8}{j:ab}{t:dI}{e:Ending}(l:cB m s c=dZ i j)(a:∀k,d k->S k∨w0.heap.size<=k)(n:∀k,f k->So k∨w0.heap.size<=k)(o:ak (fun k=>S k∨So k) w0 w)(h:tN w d f g gt m i j t e w'):xO w0 S So g gt m s c t e w':=by
 cases h with
 | ok b h=>exact .ok b (by rw[l];exact lY.a a n o h)
 | fail k p q b h=>exact .fail k p (l.trans q) b (uE.a a n o h)
theorem LE (w:X)(S So:Nat->Prop)(g gt:Nat)(m:ab)(s:bi)(d:ab)(t:dI)(h:dK w S g m s)(hl:iJ s)(hm:s.e.length<=16)(hO:et w So gt t)(hd:∀k,S k->¬So k)(W:d≠[])(hz:d.length<=200):
 Calls prog 372 #[Q (M ⟨g,2,U⟩),V ⟨d.toArray⟩] w fun e w'=>tN w S So g gt m s d t e w':=by
 have N:=sb.f h hO hd;cases N.b with
 | dead h2 T row=>exact absurd hl h2
 | live hl2 T gs gl p z fZ D row inn =>
   have v:¬So g:=hd g T.1;refine(Ol w g z s.e.length fZ s.e ⟨d.toArray⟩ row.G (row.a 3) (fun e=>?_) inn.f hm (by show d.toArray.size<=_;rw[cx];omega)).mono ?_
   . cases z with
     | none=>cases e
     | some a=>injection e with e;exact(inn.c a rfl).1.2 e
   . intro e w' hF;have B:dZ s d=if s.e.length=16 then iR 8 else if (aZ d).a≠0 then iR (aZ d).a else ({ s with e:=s.e++[((aZ d).b,(aZ d).c)] },[]):=by
      unfold dZ;rw[if_pos W]
     cases hF with
     | many q G hw =>
       rw[if_pos q] at B;subst hw;exact .fail 8 (by decide) B G (.mk _ _ _ _ _ _ _ _ _ _ row N.a (fun e=>v e.1) (fun k e=>A e.1) (ak.r _ _))
     | bad q c hc n G hB =>
       have n:=n;rw[if_neg q,n,if_pos hc] at B;exact .fail c hc B G (.mk _ _ _ _ _ _ _ _ _ _ (row.kW hB) (N.a.f hB) (fun e=>v e.1) (fun k e=>A e.1) (ak.e hB))
     | ok q n r o x G hw H C y =>
       have n:=n;rw[if_neg q,n,if_neg (fun e=>e rfl)] at B;refine .ok G ?_;rw[B];subst hw;have i:∀k,aw z=M k->∃a,z=M a∧a.block=k:=fun k e=>by
        cases z with
        | none=>cases e
        | some a=>injection e with e;exact⟨a,rfl,e⟩
       have hz3:=C.b;have zi:ak (fun k=>k=g) r (r.setCell ⟨g,3,U⟩ (Z (M ⟨o,0,U⟩) (s.e.length+1) x)):=dV.e r g 3 _;have hlt:=row.f;have r3:=(row.j C (fun e=>by obtain⟨a,j,l⟩:=i g e;exact(inn.c a j).1.2 l)).lH (M ⟨o,0,U⟩) (s.e.length+1) x;have hg3:o<r.heap.size:=(H.e _ rfl).2;have aif:o≠g:=fun e=>by
        rcases y with f | f
        . obtain⟨a,j,l⟩:=i o f;exact(inn.c a j).1.2 (l.trans e)
        . omega
       have u:(s.e++[((aZ d).b,(aZ d).c)]).length=s.e.length+1:=by rw[aD];rfl
       have i3:jT r (fun k=>(S k∧k<w.heap.size∨w.heap.size<=k∧k<r.heap.size)∧k≠g) m { s with e:=s.e++[((aZ d).b,(aZ d).c)] } gs gl p (M ⟨o,0,U⟩) x (fun k=>D k∧k<w.heap.size):=by
        refine⟨inn.d.j C ?_ ?_ ?_,⟨⟨A inn.b.1.1,inn.b.1.2⟩,⟨A inn.b.2.1.1,inn.b.2.1.2⟩,fun a e=>⟨A (inn.b.2.2 a e).1,(inn.b.2.2 a e).2⟩⟩,⟨fun e=>inn.e.1 e.1,fun e=>inn.e.2.1 e.1,fun a e f=>inn.e.2.2 a e f.1⟩,?_,?_,?_⟩
        . intro e;obtain⟨a,j,l⟩:=i _ e;exact(inn.j a j).1 l
        . intro e;obtain⟨a,j,l⟩:=i _ e;exact(inn.j a j).2.1 l
        . intro b hb e;obtain⟨a,j,l⟩:=i _ e;exact(inn.j a j).2.2 b hb l
        . have:=(inn.g.a (S':=fun k=>((S k∧k<w.heap.size∨w.heap.size<=k∧k<r.heap.size)∧k≠g)∧(D k∧k<w.heap.size)) (fun k hk e=>⟨⟨A e.1.1,e.1.2⟩,e.2,hk⟩));exact this.e C (fun k e f=>by obtain⟨a,j,l⟩:=i _ f;exact(inn.c a j).2 (l▸e.2.1))
        . show aL r 0 148 2 (M ⟨o,0,U⟩) x (s.e++[((aZ d).b,(aZ d).c)]).length _;rw[u];exact H
        . intro a e;injection e with e;subst e;refine⟨⟨?_,aif⟩,fun f=>?_⟩
          . rcases y with f | f
            . obtain⟨a,j,l⟩:=i o f;exact A (l▸(inn.c a j).1.1)
            . exact R ⟨f,hg3⟩
          . rcases y with e3 | e3
            . obtain⟨a,j,l⟩:=i o e3;exact(inn.c a j).2 (l▸f.1)
            . have h9:o<w.heap.size:=f.2;omega
       have i4:=i3.a zi (fun k e=>e.2);have r4:dV (r.setCell ⟨g,3,U⟩ (Z (M ⟨o,0,U⟩) (s.e.length+1) x)) g (Q (M ⟨gs,0,U⟩)) (s.d:Int) (Q (M ⟨gl,0,U⟩)) (M ⟨o,0,U⟩) (s.e++[((aZ d).b,(aZ d).c)]).length x (s.b:Int) (s.f:Int) (s.g:Int):=by rw[u];exact r3
       have L:∀k,aw z=M k->S k∧k<w.heap.size:=fun k e=>by obtain⟨a,j,l⟩:=i k e;exact l▸(inn.c a j).1.1
       refine .mk (fun k=>S k∧k<w.heap.size∨w.heap.size<=k∧k<r.heap.size) (fun k=>So k∧k<w.heap.size) (.live (s:={ s with e:=s.e++[((aZ d).b,(aZ d).c)] }) hl (A T) gs gl p _ x _ r4 i4) ((N.a.a C (fun k e f=>hd k (L k f).1 e.1)).a zi (fun k e f=>by subst f;exact v e.1)) (fun k e f=>?_) (fun k e=>?_) (fun k e=>A e.1) ?_
       . rcases e with e | e
         . exact hd k e.1 f.1
         . have:=f.2;omega
       . rcases e with e | e
         . exact A e.1
         . exact R e.1
       . exact(C.f (S':=fun k=>S k∨So k) (fun k e=>A (L k e).1)).a (zi.f (S':=fun k=>S k∨So k) (fun k e=>by subst e;exact A T.1)) (fun _ e _=>e)
theorem dK.B {w f:X}{S:Nat->Prop}{g gs i:Nat}{m:ab}{s:bi}{p:ke}{fo:ag}{fZ:Nat}{D:Nat->Prop}{d:ct}(n:iJ s)(o:S g)(b:∀k,S k->k<w.heap.size)(row:dV w g (Q (M ⟨gs,0,U⟩)) (s.d:Int) (Q (M ⟨i,0,U⟩)) fo s.e.length fZ (s.b:Int) (s.f:Int) (s.g:Int))(inn:jT w (fun k=>S k∧k≠g) m s gs i p fo fZ D)
 (q:cN f (ay (fun k=>(S k∧k≠g)∧D k) w) i d) (j:ak (fun k=>(S k∧k≠g)∧D k) w f):dK f (fun k=>S k∨w.heap.size<=k∧k<f.heap.size) g m { s with a:=d }:=by
 have r:=row.f;refine .live n (A o) gs i p fo fZ (fun k=>D k∧k<w.heap.size∨w.heap.size<=k) (row.j j (fun e=>e.1.2 rfl)) ⟨inn.d.j j (fun e=>inn.e.1 e.2) (fun e=>inn.e.2.1 e.2) (fun a e c=>inn.e.2.2 a e c.2),⟨⟨A inn.b.1.1,inn.b.1.2⟩,⟨A inn.b.2.1.1,inn.b.2.1.2⟩,fun a e=>⟨A (inn.b.2.2 a e).1,(inn.b.2.2 a e).2⟩⟩,⟨?_,?_,?_⟩,q.a (fun k t e=>?_),inn.f.f j (fun a e c=>(inn.c a e).2 c.2),fun a e=>⟨⟨A (inn.c a e).1.1,(inn.c a e).1.2⟩,?_⟩⟩
 . intro e;rcases e with e | e
   . exact inn.e.1 e.1
   . have:=b _ inn.b.1.1;omega
 . intro e;rcases e with e | e
   . exact inn.e.2.1 e.1
   . have:=b _ inn.b.2.1.1;omega
 . intro a l e;rcases e with e | e
   . exact inn.e.2.2 a l e.1
   . have:=b _ (inn.b.2.2 a l).1;omega
 . rcases e with e | e
   . exact⟨⟨A e.1.1,e.1.2⟩,A ⟨e.2,b k e.1.1⟩⟩
   . exact⟨⟨R ⟨e,t⟩,by omega⟩,R e⟩
 . intro c;rcases c with c | c
   . exact(inn.c a e).2 c.1
   . have:=b _ (inn.c a e).1.1;omega
theorem LT (w:X)(S So:Nat->Prop)(g gt:Nat)(m:ab)(s:bi)(c:UInt8)(t:dI)(h:dK w S g m s)(G:iJ s)(hp:s.b=5)(H:ie m s)(hO:et w So gt t)(hd:∀k,S k->¬So k)(L:m.take 2=[13,10])(h3:3<=m.length)(hL:m.length<=1000)(N:t.b.length<=80000):
 Calls prog 355 #[Q (M ⟨g,0,U⟩),Q (M ⟨gt,0,U⟩),I .u8 c.toNat] w fun e w'=>xO w S So g gt m s c t e w':=by
 have T:=sb.f h hO hd;have W:=J6 m hp G.1 c;cases T.b with
 | dead L me row=>exact absurd G L
 | live hl2 me gs gl p fo fZ D row inn =>
   have n:=xX w _ gl s.a c inn.g H.b.c;unfold kH at n;have c2:=row.lG;have HP:=T;have q:=aa W;have yM:=aa row
   have hgo:¬So g:=hd g me.1;have r:∀a,cN a (ay (fun k=>((S k∧k<w.heap.size)∧k≠g)∧D k) w) gl (bj s.a c)->ak (fun k=>((S k∧k<w.heap.size)∧k≠g)∧D k) w a->dK a (fun k=>(S k∧k<w.heap.size)∨w.heap.size<=k∧k<a.heap.size) g m { s with a:=bj s.a c }∧et a (fun k=>So k∧k<w.heap.size) gt t∧ak (fun k=>S k∨So k) w a:=fun a d b =>
    ⟨dK.B G me (fun k e=>e.2) row inn d b,T.a.a b (fun k e e2=>hd k e2.1.1.1 e.1),b.f (fun k e=>A e.1.1.1)⟩
   have f:∀a:X,∀k,((S k∧k<w.heap.size)∨w.heap.size<=k∧k<a.heap.size)->¬(So k∧k<w.heap.size):=fun a k e e2=>by
    rcases e with e | e
    . exact hd k e.1 e2.1
    . omega
   have z:=H;have B:=aa G;have HPl:=aa hp;have HM:Hid (m.take 2=[13,10]∧3<=m.length∧m.length<=1000):=⟨L,h3,hL⟩
   by_cases u:(bj s.a c).a=0
   . have tc:(((bj s.a c).a:Int) != 0)=F:=by rw[u];rfl
     cases j:fI s.a c with
     | false =>
       rw[j] at n q;rw[if_neg (fun e=>e u),if_neg (by simp)] at q;generalize C:((bj s.a c).a:Int)=cd at n tc;have HCd:Hid (cd=0):=by unfold Hid;rw[<-C,u];rfl
       generalize (⟨(cT s.a c).toArray⟩:ae)=tx at *;go_enter func355,ntmps355;go_wp2_with fail;refine n.mono ?_;rintro e a ⟨rfl,d,b⟩;have i:=r a d b;go_wp2;go_ret;refine .ok (by rw[HCd.o];rfl) ?_;rw[q.o];exact .mk _ _ i.1 i.2.1 (f a) (fun k e=>e.imp (fun e=>e.1) (fun e=>e.1)) (fun k e=>A e.1) i.2.2
     | true =>
       rw[j] at n q;rw[if_neg (fun e=>e u),if_pos rfl] at q;have hsh:=(xw (c:=c) H.b).1;have mG:=Dv j;rw[u] at n;by_cases x:cT s.a c=[]
       . have HB:∀a,dK a (fun k=>(S k∧k<w.heap.size)∨w.heap.size<=k∧k<a.heap.size) g m { s with a:=bj s.a c }->et a (fun k=>So k∧k<w.heap.size) gt t->Calls prog 373 #[Q (M ⟨g,0,U⟩),Q (M ⟨gt,0,U⟩)] a fun e w'=>tN a (fun k=>(S k∧k<w.heap.size)∨w.heap.size<=k∧k<a.heap.size) (fun k=>So k∧k<w.heap.size) g gt m { s with a:=bj s.a c } [] t e w':=fun a y tq =>
          Qt a _ _ g gt m { s with a:=bj s.a c } t y B.o (z.h (by rw[HPl.o];decide)) z.c z.e z.d tq (f a) HM.o.1 HM.o.2.1 HM.o.2.2 N
         rw[x] at n q;go_enter func355,ntmps355;go_wp2_with fail;refine n.mono ?_;rintro e a ⟨rfl,d,b⟩;have i:=r a d b;go_wp2_with fail;refine(HB a i.1 i.2.1).mono ?_;intro e w2 l;have HK:=tN.a (w0:=w) q.o (S:=S) (So:=So) (fun k e=>e.imp (fun e=>e.1) (fun e=>e.1)) (fun k e=>A e.1) i.2.2 l;obtain⟨v,hv⟩:∃v,e=Y v:=by cases l with
          | ok j h=>exact⟨_,j⟩
          | fail k hk W j h=>exact⟨_,j⟩
         subst hv;go_wp2;go_ret;exact HK
       . have ttx:((⟨(cT s.a c).toArray⟩:ae).toList==[])=F:=by rw[aO,Lib.toList_data];exact x
         have HB:∀a,dK a (fun k=>(S k∧k<w.heap.size)∨w.heap.size<=k∧k<a.heap.size) g m { s with a:=bj s.a c }->et a (fun k=>So k∧k<w.heap.size) gt t->Calls prog 372 #[Q (M ⟨g,2,U⟩),V ⟨(cT s.a c).toArray⟩] a fun e w'=>tN a (fun k=>(S k∧k<w.heap.size)∨w.heap.size<=k∧k<a.heap.size) (fun k=>So k∧k<w.heap.size) g gt m { s with a:=bj s.a c } (cT s.a c) t e w':=fun a y tq =>
          LE a _ _ g gt m { s with a:=bj s.a c } (cT s.a c) t y B.o z.c tq (f a) x hsh
         generalize (⟨(cT s.a c).toArray⟩:ae)=tx at *;go_enter func355,ntmps355;go_wp2_with fail;refine n.mono ?_;rintro e a ⟨rfl,d,b⟩;have i:=r a d b;go_wp2_with fail;refine(HB a i.1 i.2.1).mono ?_;intro e w2 l;have HK:=tN.a (w0:=w) q.o (S:=S) (So:=So) (fun k e=>e.imp (fun e=>e.1) (fun e=>e.1)) (fun k e=>A e.1) i.2.2 l;obtain⟨v,hv⟩:∃v,e=Y v:=by cases l with
          | ok j h=>exact⟨_,j⟩
          | fail k hk W j h=>exact⟨_,j⟩
         subst hv;go_wp2;go_ret;exact HK
   . have tc:(((bj s.a c).a:Int) != 0)=true:=by rw[dh];omega
     rw[if_pos u] at q;generalize C:(bj s.a c).a=cd at *;generalize (⟨(cT s.a c).toArray⟩:ae)=tx at *;generalize fI s.a c=en at *;go_enter func355,ntmps355;go_wp2_with fail;refine n.mono ?_;rintro e a ⟨rfl,d,b⟩;have i:=r a d b;have HR1:=yM.o.j b (fun e=>e.1.2 rfl);go_wp2;go_ret;exact .fail cd u q.o rfl (.mk _ _ _ _ _ _ _ _ _ _ HR1 i.2.1 (fun e=>hgo e.1) (fun k e=>A e.1) i.2.2)
structure vf (m:ab)(s:bi):Prop where
 a:ie m s
 e:m.take 2=[13,10]
 b:5<=m.length
 c:m.length<=100
 d:s.d<=2
theorem vf.f {m:ab}{s:bi}(h:vf m s)(l:ab):vf m (cX m s l):=⟨h.a.r (by have:=h.b;omega) l,h.e,h.b,h.c,Dx m l s h.d⟩
theorem Sa (w:X)(S So:Nat->Prop)(g gt:Nat)(m:ab)(s:bi)(c:UInt8)(t:dI)(h:dK w S g m s)(n:iJ s)(a:vf m s)(p:et w So gt t)(hd:∀k,S k->¬So k)(b:t.b.length<=80000)(q:t.a.length<=80000):
 Calls prog 320 #[Q (M ⟨g,0,U⟩),Q (M ⟨gt,0,U⟩),I .u8 c.toNat] w fun e w'=>xO w S So g gt m s c t e w':=by
 have N:=h.a.1;have z:3<=m.length:=by have:=a.b;omega
 have x:m.length<=1000:=by have:=a.c;omega
 by_cases i:s.b=0
 . have j:=aa (LS w S So g gt m s c t h n i a.a p hd x a.d b q);have B:((s.b:Int)==0)=true:=by rw[i];rfl
   go_enter func320,ntmps320;go_wp2_with fail;refine j.o.mono ?_;rintro e y ⟨rfl,d⟩;go_wp2;go_ret;exact .ok rfl d
 . have B:((s.b:Int)==0)=F:=by rw[aO];omega
   by_cases l:s.b=5
   . have j:=aa (LT w S So g gt m s c t h n l a.a p hd a.e z x b);have C:((s.b:Int)==5)=true:=by rw[l];rfl
     go_enter func320,ntmps320;go_wp2_with fail;refine j.o.mono ?_;intro e y d;have r:=aa d;obtain⟨v,u⟩:∃v,e=Y v:=by cases d with
      | ok f h=>exact⟨_,f⟩
      | fail k D G f h=>exact⟨_,f⟩
     subst u;go_wp2;go_ret;exact r.o
   . have C:((s.b:Int)==5)=F:=by rw[aO];omega
     have H:=a.a.j;have L:=n.2;have j:=Ub w S So g gt m s c t h n (by omega) p hd b;go_enter func320,ntmps320;go_wp2_with fail;refine j.mono ?_;intro e y d;have r:=aa d;obtain⟨v,u⟩:∃v,e=Y v:=by cases d with
      | ok f h=>exact⟨_,f⟩
      | fail k D G f h=>exact⟨_,f⟩
     subst u;go_wp2;go_ret;exact r.o
structure we (w:X)(S:Nat->Prop)(g:Nat)(m:ab)(s:bi)(l:ab)(k:Nat)(wr:X):Prop where
 c:∃S' So',dK wr S' g m (cX m s (l.take k))∧et wr So' w.heap.size (dz gN (cn m s (l.take k)))∧(∀i,S' i->¬So' i)∧(∀i,S' i->S i∨w.heap.size<=i)∧(∀i,So' i->w.heap.size<=i)
 b:ak S w wr
inductive Al (w:X)(S:Nat->Prop)(g:Nat)(m:ab)(s:bi)(l:ab)(e:Ending)(w':X):Prop
 | mk (ao:ag) (cap n:Nat) (S' So':Nat->Prop) (he:e=Y (Z ao n cap)) (hn:n=(gr (cn m s l)).length) (hR:dK w' S' g m (cX m s l)) (hO:ju w' So' 98 ao cap (gr (cn m s l))) (hd:∀i,S' i->¬So' i) (hS:∀i,S' i->S i∨w.heap.size<=i) (hSo:∀i,So' i->w.heap.size<=i) (hT:ak S w w')
theorem we.e {w wr w':X}{S S' a:Nat->Prop}{g:Nat}{m:ab}{s:bi}{l:ab}{k:Nat}(o:k<l.length)(f:∀i,S' i->S i∨w.heap.size<=i)(b:∀i,a i->w.heap.size<=i)(j:ak S w wr)
 (h:lY wr S' a g w.heap.size m (cB m (cX m s (l.take k)) l[k]).1 (dz (dz gN (cn m s (l.take k))) (cB m (cX m s (l.take k)) l[k]).2) w'):we w S g m s l (k+1) w':=by
 obtain⟨p,c,q,r,t,d,u,v⟩:=h;have n:=fR o;have x:=j.b;refine⟨⟨p,c,by rw[n,JC];exact q,by rw[n,JD,DZ];exact r,t,fun i e=>?_,fun i e=>?_⟩,j.a v (fun i e y=>?_)⟩
 . rcases d i e with e | e
   . exact f i e
   . exact R (by omega)
 . rcases u i e with e | e
   . exact b i e
   . omega
 . rcases e with e | e
   . rcases f i e with e | e
     . exact e
     . omega
   . have:=b i e;omega
theorem Qu {w c l:X}{S So d:Nat->Prop}{g gt:Nat}{m:ab}{t:dI}{k:Nat}(s:k≠0)(o:S g)
 (a:¬d g) (p:∀i,d i->So i∨w.heap.size<=i) (b:ak (fun i=>S i∨So i) w c)
 {f:X} (u:dV f g (Q U) 0 (Q U) U 0 0 0 0 (k:Int)) (q:ak (fun i=>i=g) c f) (y:g<w.heap.size) (n:et l (ay (fun i=>d i∧i<c.heap.size) f) gt (nP t (zB k))) (r:ak (fun i=>d i∧i<c.heap.size) f l) :
 lY w S So g gt m (iR k).1 (dz t (iR k).2) l:=by
 have v:=b.b;have x:=q.b;refine .mk (fun i=>i=g) _ (.dead (JF s) rfl (u.j r (fun e=>a e.1))) n (fun i e j=>?_) (fun i e=>by subst e;exact A o) (fun i e=>?_) ((b.a q (fun i e _=>by subst e;exact A o)).a r (fun i e z=>?_))
 . subst e;rcases j with j | j
   . exact a j.1
   . omega
 . rcases e with e | e
   . exact p i e.1
   . exact R (by omega)
 . rcases p i e.1 with e | e
   . exact R e
   . omega
theorem we.a {w wr w':X}{S S' a:Nat->Prop}{g:Nat}{m:ab}{s:bi}{l:ab}{k:Nat}{ao bo:ag}{cap p:Nat}(q:dK wr S' g m (cX m s (l.take k)))(hd:∀i,S' i->¬a i)(r:∀i,S' i->S i∨w.heap.size<=i)(c:∀i,a i->w.heap.size<=i)(f:ak S w wr)(j:cn m s l=cn m s (l.take k))(t:cX m s l=cX m s (l.take k))
 (u:fW w' (ay (fun i=>a i∧i<wr.heap.size) wr) w.heap.size ao cap bo p ⟨fF (dz gN (cn m s (l.take k))),[]⟩) (n:ak (fun i=>a i∧i<wr.heap.size) wr w'):Al w S g m s l (Y (Z ao (fF (dz gN (cn m s (l.take k)))).length cap)) w':=by
 have d:=(Dn _ (zG m (l.take k) s)).1;have v:=f.b;refine .mk ao cap _ (fun i=>S' i∧i<wr.heap.size) (fun i=>ay (fun i=>a i∧i<wr.heap.size) wr i) rfl (by rw[d,j]) (by rw[t];exact(q.f (fun i o e=>⟨e,o⟩)).e n (fun i e b=>hd i e.1 b.1)) (by rw[j,<-d];exact u.e.a (fun i _ e=>e.1.1)) (fun i e b=>?_) (fun i e=>r i e.1) (fun i e=>?_) (f.a n (fun i e o=>by have:=c i e.1;omega))
 . rcases b with b | b
   . exact hd i e.1 b.1
   . have:=e.2;omega
 . rcases e with e | e
   . exact c i e.1
   . omega
theorem LU (w:X)(S:Nat->Prop)(g:Nat)(m:ab)(s:bi)(l:ab)(bo:ag)(fV n:Nat)(h:dK w S g m s)(hG:vf m s)(hB:az w bo fV l)(tT:l≠[]->∀a,bo=M a->¬S a.block)(hn:l.length=n)(hl:n<=20000):
 Calls prog 284 #[Q (M ⟨g,0,U⟩),Z bo n fV] w fun e w'=>Al w S g m s l e w':=by
 subst hn;have hlt:=h.q;have L:Below w.heap.size w (w.alloc (K #[Z U 0 0,Z U 0 0] 354)):=(ar _ _).alloc (am _) _;have adM:we w S g m s l 0 (w.alloc (K #[Z U 0 0,Z U 0 0] 354)):=⟨⟨fun k=>S k∧k<w.heap.size,fun k=>w.heap.size<=k,(h.f (fun k hk e=>⟨e,hk⟩)).E L,⟨_,_,_,_,fW.G w⟩,fun i e e2=>by have:=e.2;omega,fun i e=>A e.1,fun i e=>e⟩,ak.e L⟩;have HB:=hB;have N:=aa hG;have HBo:=aa tT
 have HMe:=h.r;go_enter func284,ntmps284;go_wp2;go_loopw [11] (fun vi wr=>∃k:Nat,k<=l.length∧vi=I J k∧we w S g m s l k wr) (fun vi _=>l.length-(intOf vi).toNat)
 case atStart=>exact⟨0,ax _,rfl,adM⟩
 case round =>
  obtain⟨k,hk,rfl,T⟩:=hrel;obtain⟨S',f,j,Gd,y,z,Qc⟩:=T.c;have B:=T.b;have htk:(l.take k).length<=20000:=by rw[bV];omega
  have mF:=Kc (by have:=N.o.b;omega) N.o.a (l.take k);have hh:=N.o.a.a;have hsh:=N.o.c;have v:et wr (fun i=>f i∧i<wr.heap.size) w.heap.size (dz gN (cn m s (l.take k))):=Gd.e (fun i hi e=>⟨e,hi⟩);have MK:=Er wr _ w.heap.size _ v (by omega);have RV:Hid (∀(w':X) (ao bo:ag) (C bc:Nat),cn m s l=cn m s (l.take k)->cX m s l=cX m s (l.take k)->fW w' (ay (fun i=>f i∧i<wr.heap.size) wr) w.heap.size ao C bo bc ⟨fF (dz gN (cn m s (l.take k))),[]⟩->ak (fun i=>f i∧i<wr.heap.size) wr w'->Al w S g m s l (Y (Z ao (fF (dz gN (cn m s (l.take k)))).length C)) w'):=fun w' ao bo C bc ho hf hR x=>we.a j y z Qc B ho hf hR x;by_cases q:k<l.length
  . obtain⟨bb,oo,rfl,_⟩:=HB.q (by omega);have hne:l≠[]:=by intro e;subst e;simp at q
    obtain⟨b2,o2,D,W⟩:=(HB.r B (fun a e=>HBo.o hne a e)).q (by omega);injection D with D;injection D with hb2 ho2;subst hb2;subst ho2;have ck:=W k q;have hlt':(k:Int)<l.length:=by omega
    have hcap:=HB.1;obtain⟨c4,c5,c6,fz⟩:=j.a;by_cases p:iJ (cX m s (l.take k))
    . have hG':=N.o.f (l.take k);have sZ:=Sa wr S' f g w.heap.size m _ l[k] _ j p hG' Gd y (by omega) (by omega);have ML:∀w',lY wr S' f g w.heap.size m (cB m (cX m s (l.take k)) l[k]).1 (dz (dz gN (cn m s (l.take k))) (cB m (cX m s (l.take k)) l[k]).2) w'->we w S g m s l (k+1) w':=fun w' hw=>we.e q z Qc B hw;have t0:(((cX m s (l.take k)).g:Int) != 0)=F:=by rw[p.1];rfl
      have t6:(((cX m s (l.take k)).b:Int)==6)=F:=by rw[aO];have:=p.2;omega
      have aii:=j.r;have aij:=aa j.q
      have hes:(dz gN (cn m s (l.take k))).b.length<=80000:=by omega
      generalize dz gN (cn m s (l.take k))=td at *;generalize cX m s (l.take k)=G at *;generalize l[k]=cb at *;clear j Gd y z Qc mF v W p T MK RV hG';go_wp2_with fail;refine sZ.mono ?_;intro e w1 hTk;cases hTk with
      | ok he hW =>
        subst he;have HW:=ML w1 hW;go_wp2;go_roundw
        case rel=>exact⟨k+1,by omega,by go_num,HW⟩
        case measure=>simp[intOf];omega
      | fail kk hkk hN he T =>
        subst he;have tk:((kk:Int) != 0)=true:=by rw[dh];omega
        obtain⟨MH,sk,ln,ah,pl,pt,cd,fo,nf,fZ,c,tq,hd1,Bo,hT1⟩:=T;have q0:=c.q;have q1:=c.B;have q2:=c.lG;have q3:=c.G;have q4:=c.r;have q5:=c.y;have q6:=c.jL
        have f0:=c.a 0;have f1:=c.a 1;have f2:=c.a 2;have f3:=c.a 3;have f4:=c.a 4;have f5:=c.a 5;have f6:=c.a 6
        obtain⟨ZX,Fh⟩:=c.mH 0 (kk:Int);have hO7:=(tq.e (S':=fun i=>MH i∧i<w1.heap.size) (fun i hi e=>⟨e,hi⟩)).a Fh (fun i e e2=>by subst e2;exact hd1 e.1);have HAd:=yw _ _ w.heap.size td 4 ⟨#[]⟩ ⟨#[]⟩ ⟨#[]⟩ (kk:Int) hO7 (by decide) (by have:=hes;omega);have RH:=ZX;have YN:=aa Fh;have HK:Hid (kk≠0∧¬MH g∧(∀i,MH i->f i∨wr.heap.size<=i)):=⟨hkk,hd1,Bo⟩;have HT1:=aa hT1;have HN:=aa hN
        go_wp2_with fail;refine HAd.mono ?_;rintro e H ⟨rfl,v,x⟩;have hW:=Qu (m:=m) HK.o.1 aii HK.o.2.1 HK.o.2.2 HT1.o RH YN.o aij.o v x;have HW:=ML H (by rw[HN.o];exact hW);go_wp2;go_roundw
        case rel=>exact⟨k+1,by omega,by go_num,HW⟩
        case measure=>simp[intOf];omega
    . have hdr:=DY (m:=m) (l.drop k) p;have d:cn m s l=cn m s (l.take k)∧cX m s l=cX m s (l.take k):=by
       constructor
       . conv=>lhs;rw[<-iZ k l,DW,hdr.1,fx]
       . conv=>lhs;rw[<-iZ k l,zD,hdr.2]
      generalize fF (dz gN (cn m s (l.take k)))=fl at *;generalize hfo:cX m s (l.take k)=G at *;generalize l[k]=cb at *;by_cases hc0:G.g=0
      . have t0:((G.g:Int) != 0)=F:=by rw[hc0];rfl
        have h6:G.b=6:=by
         rcases Nat.decEq G.b 6 with e | e
         . exact absurd ⟨hc0,e⟩ p
         . exact e
        have t6:((G.b:Int)==6)=true:=by rw[h6];rfl
        go_wp2_with fail;refine MK.mono ?_;rintro e H ⟨jR,b,rH,r,rfl,t,x⟩;have u:=RV.o H jR rH b r d.1 d.2 t x;go_wp2;go_ret;exact u
      . have t0:((G.g:Int) != 0)=true:=by rw[dh];omega
        go_wp2_with fail;refine MK.mono ?_;rintro e H ⟨jR,b,rH,r,rfl,t,x⟩;have u:=RV.o H jR rH b r d.1 d.2 t x;go_wp2;go_ret;exact u
  . obtain rfl:k=l.length:=by omega
    have d:Hid (cn m s l=cn m s (l.take l.length)∧cX m s l=cX m s (l.take l.length)):=by
     unfold Hid;rw[fL];exact⟨rfl,rfl⟩
    generalize fF (dz gN (cn m s (l.take l.length)))=fl at *;go_wp2_with fail;refine MK.mono ?_;rintro e H ⟨jR,b,rH,r,rfl,t,x⟩;have u:=RV.o H jR rH b r d.o.1 d.o.2 t x;go_wp2;go_ret;exact u
def pQ (m:ab)(k j:Nat):Value:=if j<=k then Ho m j else I J 0
def vU (w:X)(lo g gb:Nat)(m:ab)(mo:ag)(cap k:Nat):Prop :=
 w.heap[g]? = M (K #[Z mo m.length cap,Z (M ⟨gb,0,U⟩) m.length m.length,I J 0] 378 (0,0)) ∧
  bl w lo 5 mo cap m∧w.rowIs gb 3 m.length (pQ m k)∧lo<=g∧lo<=gb
theorem Io (m:ab)(j:Nat):Value.int J 0=pQ m 1 j:=by
 unfold pQ;split
 . have e:j=0∨j=1:=by omega
   rcases e with rfl | rfl <;> rfl
 . rfl
theorem Ti {w a:X}{m:ab}{ao:ag}{cap:Nat}(d:bl a w.heap.size 5 ao cap m)(b:Below w.heap.size w a):
 vU ((a.alloc (K (madeCells #[I J 0] m.length) 3)).alloc (K #[Z ao m.length cap,Z (M ⟨a.heap.size,0,U⟩) m.length m.length,I J 0] 378)) w.heap.size (a.heap.size+1) a.heap.size m ao cap 1 ∧
 Below w.heap.size w ((a.alloc (K (madeCells #[I J 0] m.length) 3)).alloc (K #[Z ao m.length cap,Z (M ⟨a.heap.size,0,U⟩) m.length m.length,I J 0] 378)):=by
 have c:=b.size;refine⟨⟨?_,(d.a _).a _,((World.rowIs_made a _ _ _).alloc _).congr (fun j _=>Io m j),by omega,c⟩,(b.alloc c _).alloc (by simp;omega) _⟩;have:=be (a.alloc (K (madeCells #[I J 0] m.length) 3)) (K #[Z ao m.length cap,Z (M ⟨a.heap.size,0,U⟩) m.length m.length,I J 0] 378);simpa using this
theorem Tj {w a:X}{m:ab}{ao:ag}{cap:Nat}(c:bl a (w.alloc (K (madeCells #[I J 0] m.length) 3)).drew.heap.size 5 ao cap m)(b:Below (w.alloc (K (madeCells #[I J 0] m.length) 3)).drew.heap.size (w.alloc (K (madeCells #[I J 0] m.length) 3)).drew a):
 vU (a.alloc (K #[Z ao m.length cap,Z (M ⟨w.heap.size,0,U⟩) m.length m.length,I J 0] 378)) w.heap.size a.heap.size w.heap.size m ao cap 1 ∧
 Below w.heap.size w (a.alloc (K #[Z ao m.length cap,Z (M ⟨w.heap.size,0,U⟩) m.length m.length,I J 0] 378)):=by
 have d:=b.size;have e:(w.alloc (K (madeCells #[I J 0] m.length) 3)).drew.heap.size=w.heap.size+1:=by simp
 rw[e] at c b d;replace b:=(bg _ (w.alloc (K (madeCells #[I J 0] m.length) 3))).trans b;refine⟨⟨be a _,(c.y (by omega)).a _,(((World.rowIs_made w _ _ _).of_block (b.block _ (by omega))).alloc _).congr (fun j _=>Io m j),by omega,am _⟩,(((ar _ _).alloc (am _) _).trans (b.mono (by omega))).alloc (by omega) _⟩
theorem Sb (m:ab)(ao:ag)(cap:Nat)(w:X)(h:az w ao cap m)(hL:m.length<=1000000):
 Calls prog 318 #[Z ao m.length cap] w fun e w'=>∃g p,e=Y (Q (M ⟨g,0,U⟩))∧er w' g m 0 p∧w.heap.size<=g∧w.heap.size<=p.a∧(∀a,p.b=M a->w.heap.size<=a.block)∧Below w.heap.size w w':=by
 have hmk:=run_make_row' (P:=prog) 55 3 (I J 0) 8 underlying55 zh rfl J J m.length (by omega) (by omega);go_enter func318,ntmps318;go_upto_region 1 with fail
 go_cut [3] (fun p wc=>∃g c s b,p=Q (M ⟨g,0,U⟩)∧vU wc w.heap.size g c m s b 1∧Below w.heap.size w wc)
 case first =>
  go_region_with (go_at_call 351;refine((fun(W:X) (hW:az W ao cap m)=>Ep m ao cap W hW (by omega)) _ (by first | exact h | exact h.G _)).mono ?_;rintro e w1 ⟨gL,b,rfl,hO,D⟩;have HO:=aa hO;have HB:=aa D;clear hO D)
  all_goals (go_wp2_with fail;go_meet;first | exact⟨_,_,_,_,rfl,Ti HO.o ((bg _ w).trans HB.o)⟩ | exact⟨_,_,_,_,rfl,Tj HO.o HB.o⟩)
 case rest =>
  obtain⟨g,c,s,b,rfl,G,D⟩:=hcut;have HP:=aa G;go_wp2;go_loopw [4] (fun t wr=>∃n:Nat,0<n∧n<=m.length+1∧t=I J n∧vU wr w.heap.size g c m s b n∧Below w.heap.size w wr) (fun t _=>m.length+1-(intOf t).toNat)
  case atStart=>exact⟨1,by omega,by omega,rfl,HP.o,D⟩
  case round =>
   obtain⟨n,u,hnl,rfl,G,hb⟩:=hrel;have HP:=aa G;obtain⟨v,y,d,z,f⟩:=G;have c0:=aq wr g 0 _ _ _ v;have c1:=aq wr g 1 _ _ _ v;by_cases H:n+1<m.length
   . obtain⟨i,rfl,_,B⟩:=y.E (by omega);have cm:=B n (by omega);have cb:wr.cell? ⟨c,n,U⟩=M (I J (iW m n)):=by
      rw[d.cell (by omega)];unfold pQ;rw[if_pos (am _)];rfl
     have cb1:wr.cell? ⟨c,n+1,U⟩=M (I J 0):=by
      rw[d.cell H];unfold pQ;rw[if_neg (by omega)]
     have fb1:wr.frozen? ⟨c,n+1,U⟩=F:=d.frozen _;have L:c≠g:=Ex v d (by decide);have C:i≠c:=by
      intro e;subst e;obtain⟨cc,N,_⟩:=d;have:=gG N y (by decide);simp[Value.ownBlock] at this
     have S:=A8 m n u;have l:=aa (FL m (iW m n) m[n] g i c b wr.drew (by omega) (by omega) c0 c1 B (fun j hj0 hjn=>by
      refine(d.cell (show j<m.length by omega)).trans ?_;unfold pQ;rw[if_pos (by omega)];rfl))
     rw[<-Pk m n u (by omega)] at l;have T:vU (wr.drew.setCell ⟨c,n+1,U⟩ (I J (iW m (n+1)))) w.heap.size g c m (M ⟨i,0,U⟩) b (n+1)∧Below w.heap.size w (wr.drew.setCell ⟨c,n+1,U⟩ (I J (iW m (n+1)))):=by
      refine⟨⟨?_,?_,(d.set (n+1) (I J (iW m (n+1)))).congr (fun j _=>?_),z,f⟩,(hb.trans (bg _ _)).setCell f _⟩
      . rw[pU _ _ _ _ (fun e=>L e.symm)];exact v
      . exact bl.G (w:=wr.drew) y ⟨rfl,rfl,rfl,by simp[World.setCell],fun k _ hne=>pU _ _ k _ (fun e=>hne (by rw[e]))⟩ (row:=M c) (fun a e=>by cases e;intro e;injection e with e;exact C e)
      . unfold pQ;by_cases e:j=n+1
        . subst e;rw[if_pos rfl,if_pos (am _)];rfl
        . rw[if_neg e];by_cases e2:j<=n
          . rw[if_pos e2,if_pos (by omega)]
          . rw[if_neg e2,if_neg (by omega)]
     generalize iW m (n+1)=r at l T;generalize iW m n=q at l cb S;generalize m[n]=x at l cm;have ht:decide ((n:Int)+1<m.length)=true:=by rw[bN];omega
     have b1:(n:Int)<m.length:=by omega
     have b2:(n:Int)+1<m.length:=by omega
     have b3:IntKind.i64.wrap ((n:Int)+1)=(n:Int)+1:=gF (by omega) (by omega);have b4:(0:Int)<=(n:Int)+1:=by omega
     have b5:((n:Int)+1).toNat=n+1:=by omega
     have k1:(wr.setCell ⟨c,n+1,U⟩ (I J (r:Int))).cell? ⟨i,n,U⟩=M (I .u8 (x.toNat:Int)):=(sN wr ⟨c,n+1,U⟩ ⟨i,n,U⟩ _ (fun e=>by injection e with e _ _;exact C e.symm)).trans cm;have k2:(wr.setCell ⟨c,n+1,U⟩ (I J (r:Int))).cell? ⟨c,n,U⟩=M (I J (q:Int)):=(sN wr ⟨c,n+1,U⟩ ⟨c,n,U⟩ _ (fun e=>by injection e with _ e _;omega)).trans cb;go_wp2;go_region_held3 (fun w'=>w'.cell? ⟨g,0,U⟩=M (Z (M ⟨i,0,U⟩) m.length b)∧w'.cell? ⟨g,1,U⟩=M (Z (M ⟨c,0,U⟩) m.length m.length)∧w'.cell? ⟨i,n,U⟩=M (I .u8 (x.toNat:Int))∧w'.cell? ⟨c,n,U⟩=M (I J (q:Int))) (go_keep) (first | (go_at_call 352;refine l.o.mono ?_;rintro e w' ⟨rfl,rfl⟩))
     all_goals
      go_wp2;go_roundw
      case rel=>exact⟨n+1,by omega,by omega,by go_num,T.1,T.2⟩
      case measure=>simp[intOf];omega
   . have ht:decide ((n:Int)+1<m.length)=F:=by rw[cz];omega
     have l:er wr g m 0 ⟨s,b,c⟩:=⟨v,y.y (ax _),d.congr (fun j hj=>by unfold pQ;rw[if_pos (by omega)])⟩;have V8:∀a,s=M a->w.heap.size<=a.block:=fun a e=>(y.e a e).1;go_wp2;go_ret;exact⟨g,⟨s,b,c⟩,rfl,l,z,f,V8,hb⟩
inductive S4 (w:X)(l:ab)(e:Ending)(w':X):Prop
 | no (h:iK l=F) (he:e=Y (.tuple #[Q U,I J 5])) (hb:Below w.heap.size w w')
 | yes (h:iK l=true) (g:Nat) (he:e=Y (.tuple #[Q (M ⟨g,0,U⟩),I J 0])) (hF:dK w' (fun k=>w.heap.size<=k) g (fm l) ii) (hb:Below w.heap.size w w')
theorem ME (s:ae)(w:X):
 Calls prog 283 #[V s] w fun e w'=>S4 w s.data.toList e w':=by
 have B:=Sc s w;have hl:=cA s;cases m:iK s.data.toList with
 | false =>
   rw[m] at B;go_enter func283,ntmps283;go_wp2_with fail;refine B.mono ?_;rintro e w1 ⟨rfl,i⟩;go_wp2;go_ret2;exact .no m rfl i
 | true =>
   rw[m] at B;obtain⟨D,n⟩:=BV m;rw[hl] at n;obtain⟨G,H,L⟩:=Dy s.data.toList D (by rw[hl];exact n);have hx:((⟨#[13,10,45,45]⟩:ae)++s).data.toList=fm s.data.toList:=by rw[jy];rfl
   have q:=qo hx;go_enter func283,ntmps283;go_wp2_with fail;refine B.mono ?_;rintro e w1 ⟨rfl,i⟩;obtain⟨N,C,rY,T,r⟩:=xb (P:=prog) w1 ((⟨#[13,10,45,45]⟩:ae)++s) 9 31 5 (by rw[q];unfold maxLen;omega) underlying9 underlying31 underlying5;rw[hx] at r;rw[q] at rY;have Yr:=Sb (fm s.data.toList) _ N C r.q (by omega);have t:=au i T;have j:(fm s.data.toList).take 2=[13,10]∧5<=(fm s.data.toList).length∧(fm s.data.toList).length<=74:=⟨G,H,L⟩;have hst:(s.size:Int)<=70:=by omega
   generalize W:fm s.data.toList=mk at *;go_wp2_with fail;refine Yr.mono ?_;rintro e f ⟨g,p,rfl,hSk,hg1,hg2,hg3,u⟩;have d:=hSk;have HG:Hid (C.heap.size<=g∧C.heap.size<=p.a∧∀a,p.b=M a->C.heap.size<=a.block):=⟨hg1,hg2,hg3⟩;have HB3:=aa (au t u)
   have Ci:=u.size;go_wp2_with fail;refine(BF f).mono ?_;rintro e b ⟨rfl,hL,l⟩;have je:Below b.heap.size b (b.alloc (K #[Q (M ⟨g,0,U⟩),I J 0,Q (M ⟨f.heap.size,0,U⟩),Z U 0 0,I J 0,I J 0,I J 0] 352)):=(ar _ _).alloc (am _) _;have c:dV (b.alloc (K #[Q (M ⟨g,0,U⟩),I J 0,Q (M ⟨f.heap.size,0,U⟩),Z U 0 0,I J 0,I J 0,I J 0] 352)) b.heap.size (Q (M ⟨g,0,U⟩)) 0 (Q (M ⟨f.heap.size,0,U⟩)) U 0 0 0 0 0:=⟨be b _⟩;have hz2:=t.size;have hz3:=Ci;have hz4:=l.size;have al9:=d.e;have ama:=d.2.2.lt;have v:jT (b.alloc (K #[Q (M ⟨g,0,U⟩),I J 0,Q (M ⟨f.heap.size,0,U⟩),Z U 0 0,I J 0,I J 0,I J 0] 352)) (fun k=>w.heap.size<=k∧k≠b.heap.size) mk ⟨0,0,0,dv,[],0,0⟩ g f.heap.size p U 0 (fun k=>f.heap.size<=k):=by
    refine⟨(d.a l).a je,⟨⟨by have:=HG.o.1;omega,by omega⟩,⟨by have:=HG.o.2.1;omega,by omega⟩,fun a e=>⟨by have:=HG.o.2.2 a e;omega,by have:=(d.2.1.e a e).2;omega⟩⟩,⟨by omega,by omega,fun a e=>by have:=(d.2.1.e a e).2;omega⟩,?_,aL.q _ _ _ _,fun a e=>(by cases e)⟩;have:=hL.a (S':=fun k=>(w.heap.size<=k∧k≠b.heap.size)∧f.heap.size<=k) (fun k hk e=>⟨⟨by omega,by omega⟩,e⟩);exact this.e (ak.e (S:=fun _=>False) je) (fun _ _ e=>e)
   have ail:er (b.alloc (K #[Q (M ⟨g,0,U⟩),I J 0,Q (M ⟨f.heap.size,0,U⟩),Z U 0 0,I J 0,I J 0,I J 0] 352)) g mk 0 p:=v.d;have HSb:=Ig _ b.heap.size g mk p _ c.q c.B (c.a 1) (by omega) ail j.1 (by have:=j.2.1;omega) (by have:=j.2.2;omega);have yM:=c;have ain:=aa v
   have uq:=au (au HB3.o l) je;have Hz:w.heap.size<=b.heap.size:=by show _<=_;omega
   go_wp2_with fail;refine HSb.mono ?_;rintro e w6 ⟨w5,rfl,x,y,z⟩;obtain⟨r6,t6⟩:=dK.j (s:=⟨0,0,0,dv,[],0,0⟩) (a2:=2) (S:=fun k=>w.heap.size<=k) ⟨rfl,by decide⟩ Hz yM ain.o y z;have e6:w5.setCell ⟨b.heap.size,1,U⟩ (I J ((2:Nat):Int))=w6:=x.symm;rw[e6] at r6 t6;have wL:=uq.trans (t6.below (fun k e=>e) uq.size);clear  t6 e6 x y z ;go_wp2;go_ret2;refine .yes m b.heap.size rfl ?_ wL;rw[W];exact r6
theorem bx.B (W:X)(a:Array Value)(n t:Nat)(b:Nat×Nat){k:Nat}(c:W.heap.size=k):bx (W.alloc (K a t b)) (M ⟨k,0,U⟩) n n a.toList:=by
 subst c;exact bx.e W a n t b
def He (w:X)(D:Nat->Prop)(ao:ag)(cap:Nat)(es:List aA):Prop :=
 es.length<=cap∧(0<es.length->∃b o,ao=M ⟨b,o,U⟩∧∀j (hj:j<es.length),∃s,Hk w b (o+j*12) es[j] s∧dM w D s.a s.d es[j].a∧dM w D s.c s.b es[j].c)
theorem lS.e {w:X}{S:Nat->Prop}{k:Nat}{ao:ag}{cap:Nat}{es:List aA}(h:lS w S k ao cap es):He w S ao cap es:=by
 obtain⟨f,rfl,l,_,m⟩:=h;have g:=l.a;refine⟨g.1,fun n=>?_⟩;obtain⟨b,o,rfl,p⟩:=g.f (by rw[vD];rw[iv] at n;omega);refine⟨b,o,rfl,fun j q=>?_⟩;have c:j<f.length:=by simpa using q
 refine⟨f[j].2,?_⟩;rw[ej];have a:=m _ (eX c);refine⟨⟨fun i u d=>?_,a.c.b,a.b.b,a.d.b⟩,a.b.a (fun _ _ e=>e.1),a.d.a (fun _ _ e=>e.1)⟩;have r:i<12:=(fw.1 d).1;rw[<-tC _ j c i r] at d;have:=p _ _ d;rw[gE];exact this
theorem On (w:X)(D:Nat->Prop)(ao:ag)(cap n:Nat)(es:List aA)(hE:He w D ao cap es)(hn:es.length=n)(hl:n<=100000)(hL:gO es):
 Calls prog 286 #[Z ao n cap] w fun e w'=>∃gL a m,e=Y (Z gL m a)∧nG w D (fG es) gL a m w':=by
 subst hn;have HE:=hE;have HL:=aa hL
 obtain⟨i0,hi0,hz0,hz1,hz2⟩:=info_parts Q1;have Hi:=hi0;have kS:=aa hz0;have kM:=aa hz1;have kT:=aa hz2
 go_enter func286,ntmps286;go_wp2;go_loopw [3,8] (fun vo vi wr=>∃(i m:Nat) (gL:ag) (a:Nat),i<=es.length∧vi=I J i∧vo=Z gL m a∧nG w D (fG (es.take i)) gL a m wr) (fun _ vi _=>es.length-(intOf vi).toNat)
 case atStart=>exact⟨0,0,U,0,ax _,rfl,rfl,nG.r w D⟩
 case round =>
  obtain⟨i,m,gL,a,hi,rfl,rfl,hP⟩:=hrel;have HP:=aa hP;have hml:m<=100000:=by have h1:=hP.a;have y:=Ds (es.take i);rw[bV] at y;omega
  by_cases B:i<es.length
  . have hlt':(i:Int)<es.length:=by omega
    obtain⟨b,o,rfl,hEs⟩:=HE.2 (by omega);obtain⟨s,hE,hD1,hD2⟩:=hEs i B;have hcap:=HE.1;have d:=fun y=>DE _ _ rfl (HL.o.q B y);have H:Hid (fG (es.take (i+1))=fO (fG (es.take i)) es[i]):=by
     unfold Hid;rw[fR B,DD]
    generalize es[i]=e at *;have c:∀j u,(e.e s)[j]? = M u->wr.cell? ⟨b,o+i*12+j,U⟩=M u:=fun j u L=>(HP.o.below.cell (ch w _ (hE.a j u L))).trans (hE.a j u L);have c0:wr.cell? ⟨b,o+i*12,U⟩=M (I J e.b):=c 0 _ rfl;have c1:wr.cell? ⟨b,o+i*12+1,U⟩=M (V e.i):=c 1 _ rfl;have c2:wr.cell? ⟨b,o+i*12+2,U⟩=M (V e.j):=c 2 _ rfl;have c3:wr.cell? ⟨b,o+i*12+3,U⟩=M (I J e.m):=c 3 _ rfl;have c4:wr.cell? ⟨b,o+i*12+4,U⟩=M (Z s.f e.d.length s.e):=c 4 _ rfl;have c5:wr.cell? ⟨b,o+i*12+5,U⟩=M (I J e.l):=c 5 _ rfl;have c6:wr.cell? ⟨b,o+i*12+6,U⟩=M (Z s.a e.a.length s.d):=c 6 _ rfl;have c7:wr.cell? ⟨b,o+i*12+7,U⟩=M (V e.g):=c 7 _ rfl;have c8:wr.cell? ⟨b,o+i*12+8,U⟩=M (V e.f):=c 8 _ rfl;have c9:wr.cell? ⟨b,o+i*12+9,U⟩=M (V e.h):=c 9 _ rfl;have c10:wr.cell? ⟨b,o+i*12+10,U⟩=M (Z s.c e.c.length s.b):=c 10 _ rfl;have c11:wr.cell? ⟨b,o+i*12+11,U⟩=M (I J e.k):=c 11 _ rfl;have N:dM w D s.a s.d e.a∧dM w D s.c s.b e.c:=⟨hD1,hD2⟩;have je:Below wr.heap.size wr (wr.alloc (K #[I J e.b,V e.i,V e.j,I J e.m,Z s.f e.d.length s.e,I J e.l,Z s.a e.a.length s.d,V e.g,V e.f,V e.h,Z s.c e.c.length s.b,I J e.k] 98)):=(ar _ _).alloc (am _) _;have f:=HP.o.e je;generalize e.d.length=nfl at *;obtain⟨nb,S⟩:∃nb,e.a.length=nb:=⟨_,rfl⟩;obtain⟨z,T⟩:∃z,e.c.length=z:=⟨_,rfl⟩;rw[S] at c6 f;rw[T] at c10 f;have HNb:=S;have aio:=aa T
    by_cases C:e.b=5
    . have t5:(e.b==5)=true:=cJ.2 C;have l:fO (fG (es.take i)) e=fG (es.take i)++[⟨e.g,e.f,e.h,e.c⟩]:=by unfold fO;rw[if_pos C]
      obtain⟨xs,hO,W⟩:=(f.e ((ar _ _).alloc (am _) (K #[V e.g,V e.f,V e.h,Z s.c z s.b] 96))).q;have HO:=hO;have HPu:=aa W;have r:=aa (H.o.trans l)
      have xE:Hid (lK ⟨e.g,e.f,e.h,e.c⟩ ⟨s.c,s.b⟩=[V e.g,V e.f,V e.h,Z s.c z s.b]):=by unfold Hid lK;rw[aio.o]
      have CJ:w.heap.size<=wr.heap.size:=HP.o.below.size;clear C l hO W d H;generalize e.b=ek at *;go_wp2_with (at_builtin;refine lP rfl (.tmp 16) (.tmp 19) 259 rfl w.heap.size 96 i0 (.agg #[V ⟨#[]⟩,V ⟨#[]⟩,V ⟨#[]⟩,Z U 0 0]) 4 72 underlying259 Hi kS.o kM.o kT.o rfl (by decide) rfl HO rfl (bx.B _ _ 1 _ _ (by simp)) rfl (fun u L=>by simp at L;rcases L with rfl | rfl | rfl | rfl <;> rfl) (by omega) (by omega) (by rw[bu,bu];have:=CJ;omega) ?_;intro a3 c3 w3 hO3 hG3 kE;have U9:=aa (HPu.o a3 c3 w3 ⟨e.g,e.f,e.h,e.c⟩ ⟨s.c,s.b⟩ N.2 (by rw[xE.o];exact hO3) hG3);clear hO3 hG3 kE)
      go_roundw
      case rel=>exact⟨i+1,m+1,a3,c3,by omega,by go_num,rfl,by rw[r.o];exact U9.o⟩
      case measure=>simp[intOf];omega
    . have t5:(e.b==5)=F:=aO.2 C;by_cases y:e.b=2
      . have t2:(e.b==2)=true:=cJ.2 y;have t:=d y;obtain⟨qs,p,G⟩:∃qs p,fG (es.take i)=qs++[p]:=by
         rcases mz (fG (es.take i)) with e0 | ⟨q,x,e0⟩
         . rw[e0] at t;simp at t
         . exact⟨q,x,by rw[e0,lb]⟩
        have l:fO (fG (es.take i)) e=qs++[{ p with a:=e.a }]:=by
         unfold fO;rw[if_neg C,if_pos y,G,List.dropLast_concat,sK];rfl
        have r:=H.o.trans l;rw[G] at f;obtain⟨k,rfl⟩:∃k,m=k+1:=⟨m-1,by have h1:=f.a;rw[aD] at h1;simp at h1;omega⟩;obtain⟨g,rfl,⟨v,cv⟩,fv,hc1,hby⟩:=f.j;have U9:=hby e.a s.a s.d nb N.1 HNb.symm;have m0:(0:Int)<=(k:Int):=by omega
        have m1:(k:Int)<(k:Int)+1:=by omega
        have m2:((k+1:Nat):Int)-1=(k:Int):=by omega
        clear C y l d H t G hby
        generalize e.b=ek at *;go_wp2;go_roundw
        case rel=>exact⟨i+1,k+1,M ⟨g,0,U⟩,a,by omega,by go_num,rfl,by rw[r];exact U9⟩
        case measure=>simp[intOf];omega
      . have t2:(e.b==2)=F:=aO.2 y;have l:fO (fG (es.take i)) e=fG (es.take i):=by unfold fO;rw[if_neg C,if_neg y]
        have r:=H.o.trans l;generalize e.b=ek at *;go_wp2;go_roundw
        case rel=>exact⟨i+1,m,gL,a,by omega,by go_num,rfl,by rw[r];exact f⟩
        case measure=>simp[intOf];omega
  . obtain rfl:i=es.length:=by omega
    go_wp2;go_ret;refine⟨gL,a,m,rfl,?_⟩;have:=HP.o;rw[fL] at this;exact this
inductive S5 (w:X)(s l:ab)(e:Ending)(w':X):Prop
 | no (c:Nat) (hc:c≠0) (h:iK s=F∧c=5∨iK s=true∧mR (cX (fm s) ii l)=c) (he:e=Y (.tuple #[Z U 0 0,I J (c:Int)])) (hb:Below w.heap.size w w')
 | yes (hm:iK s=true) (h:mR (cX (fm s) ii l)=0) (w1:X) (hz:w.heap.size<=w1.heap.size) (ao:ag) (cap n:Nat) (he:e=Y (.tuple #[Z ao n cap,I J 0])) (hP:nG w1 (fun k=>w.heap.size<=k) (fG (gr (cn (fm s) ii l))) ao cap n w') (hb:Below w.heap.size w w')
theorem vV {s:ab}(h:iK s=true):vf (fm s) ii:=by
 obtain⟨d,e⟩:=BV h;obtain⟨a,b,c⟩:=Dy s d e;exact⟨ie.E (by omega),a,b,by omega,am _⟩
theorem Sd (s:ae)(l:ab)(bo:ag)(fV n:Nat)(w:X)(hB:az w bo fV l)(hn:l.length=n)(hl:n<=20000):
 Calls prog 231 #[V s,Z bo n fV] w fun e w'=>S5 w s.data.toList l e w':=by
 have D:=hB;have G:=aa hn
 go_enter func231,ntmps231;go_wp2_with fail;refine(ME s w).mono ?_;intro e w1 v;cases v with
 | no t d f =>
   subst d;have c:=t;have j:=aa f
   go_wp2;go_ret2;exact .no 5 (by decide) (A ⟨c,rfl⟩) rfl j.o
 | yes t g d v f =>
   subst d;have hz:=f.size;have c:=t;have j:=aa f
   have tT:l≠[]->∀a,bo=M a->¬w.heap.size<=a.block:=fun x a ea=>by
    subst ea;have hp:=mC.2 x;have:=ch w _ (D.j 0 hp);rw[oj] at this;omega
   go_wp2_with fail;refine(LU w1 _ g (fm s.data.toList) ii l bo fV n v (vV t) (D.a f) tT G.o hl).mono ?_;rintro e H ⟨ao,y,k,S',So',d,L,N,S,hd,hS,p,T⟩;subst d;have b:=j.o.trans (T.below (B:=w.heap.size) (fun k e=>e) j.o.size);have xE:=QN H S' g _ _ N;have mF:=wK (by have:=(vV c).b;omega) l (vV c).a;have z:=BE (cn (fm s.data.toList) ii l);have hk4:k<=40000:=by have:=G.o;omega
   have Z5:=On H (fun k=>w.heap.size<=k) ao y k _ (S.j.a (fun i _ e=>co j.o.size (p i e))).e L.symm (by omega) (Ky _ _);clear L N S hd hS p T mF z;generalize q:mR (cX (fm s.data.toList) ii l)=u at *;go_wp2_with fail;refine xE.mono ?_;rintro e w3 ⟨rfl,hw⟩;subst hw;by_cases C:u=0
   . have tc:((u:Int) != 0)=F:=by rw[C];rfl
     go_wp2_with fail;refine Z5.mono ?_;rintro e w4 ⟨gL,r,m,rfl,W⟩;go_wp2;go_ret2;exact .yes c (q.trans C) w3 b.size gL r m rfl W (au b W.below)
   . have tc:((u:Int) != 0)=true:=by rw[dh];omega
     go_wp2;go_ret2;exact .no u C (R ⟨c,q⟩) rfl b
structure oy (S:Nat->Prop)(tO:Nat)(w:X)(g:Nat)(s:aB)(w':X):Prop where
 b:gH w' (ay S w) tO 92 5 g s
 c:ak S w w'
theorem oy.a {S:Nat->Prop}{a g:Nat}{w b w':X}{s:aB}(c:Below w.heap.size w b)(h:oy S a b g s w'):oy S a w g s w':=by
 have d:=c.size;refine⟨h.b.e (fun k _ e=>?_),(ak.e c).a h.c (fun _ e _=>e)⟩;rcases e with e | e
 . exact A e
 . exact R (by omega)
theorem Sz {s:aB}{e:aI}(h:e.b=1):(dE s e).1=(fb s e.n (gB e.c)).1:=by unfold dE;rw[if_pos h];rfl
theorem SA {s:aB}{e:aI}(h:e.b=2):dE s e=iM s e.a (nZ s e.a) e.c:=by unfold dE;rw[if_neg (by omega),if_pos h]
theorem SB {s:aB}{e:aI}(h:e.b=3):dE s e=lC s e.a e.n:=by unfold dE;rw[if_neg (by omega),if_neg (by omega),if_pos h]
theorem SC {s:aB}{e:aI}(h:e.b=4):dE s e=mt s e.a:=by unfold dE;rw[if_neg (by omega),if_neg (by omega),if_neg (by omega),if_pos h]
theorem SD {s:aB}{e:aI}(h:e.b=5):dE s e=kj s e.a:=by unfold dE;rw[if_neg (by omega),if_neg (by omega),if_neg (by omega),if_neg (by omega),if_pos h]
theorem SE {s:aB}{e:aI}(h:e.b=6):dE s e=lD s e.a:=by unfold dE;rw[if_neg (by omega),if_neg (by omega),if_neg (by omega),if_neg (by omega),if_neg (by omega)]
theorem SF (s:aB)(S:Nat->Prop)(g:Nat)(x:aI)(N:ag)(G T:Nat)(w:X)(h:cC w S g s)(ok:cM s)(hl:s.a<=1000000)(hT:az w N T x.c)(H:x.c.length=G)(hN:G<=1000000)(hk:1<=x.b∧x.b<=6):
 Calls prog 186 #[Q (M ⟨g,0,U⟩),.agg #[I J x.b,I J x.a,I J x.n,Z N G T]] w fun e w'=>e=Y (.tuple #[])∧oy S 141 w g (dE s x).1 w':=by
 have B:=(ar _ w).alloc (am _) (K #[I J x.b,I J x.a,I J x.n,Z N G T] 264);have t:=h.a B;have f:=hT.a B;obtain⟨⟨D,x1,x2,x3⟩,_⟩:=dW (be w (K #[I J x.b,I J x.a,I J x.n,Z N G T] 264));obtain⟨W,L⟩:∃W,(w.alloc (K #[I J x.b,I J x.a,I J x.n,Z N G T] 264))=W:=⟨_,rfl⟩;have hwl:w.heap.size<W.heap.size:=by rw[<-L];simp
 rw[L] at B t f D x1 x2 x3;have k:=f.B (P:=prog) 31 9 5 underlying31 underlying5 underlying9;rw[H] at k;have r:(gB x.c).size<=1000000:=by rw[GM];omega
 have HB:=aa B;obtain a | a | a | a | a | a:x.b=1∨x.b=2∨x.b=3∨x.b=4∨x.b=5∨x.b=6:=by omega
 . have y:=aa (B5 s S g x.n (gB x.c) W t ok hl r);have v:=aa (Sz (s:=s) a);rw[show(⟨x.c.toArray⟩:ae)=gB x.c from rfl] at k;rw[a] at D L ⊢;clear h ok hl hT H hk f t a B r;generalize fb s x.n (gB x.c)=q at *;generalize gB x.c=m at *;go_enter func186,ntmps186;go_wp2_with fail;refine y.o.mono ?_;intro e c b;have z:Hid (oy S 141 w g (dE s x).1 c):=oy.a HB.o (by rw[v.o];exact⟨b.b,b.c⟩);obtain⟨rfl,_,_⟩:=b;go_wp2;go_end0
   exact⟨rfl,z.o⟩
 . have v:=aa (SA (s:=s) a);have HA:Hid (∀c,Below W.heap.size W c->Calls prog 249 #[Q (M ⟨g,0,U⟩),I J x.a,I J (nZ s x.a),Z N G T] c (bE S 141 c g (iM s x.a (nZ s x.a) x.c))):=fun c d=>B4 s S g x.a _ N G T x.c c (t.a d) ok (f.a d) H hN;have xE:Hid (∀c,Below W.heap.size W c->c.cell? ⟨w.heap.size,1,U⟩=M (I J x.a)∧c.cell? ⟨w.heap.size,3,U⟩=M (Z N G T)):=fun c d=>⟨(d.cell (p:=⟨w.heap.size,1,U⟩) hwl).trans x1,(d.cell (p:=⟨w.heap.size,3,U⟩) hwl).trans x3⟩;cases hp:cE s.l x.a with
   | none =>
     have HG:=aa (En s S g x.a W t ok hp);rw[Py hp] at HA v;rw[a] at D L ⊢;clear h ok hl hT H hk f t a B r hp k;generalize iM s x.a _ x.c=q at *;go_enter func186,ntmps186;go_wp2_with fail;refine HG.o.mono ?_;rintro e c ⟨rfl,d⟩;have C:=(ar _ c).alloc (am _) (K #[I J 0,I J 0,V ⟨#[]⟩,Z U 0 0,I J 0] 92);have j:=au d C;have y:=aa (HA.o _ j);obtain⟨y1,y3⟩:=xE.o _ j;have HB3:=aa (au HB.o j);clear d C j HA xE D x1 x2 x3;go_wp2_with fail;refine y.o.mono ?_;intro e w4 b;have z:Hid (oy S 141 w g (dE s x).1 w4):=oy.a HB3.o (by rw[v.o];exact⟨b.b,b.c⟩);obtain⟨rfl,_,_⟩:=b;go_wp2;go_end0
     exact⟨rfl,z.o⟩
   | some i =>
     have hi:=mu hp;have HG:=aa (yE s S g x.a i W t ok hp hi);have hL:nZ s x.a=s.l[i].b.length:=GK hp;rw[hL] at HA v;rw[a] at D L ⊢;clear h ok hl hT H hk f t a B r hp k hL;generalize s.l[i]=u at *;generalize iM s x.a _ x.c=q at *;go_enter func186,ntmps186;go_wp2_with fail;refine HG.o.mono ?_;rintro e c ⟨bo,bc,rfl,_,d⟩;have C:=(ar _ c).alloc (am _) (K #[I J u.c,I J u.a,V u.d,Z bo u.b.length bc,I J u.e] 92);have j:=au d C;have y:=aa (HA.o _ j);obtain⟨y1,y3⟩:=xE.o _ j;have HB3:=aa (au HB.o j);clear d C j HA xE D x1 x2 x3;go_wp2_with fail;refine y.o.mono ?_;intro e w4 b;have z:Hid (oy S 141 w g (dE s x).1 w4):=oy.a HB3.o (by rw[v.o];exact⟨b.b,b.c⟩);obtain⟨rfl,_,_⟩:=b;go_wp2;go_end0
     exact⟨rfl,z.o⟩
 . have y:=aa (BS s S g x.a x.n W t ok);have v:=aa (SB (s:=s) a);rw[a] at D L ⊢;clear h ok hl hT H hk f t a B r k;generalize lC s x.a x.n=q at *;go_enter func186,ntmps186;go_wp2_with fail;refine y.o.mono ?_;intro e c b;have z:Hid (oy S 141 w g (dE s x).1 c):=oy.a HB.o (by rw[v.o];exact⟨b.b,b.c⟩);obtain⟨rfl,_,_⟩:=b;go_wp2;go_end0
   exact⟨rfl,z.o⟩
 . have y:=aa (El s S g x.a W t ok);have v:=aa (SC (s:=s) a);rw[a] at D L ⊢;clear h ok hl hT H hk f t a B r k;generalize mt s x.a=q at *;go_enter func186,ntmps186;go_wp2_with fail;refine y.o.mono ?_;intro e c b;have z:Hid (oy S 141 w g (dE s x).1 c):=oy.a HB.o (by rw[v.o];exact⟨b.b,b.c⟩);obtain⟨rfl,_,_⟩:=b;go_wp2;go_end0
   exact⟨rfl,z.o⟩
 . have y:=aa (D1 s S g x.a W t ok);have v:=aa (SD (s:=s) a);rw[a] at D L ⊢;clear h ok hl hT H hk f t a B r k;generalize kj s x.a=q at *;go_enter func186,ntmps186;go_wp2_with fail;refine y.o.mono ?_;intro e c b;have z:Hid (oy S 141 w g (dE s x).1 c):=oy.a HB.o (by rw[v.o];exact⟨b.b,b.c⟩);obtain⟨rfl,_,_⟩:=b;go_wp2;go_end0
   exact⟨rfl,z.o⟩
 . have y:=aa (E8 s S g x.a W t ok);have v:=aa (SE (s:=s) a);rw[a] at D L ⊢;clear h ok hl hT H hk f t a B r k;generalize lD s x.a=q at *;go_enter func186,ntmps186;go_wp2_with fail;refine y.o.mono ?_;intro e c b;have z:Hid (oy S 141 w g (dE s x).1 c):=oy.a HB.o (by rw[v.o];exact⟨b.b,b.c⟩);obtain⟨rfl,_,_⟩:=b;go_wp2;go_end0
   exact⟨rfl,z.o⟩
theorem SW {w:X}{ao:ag}{cap:Nat}{l:List aI}(h:rN w ao cap l):l.length<=cap:=by
 obtain⟨b,_,a,_⟩:=h;exact a.1
theorem Tq (e:aI):e.c.length<=(aW e).length:=by simp[aW,dS];omega
theorem SG {b:ab}{e:aI}(h:e∈(bY b).1):e.c.length<=b.length:=by
 obtain⟨_,d,a,_⟩:=An _ b (am _);have c:(aW e).length<=(((bY b).1.map aW).flatten).length:=(List.sublist_flatten_of_mem (List.mem_map_of_mem h)).length_le;rw[a,bV] at c;have:=Tq e;omega
theorem SH {b:ab}{e:aI}(h:e∈(bY b).1):1<=e.b∧e.b<=6:=by
 obtain⟨a,_⟩:=An _ b (am _);exact((ut e).1 (a e h)).1
theorem Og (l:List aI)(ao:ag)(cap n:Nat)(w:X)(u:rN w ao cap l)(T:l.length=n)(hN:n<=1000000)(z:∀e∈l,(1<=e.b∧e.b<=6)∧e.c.length<=1000000):
 Calls prog 129 #[Z ao n cap] w fun e w'=>∃g,e=Y (Q (M ⟨g,0,U⟩))∧cC w' (fun k=>w.heap.size<=k) g (gY fe l)∧Below w.heap.size w w':=by
 subst T;have W:=aa (Fa w);have HE:=aa u;have B:=SW u;have HF:=aa z;clear u z;go_enter func129,ntmps129;go_wp2_with fail;refine W.o.mono ?_;rintro e w1 ⟨rfl,d,C⟩;have HS:=aa d;have HB:=aa C
 clear d C;go_wp2;go_loopw [9] (fun t wr=>∃k:Nat,k<=l.length∧t=I J k∧cC wr (fun k=>w.heap.size<=k) w.heap.size (gY fe (l.take k))∧Below w.heap.size w wr) (fun t _=>l.length-(intOf t).toNat)
 case atStart=>exact⟨0,ax _,rfl,by rw[List.take_zero];exact HS.o,HB.o⟩
 case round =>
  obtain⟨k,hk,rfl,d,D⟩:=hrel;have a:=aa d;have b:=aa D
  clear d D;by_cases c:k<l.length
  . obtain⟨bb,oo,q,rfl,hc0,hc1,hc2,hc3,f⟩:=(HE.o.e b.o).a k c;have G:(k:Int)<l.length:=by omega
    have v:=HF.o _ (eX c);have s:=(ar _ wr).alloc (am _) (K #[I J l[k].b,I J l[k].a,I J l[k].n,Z q.a l[k].c.length q.b] 264);have i:cM (gY fe (l.take k)):=Bh _ cM.j;have m:(gY fe (l.take k)).a<=1000000:=by
     have:=Bg (l.take k) fe;rw[bV] at this;have h0:fe.a=0:=rfl;omega
    have H:=aa (SF (gY fe (l.take k)) (fun k=>w.heap.size<=k) w.heap.size l[k] q.a l[k].c.length q.b _ (a.o.a s) i m (f.a s) rfl v.2 v.1);rw[<-Pu fe l k c] at H;have L:=aa s;clear v s i m f a;generalize l[k]=p at *;go_wp2_with fail;refine H.o.mono ?_;rintro e N ⟨rfl,x⟩;have r:=b.o.size;have y:=L.o.size;have S:Hid (cC N (fun k=>w.heap.size<=k) w.heap.size (gY fe (l.take (k+1)))∧Below w.heap.size w N):=by
     refine⟨x.b.e (fun j _ e=>?_),(b.o.trans (L.o.mono r)).trans (x.c.below (fun j e=>e) (by omega))⟩;rcases e with e | e
     . exact e
     . show w.heap.size<=j;omega
    clear x r y;go_wp2;go_roundw
    case rel=>exact⟨k+1,by omega,by go_num,S.o.1,S.o.2⟩
    case measure=>simp[intOf];omega
  . obtain rfl:k=l.length:=by omega
    rw[fL] at a;go_wp2;go_ret;exact⟨_,rfl,a.o,b.o⟩
structure G6 (S:Nat->Prop)(w:X)(g:Nat)(s:av)(w':X):Prop where
 b:aT w' (ay S w) g s
 a:ak S w w'
theorem M0 {s:av}{S:Nat->Prop}{g:Nat}{w:X}(h:aT w S g s)(ok:aK s)(a:Int):
 Calls prog 73 #[Q (M ⟨g,0,U⟩),I J a] w fun e w'=>e=Y (.tuple #[])∧G6 S w g (gX s a) w':=by
 obtain⟨gs,gl,ao,ca,P,hI⟩:=h;obtain⟨⟨c0,c1⟩,_⟩:=cD hI.a;have c:s.b+jw a (s.a.length-s.b)=dJ s a:=rfl;have hll:=PF ok.d a;have mF:=ok.b;obtain⟨hd1,i,y⟩:=GP s a;have HC:=aa (LN hI.b a);rw[c] at HC;have z:(s.a.take (dJ s a)).length=dJ s a:=by rw[bV];omega
 have HK:Hid (∀e∈(bY (s.a.take (dJ s a))).1,(1<=e.b∧e.b<=6)∧e.c.length<=1000000):=fun e he=>⟨SH he,by have:=SG he;omega⟩;have Ms:Hid (gX s a=⟨gY fe (bY (s.a.take (dJ s a))).1,(s.a.take (dJ s a)).take (bY (s.a.take (dJ s a))).2,(bY (s.a.take (dJ s a))).2⟩):=by
  show _=_;rw[List.take_take,pS i];rfl
 have HI:=aa hI;have hn5:dJ s a<=100000:=by omega
 clear hI c hll ok hd1;generalize s.a.take (dJ s a)=b at *;generalize dJ s a=n at *;subst z;clear mF;go_enter func73,ntmps73;go_wp2_with fail;refine HC.o.mono ?_;rintro e w1 ⟨rfl,q,B⟩;obtain⟨r,C⟩:=HI.o.q q B;obtain⟨⟨c0',c1'⟩,_⟩:=cD r.a;have D:=aa (In q);have G:=aa r;have H:=aa C
 clear q B r C c0 c1 HC HI;go_wp2_with fail;refine D.o.mono ?_;rintro e w2 ⟨jR,ca2,rfl,L,t⟩;have N:=aa (MZ b jR ca2 b.length w2 L rfl (by omega));have T:=aa (G.o.e t);have HT2:Hid (ak S w w2):=H.o.a (ak.e t) (fun _ e _=>e);clear L t G H D c0' c1';go_wp2_with fail;refine N.o.mono ?_;rintro e w3 ⟨lN,Z4,rfl,W,u⟩;have VZ:=T.o.e u;obtain⟨⟨c0,c1⟩,_⟩:=cD VZ.a;have hgl:gl<w2.heap.size:=T.o.b.f;have HT3:Hid (ak S w w3):=HT2.o.a (ak.e u) (fun _ e _=>e);have HE3:=aa W;have j:=aa VZ
 clear W u VZ N;have l:Hid (∀f,lm f S g gs gl ao ca P ⟨s.h,b.take (bY b).2,(bY b).2⟩->ak S w f->lk f (fun k=>w2.heap.size<=k) 264 lN Z4 (bY b).1 ->
  f.cell? ⟨g,0,U⟩=M (Q (M ⟨gs,0,U⟩))∧Calls prog 129 #[Z lN (bY b).1.length Z4] f (fun e w'=>∃x,e=Y (Q (M ⟨x,0,U⟩))∧(w'.cell? ⟨g,0,U⟩=M (Q (M ⟨gs,0,U⟩))∧w'.frozen? ⟨g,0,U⟩=F)∧G6 S w g (gX s a) (w'.setCell ⟨g,0,U⟩ (Q (M ⟨x,0,U⟩))))):=fun f m zi hE4=>by
  refine⟨(cD m.a).1.1,(Og (bY b).1 lN Z4 _ f hE4.j rfl (by omega) HK.o).mono ?_⟩;rintro e w5 ⟨x,rfl,hS5,hb5⟩;obtain⟨hr,hA,PN⟩:=m.j hb5 hS5 (m.b.j hb5) (ak.r _ _) (A rfl);refine⟨x,rfl,⟨(cD hr).1.1,(cD hr).2.1⟩,?_,zi.a PN (fun _ e _=>e)⟩;rw[Ms.o];have hsz:=zi.b;refine hA.a (fun k _ e=>?_);rcases e with e | e
  . exact A e
  . exact R (by omega)
 by_cases hcut:(bY b).2<b.length
 . have IU:=aa (C1 j.o.b (bY b).2 hcut);have p:min b.length (bY b).2=(bY b).2:=Nat.min_eq_right i;simp only[p] at IU;clear p hcut i y HK Ms;generalize (bY b).1=el at *;generalize (bY b).2=dn at *;go_wp2_with fail;refine IU.o.mono ?_;rintro e f ⟨rfl,hL4,EW⟩;obtain⟨m,zi⟩:=j.o.q hL4 EW;obtain⟨y0,d⟩:=l.o f m (HT3.o.a zi (fun _ e _=>e)) (HE3.o.f EW (fun k e e2=>by subst e2;omega));have v:=aa d;clear hL4 EW m zi d l c0 c1;go_wp2_with fail;refine v.o.mono ?_;rintro e w5 ⟨x,rfl,⟨z0,z1⟩,hF⟩;have HF:=aa hF;clear hF y0;go_wp2;go_end0
   exact⟨rfl,HF.o⟩
 . have IU:=aa (Ez j.o.b ((bY b).2:Int) (by show ¬(_∧_<(b.length:Int));omega));have hdn:(bY b).2=b.length:=by omega
   have m:lm w3 S g gs gl ao ca P ⟨s.h,b.take (bY b).2,(bY b).2⟩:=by
    have:=j.o;rw[hdn,fL];exact this
   obtain⟨y0,d⟩:=l.o w3 m HT3.o HE3.o;have v:=aa d;clear hcut i y HK Ms d l hdn m;generalize (bY b).1=el at *;generalize (bY b).2=dn at *;go_wp2_with fail;refine IU.o.mono ?_;rintro e f ⟨rfl,hw⟩;rw[hw];clear hw;go_wp2_with fail;refine v.o.mono ?_;rintro e w5 ⟨x,rfl,⟨z0,z1⟩,hF⟩;have HF:=aa hF;clear hF y0 c0 c1;go_wp2;go_end0
   exact⟨rfl,HF.o⟩
