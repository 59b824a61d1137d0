import Derived.Test.YtmbghcpcbdjfoaaGreatDoorPk29
import Derived.Test.YtmbghcpcbdjfoaaGreatDoorPk31
import Derived.Test.YtmbghcpcbdjfoaaGreatDoorPk30
import Derived.Test.YtmbghcpcbdjfoaaGreatDoorPk23
import Derived.Test.YtmbghcpcbdjfoaaGreatDoorPk16
open Go.Value renaming int->I,string->V,slice->Z,pointer->Q
open Go.IntKind renaming i64->J
open Go.Obj renaming cells->K
open Go.Ending renaming returned->Y
open Option renaming none->U,some->M
open Bool renaming false->F
open Or renaming inl->A,inr->R
open Go renaming World->X
set_option maxHeartbeats 6000000
set_option maxRecDepth 100000
open Go.Proofs.Tryz
namespace Go.Proofs.YtmbghcpcbdjfoaaGreatDoor
open Go.RowKit
section
variable {w w':X} {base g:Nat} {b:ae} {sure:Nat} {ao:ai} {ca:Nat}
def oi (g:Nat)(ao:ai):Nat->Prop:=fun k=>k=g∨au ao=M k
theorem dP.E (h:dP w base g b sure ao ca){x:ae}{n:Nat}{gQ:ai}{DN:Nat}{d:X}(o:bC d base 5 gQ DN (b++x))(j:w.grownBy d (au ao))(c:au gQ=au ao∨au gQ=M w.heap.size)(p:n=(b++x).length)(q:n<=100000):
 d.heap[g]? = M (K #[Z ao b.length ca,I J (sure:Int)] 141 (0,0))∧dP (d.setCell ⟨g,0,U⟩ (Z gQ n DN)) base g (b++x) sure gQ DN∧al (oi g ao) w (d.setCell ⟨g,0,U⟩ (Z gQ n DN)):=by
 have f:M g≠au ao:=fun e=>by
  cases ao with
  | none=>cases e
  | some a=>injection e with e;exact h.j a rfl e.symm
 have l:=(j.block g h.f f).trans h.a;have m:al (fun k=>k=g) d (d.setCell ⟨g,0,U⟩ (Z gQ n DN)):=al.f _ d _ _ rfl;have i:∀a,gQ=M a->¬a.block=g:=fun a e r=>by
  rcases c with c | c
  . rw[e] at c;exact f (by rw[<-c,<-r];rfl)
  . rw[e] at c;injection c with c;have:=h.f;omega
 subst p;refine⟨l,⟨aQ d g 0 _ _ _ l,o.f m i,h.e,by rw[aF];have:=h.h;omega,q⟩,(al.q (S:=oi g ao) j (fun k e=>R e)).a m (fun k e _=>A e)⟩
theorem tX (h:dP w base g b sure ao ca)(t:ai)(u n:Nat)(x:ae)(S:ay w t u x)(v:x.length=n)(y:b.length+n<=100000):Calls prog 200 #[Q (M ⟨g,0,U⟩),Z t n u] w fun e w'=>∃gQ DN,e=Y (I J 0)∧dP w' base g (b++x) sure gQ DN∧al (oi g ao) w w'∧(au gQ=au ao∨au gQ=M w.heap.size):=by
 obtain⟨⟨T,c1⟩,f0,f1⟩:=cX h.a;have W:Calls prog 224 #[Q (M ⟨g,0,U⟩),I J (n:Int)] w fun e w'=>e=Y (.bool true)∧w'=w:=by
  have:=Cz h (n:Int);rw[aV (by omega),aV (by omega)] at this;exact this
 obtain⟨i0,f,i,j,k⟩:=info_parts il;have Hi:=f;have kT:=aa i;have kL:=aa j;have kU:=aa k
 have z:∀gQ DN a,bC a base 5 gQ DN (b++x)->w.grownBy a (au ao)->(au gQ=au ao∨au gQ=M w.heap.size)->a.heap[g]? = M (K #[Z ao b.length ca,I J (sure:Int)] 141 (0,0))∧dP (a.setCell ⟨g,0,U⟩ (Z gQ (b.length+n) DN)) base g (b++x) sure gQ DN∧al (oi g ao) w (a.setCell ⟨g,0,U⟩ (Z gQ (b.length+n) DN)):=fun gQ DN a hO hG p=>h.E hO hG p (by rw[aF,v]) y;have HO:=h.c;have q:base<=w.heap.size:=by have:=h.e;have:=h.f;omega
 obtain⟨m,B⟩:∃m,b.length=m:=⟨_,rfl⟩;rw[B] at T y z;go_enter func200,ntmps200;go_wp2_with (first
  | (go_at_call 224;refine W.mono ?_;rintro e w2 ⟨rfl,C⟩;rw[C];clear C)
  | (at_builtin;refine tR rfl (.tmp 14) (.tmp 15) 31 rfl base 5 i0 underlying31 Hi kT.o kL.o kU.o (l:=b) (l2:=x) rfl B HO rfl v S (by omega) q ?_;intro D G a c d r;obtain⟨H,L,N⟩:=z D G a c d r;obtain⟨⟨d0,d1⟩,e0,e1⟩:=cX H;have s:=aa (And.intro L (And.intro N r));clear c d r H L N))
 go_ret;exact⟨D,G,rfl,s.o⟩
theorem tY (h:dP w base g b sure ao ca)(c:ai)(d n:Nat)(i:¬b.length+n<=100000):Calls prog 200 #[Q (M ⟨g,0,U⟩),Z c n d] w fun e w'=>e=Y (I J 16)∧w'=w:=by
 have f:Calls prog 224 #[Q (M ⟨g,0,U⟩),I J (n:Int)] w fun e w'=>e=Y (.bool F)∧w'=w:=by
  have:=Cz h (n:Int);rw[aV (show(0:Int)<=n by omega),aW (by omega)] at this;exact this
 go_enter func200,ntmps200;go_wp2_with (go_at_call 224;refine f.mono ?_;rintro e j ⟨rfl,a⟩;rw[a];clear a)
 go_ret;exact⟨rfl,rfl⟩
def jE (keep:Int)(d:Nat):Nat:=min (max keep 0).toNat d
theorem Mx (h:dP w base g b sure ao ca)(a:Int):Calls prog 102 #[Q (M ⟨g,0,U⟩),I J a] w fun e w'=>e=Y (.tuple #[])∧dP w' base g (b.take (sure+jE a (b.length-sure))) (sure+jE a (b.length-sure)) ao ca∧al (fun k=>k=g) w w':=by
 have c0:=cX h.a;have D:=h.h;have nN:=h.d;have hd:jE a (b.length-sure)<=b.length-sure:=by unfold jE;omega
 have d:Hid (∀W,Below w.heap.size w W->dP W base g b sure ao ca):=fun W f=>h.q f;have q:Hid ((jE a (b.length-sure):Int)=if a<0 then 0 else if (b.length:Int)-sure<a then (b.length:Int)-sure else a):=by
  unfold Hid jE;split
  . omega
  . split <;> omega
 have G:IntKind.i64.wrap ((b.length:Int)-sure)=(b.length:Int)-sure:=iY (by omega) (by omega);have H:∀W,Below w.heap.size w W->Calls prog 104 #[Q (M ⟨g,0,U⟩),I J ((sure:Int)+(jE a (b.length-sure):Int))] W fun e w'=>e=Y (.tuple #[])∧dP w' base g (b.take (sure+jE a (b.length-sure))) sure ao ca∧al (fun k=>k=g) W w':=fun W f=>by
  have i:=d.o W f;by_cases L:sure+jE a (b.length-sure)<b.length
  . have:=Dq i (sure+jE a (b.length-sure)) L;rw[show min sure (sure+jE a (b.length-sure))=sure by omega] at this;simpa using this
  . have e:sure+jE a (b.length-sure)=b.length:=by omega
    rw[e,fD];refine(EW i _ (by omega)).mono fun e w' ⟨N,z⟩=>⟨N,by rw[z];exact i,by rw[z];exact al.r _ _⟩
 have S:(b.take (sure+jE a (b.length-sure))).length=sure+jE a (b.length-sure):=by rw[bP];omega
 generalize b.take (sure+jE a (b.length-sure))=B at *;generalize jE a (b.length-sure)=c at *;have T:sure+c<=100000:=by omega
 generalize b.length=m at *;go_enter func102,ntmps102;go_upto_region 0 with fail
 go_cut [4] (fun v wd=>v=I J (c:Int)∧Below w.heap.size w wd)
 case first =>
  have r:Below w.heap.size w w.drew:=bA _ _;by_cases s:a<0
  . have e:(c:Int)=0:=by have:=q.o;rwa[if_pos s] at this
    have hk0:¬(m:Int)-sure<0:=by omega
    go_region
    all_goals
     go_wp2;go_meet;exact⟨by congr 1;omega,r⟩
  . by_cases j:(m:Int)-sure<a
    . have e:(c:Int)=(m:Int)-sure:=by have:=q.o;rwa[if_neg s,if_pos j] at this
      go_region
      all_goals
       go_wp2;go_meet;exact⟨by congr 1;omega,r⟩
    . have e:(c:Int)=a:=by have:=q.o;rwa[if_neg s,if_neg j] at this
      go_region
      all_goals
       go_wp2;go_meet;exact⟨by congr 1;omega,r⟩
 case rest =>
  obtain⟨rfl,t⟩:=hcut;have i:=d.o wc t;obtain⟨⟨d0,d1⟩,_⟩:=cX i.a;have hwz:IntKind.i64.wrap ((sure:Int)+c)=(sure:Int)+c:=iY (by omega) (by omega);have Lf:∀W,dP W base g B sure ao ca->Calls prog 148 #[Q (M ⟨g,0,U⟩)] W fun e w'=>e=Y (.tuple #[])∧dP w' base g B (sure+c) ao ca∧al (fun k=>k=g) W w':=fun W f=>by
   have:=Da f;rw[S] at this;exact this
  go_wp2_with (first
   | (go_at_call 104;refine(H wc t).mono ?_;rintro e w3 ⟨rfl,l,n⟩;have u:=aa l;have x:=aa n;clear l n)
   | (go_at_call 148;refine(Lf _ u.o).mono ?_;rintro e w4 ⟨rfl,p,C⟩;have y:=aa p;have Y7:=aa C;clear p C))
  go_end0
  exact⟨rfl,y.o,((al.d t).a x.o (fun _ e _=>e)).a Y7.o (fun _ e _=>e)⟩
end
theorem dP.r {w w':X}{c g:Nat}{b:ae}{d:Nat}{ao:ai}{e:Nat}{S:Nat->Prop}(h:dP w c g b d ao e)(f:al S w w')(i:¬S g)(ha:∀a,ao=M a->¬S a.block):dP w' c g b d ao e:=⟨f.j h.a i,h.c.f f ha,h.e,h.h,h.d⟩
structure lO (w:X)(S:Nat->Prop)(g gs gl:Nat)(ao:ai)(ca:Nat)(P:Nat->Prop)(s:av):Prop where
 a:w.heap[g]? = M (K #[Q (M ⟨gs,0,U⟩),Q (M ⟨gl,0,U⟩)] 45 (0,0))
 e:cE w P gs s.h
 b:dP w 0 gl s.a s.b ao ca
 i:S g
 h:∀k,P k->S k∧k≠g∧¬oi gl ao k
 c:∀k,oi gl ao k->S k∧k≠g
def aY (w:X)(S:Nat->Prop)(g:Nat)(s:av):Prop:=∃gs gl ao ca P,lO w S g gs gl ao ca P s
section
variable {w w' w1 w2 w3:X} {S S' P P':Nat->Prop} {g gs gl:Nat} {ao:ai} {ca:Nat} {s:av}
theorem lO.r (h:lO w S g gs gl ao ca P s):∀k,oi gl ao k->k<w.heap.size:=fun k e=>by
 rcases e with e | e
 . rw[e];exact h.b.f
 . cases ao with
   | none=>cases e
   | some a=>injection e with e;subst e;exact(h.b.c.d a rfl).2
theorem lO.f (h:lO w S g gs gl ao ca P s):g<w.heap.size:=(bH.1 h.a).1
theorem lO.y (h:lO w S g gs gl ao ca P s)(c:al S' w w')(b:∀k,S k->¬S' k):lO w' S g gs gl ao ca P s :=
 ⟨c.j h.a (b g h.i),h.e.j c (fun k e=>b k (h.h k e).1),h.b.r c (b _ (h.c gl (A rfl)).1) (fun a e=>b _ (h.c a.block (R (by rw[e];rfl))).1),h.i,h.h,h.c⟩
theorem lO.d (h:lO w S g gs gl ao ca P s)(a:Below w.heap.size w w'):lO w' S g gs gl ao ca P s:=h.y (al.d (S:=fun _=>False) a) (fun _ _ e=>e)
theorem lO.B (h:lO w S g gs gl ao ca P s)(a:∀k,k<w.heap.size->S k->S' k):lO w S' g gs gl ao ca (fun k=>P k∧k<w.heap.size) s :=
 ⟨h.a,h.e.d (fun _ b e=>⟨e,b⟩),h.b,a g h.f h.i,fun k e=>⟨a k e.2 (h.h k e.1).1,(h.h k e.1).2⟩,fun k e=>⟨a k (h.r k e) (h.c k e).1,(h.c k e).2⟩⟩
theorem aY.e (h:aY w S g s)(a:al S' w w')(b:∀k,S k->¬S' k):aY w' S g s:=by
 obtain⟨gs,gl,ao,ca,P,h⟩:=h;exact⟨gs,gl,ao,ca,P,h.y a b⟩
theorem aY.d (h:aY w S g s)(a:Below w.heap.size w w'):aY w' S g s:=h.e (al.d (S:=fun _=>False) a) (fun _ _ e=>e)
theorem aY.a (h:aY w S g s)(a:∀k,k<w.heap.size->S k->S' k):aY w S' g s:=by
 obtain⟨gs,gl,ao,ca,P,h⟩:=h;exact⟨gs,gl,ao,ca,_,h.B a⟩
end
structure dt (S:Nat->Prop)(w:X)(g:Nat)(r:av×Nat)(e:Ending)(w':X):Prop where
 f:e=Y (I J (r.2:Int))
 c:aY w' (aB S w) g r.1
 b:al S w w'
section
variable {w w' w1 w2 w3:X} {S S' P P':Nat->Prop} {g gs gl:Nat} {ao:ai} {ca:Nat} {s:av}
theorem dt.a {c:Nat}(h:aY w S g s)(a:Below w.heap.size w w'){r:av×Nat}(b:r=(s,c)):dt S w g r (Y (I J (c:Int))) w':=by
 subst b;exact⟨rfl,(h.d a).a (fun k _ e=>A e),al.d a⟩
theorem dt.d {r:av×Nat}{e:Ending}(a:Below w.heap.size w w1)(h:dt S w1 g r e w'):dt S w g r e w':=by
 have b:=a.size;refine⟨h.f,h.c.a (fun k _ e=>?_),(al.d a).a h.b (fun _ e _=>e)⟩;rcases e with e | e
 . exact A e
 . exact R (by omega)
theorem lO.j {b:Nat}{m:aA}{n:ae}{o:Nat}{gQ:ai}{DN:Nat}(h:lO w S g gs gl ao ca P s)(p:Below w.heap.size w w1)(u:cE w1 (fun k=>w.heap.size<=k) b m)(v:dP w2 0 gl n o gQ DN)(q:al (oi gl ao) w1 w2)(j:au gQ=au ao∨au gQ=M w1.heap.size):
 w2.heap[g]? = M (K #[Q (M ⟨gs,0,U⟩),Q (M ⟨gl,0,U⟩)] 45 (0,0))∧aY (w2.setCell ⟨g,0,U⟩ (Q (M ⟨b,0,U⟩))) (aB S w) g ⟨m,n,o⟩∧al S w (w2.setCell ⟨g,0,U⟩ (Q (M ⟨b,0,U⟩))):=by
 have x:=p.size;have i:=h.r;have y:=h.f;have r:=(al.d p).a q (fun _ e _=>e);have t:=r.j h.a (fun e=>(h.c g e).2 rfl);have l:al (fun k=>k=g) w2 (w2.setCell ⟨g,0,U⟩ (Q (M ⟨b,0,U⟩))):=al.f (fun k=>k=g) w2 _ _ rfl;have d:∀k,oi gl gQ k->oi gl ao k∨k=w1.heap.size:=fun k e=>by
  rcases e with e | e
  . exact A (A e)
  . rcases j with a | a
    . exact A (R (a▸e))
    . rw[a] at e;injection e with e;exact R e.symm
 refine⟨t,⟨b,gl,gQ,DN,fun k=>w.heap.size<=k∧k<w1.heap.size,?_,?_,?_,A h.i,fun k e=>⟨R e.1,by omega,fun f=>?_⟩,fun k e=>?_⟩,?_⟩
 . exact aQ w2 g 0 _ _ _ t
 . exact((u.d (S':=fun k=>w.heap.size<=k∧k<w1.heap.size) (fun k z e=>⟨e,z⟩)).j q (fun k e f=>by have:=i k f;omega)).j l (fun k e f=>by subst f;omega)
 . refine v.r l (fun e=>(h.c gl (A rfl)).2 e) (fun a e f=>?_);rcases d a.block (R (by rw[e];rfl)) with c | c
   . exact(h.c _ c).2 f
   . omega
 . rcases d k f with c | c
   . have:=i k c;omega
   . omega
 . rcases d k e with c | c
   . exact⟨A (h.c k c).1,(h.c k c).2⟩
   . exact⟨R (by omega),by omega⟩
 . exact(r.e (fun k e=>(h.c k e).1)).a (l.e (fun k e=>by subst e;exact h.i)) (fun _ e _=>e)
end
structure lq where
 e:Nat
 c:ai
 d:Nat
 a:ai
 b:Nat
def mN (c:cU)(x:lq):List Value:=[Q (M ⟨x.e,0,U⟩),V ⟨c.a.c.toArray⟩,V ⟨c.a.b.toArray⟩,I J (c.a.e:Int),Z x.c c.a.a.length x.d,I J c.a.d,Z x.a c.b.length x.b]
def lt (gs:Nat)(v:Nat->List Value):List Value:=Q (M ⟨gs,0,U⟩)::(v 0++(v 1++(v 2++v 3)))
def eK (c:Nat->cU)(x:Nat->lq):Nat->List Value:=fun k=>mN (c k) (x k)
theorem rT {l:List Value}(h:l.length=7):∃a b a2 c d e f,l=[a,b,a2,c,d,e,f]:=by
 match l,h with
 | [a,b,a2,c,d,e,f],_=>exact⟨a,b,a2,c,d,e,f,rfl⟩
theorem Us (gs:Nat)(v:Nat->List Value)(a:∀k,k<4->(v k).length=7){k:Nat}(b:k<4){j:Nat}(c:j<7):(lt gs v).toArray[1+k*7+j]? = (v k)[j]?:=by grind [lt]
theorem Ue (gs:Nat)(v:Nat->List Value)(a:∀k,k<4->(v k).length=7){k:Nat}(f:k<4){j:Nat}(g:j<7)(u:Value):(lt gs v).set (1+k*7+j) u=lt gs (bN v k ((v k).set j u)):=by
 obtain⟨i,l,m,n,o,p,q,b⟩:=rT (a 0 (by omega));obtain⟨r,s,t,w,x,y,z,c⟩:=rT (a 1 (by omega));obtain⟨B,C,D,G,H,L,N,d⟩:=rT (a 2 (by omega));obtain⟨S,T,W,s3,s4,s5,s6,e⟩:=rT (a 3 (by omega));obtain rfl | rfl | rfl | rfl:k=0∨k=1∨k=2∨k=3:=by omega
 . show _=Q (M ⟨gs,0,U⟩)::((v 0).set j u++(v 1++(v 2++v 3)));unfold lt;rw[b,c,d,e];obtain rfl | rfl | rfl | rfl | rfl | rfl | rfl:j=0∨j=1∨j=2∨j=3∨j=4∨j=5∨j=6:=by omega
   all_goals rfl
 . show _=Q (M ⟨gs,0,U⟩)::(v 0++((v 1).set j u++(v 2++v 3)));unfold lt;rw[b,c,d,e];obtain rfl | rfl | rfl | rfl | rfl | rfl | rfl:j=0∨j=1∨j=2∨j=3∨j=4∨j=5∨j=6:=by omega
   all_goals rfl
 . show _=Q (M ⟨gs,0,U⟩)::(v 0++(v 1++((v 2).set j u++v 3)));unfold lt;rw[b,c,d,e];obtain rfl | rfl | rfl | rfl | rfl | rfl | rfl:j=0∨j=1∨j=2∨j=3∨j=4∨j=5∨j=6:=by omega
   all_goals rfl
 . show _=Q (M ⟨gs,0,U⟩)::(v 0++(v 1++(v 2++(v 3).set j u)));unfold lt;rw[b,c,d,e];obtain rfl | rfl | rfl | rfl | rfl | rfl | rfl:j=0∨j=1∨j=2∨j=3∨j=4∨j=5∨j=6:=by omega
   all_goals rfl
theorem ux (c:Nat->cU)(x:Nat->lq)(k:Nat)(a:cU)(b:lq):eK (bN c k a) (bN x k b)=bN (eK c x) k (mN a b):=by
 funext i;unfold eK bN;split <;> rfl
structure gI (w:X)(g gs:Nat)(v:Nat->List Value):Prop where
 c:w.heap[g]? = M (K (lt gs v).toArray 89 (0,0))
 b:∀k,k<4->(v k).length=7
theorem gI.q {w:X}{g gs:Nat}{v:Nat->List Value}(h:gI w g gs v):w.cell? ⟨g,0,U⟩=M (Q (M ⟨gs,0,U⟩)):=am w g 0 _ _ _ h.c
theorem gI.a {w:X}{g gs:Nat}{v:Nat->List Value}(h:gI w g gs v){k:Nat}(a:k<4){j:Nat}(b:j<7){u:Value}(c:(v k)[j]? = M u):w.cell? ⟨g,1+k*7+j,U⟩=M u:=by
 rw[am w g _ _ _ _ h.c,Us gs v h.b a b];exact c
theorem gI.e {w:X}{g gs:Nat}{v:Nat->List Value}(h:gI w g gs v)(j:Nat):w.frozen? ⟨g,j,U⟩=F:=aD w g j _ _ h.c
theorem gI.f {w:X}{g gs:Nat}{v:Nat->List Value}(h:gI w g gs v):g<w.heap.size:=(bH.1 h.c).1
theorem gI.d {w:X}{g gs:Nat}{v:Nat->List Value}(h:gI w g gs v){k:Nat}(a:k<4){j:Nat}(b:j<7)(u:Value):gI (w.setCell ⟨g,1+k*7+j,U⟩ u) g gs (bN v k ((v k).set j u)):=by
 refine⟨?_,fun i c=>?_⟩
 . rw[aQ w g _ _ _ _ h.c];congr 2;rw[<-Ue gs v h.b a b];simp
 . unfold bN;split
   . rw[qk];exact h.b k a
   . exact h.b i c
inductive mw
 | row
 | jl
 | rq (k:Nat)
 | fl (k:Nat)
 | bd (k:Nat)
 | ret
 | out
def gc (g gs:Nat)(s:av)(v:Nat->List Value)(n:Nat)(c:Nat->cU)(x:Nat->lq)(z:Nat->dC)(o:dC):mw->dC
 | .row=>fun w S=>gI w g gs v∧S g
 | .jl=>fun w S=>aY w S gs s
 | .rq k=>fun w S=>k<n->dT w S (x k).e (c k).c
 | .fl k=>fun w S=>(k<n->jz w S (x k).c (x k).d (c k).a.a.length (aI (bL (c k).a.a)))∧z k w S
 | .bd k=>fun w S=>k<n->bM w S 5 (x k).a (x k).b (c k).b
 | .ret=>o
 | .out=>fun _ _=>True
theorem lK {g gs:Nat}{s:av}{v:Nat->List Value}{n:Nat}{c:Nat->cU}{x:Nat->lq}{z:Nat->dC}{o:dC}(f:∀k,bQ (z k))(i:bQ o):∀d,bQ (gc g gs s v n c x z o d)
 | .row=>⟨fun h e a=>⟨⟨e.j h.1.c (a g h.2),h.1.b⟩,h.2⟩,fun h a=>⟨h.1,a g h.1.f h.2⟩⟩
 | .jl=>⟨fun h e a=>aY.e h e a,fun h a=>aY.a h a⟩
 | .rq _=>⟨fun h e a b=>(h b).d e a,fun h a b=>(h b).a a⟩
 | .fl k=>⟨fun h e a=>⟨fun b=>(h.1 b).d e a,(f k).b h.2 e a⟩,fun h a=>⟨fun b=>(h.1 b).e a,(f k).c h.2 a⟩⟩
 | .bd _=>⟨fun h e a b=>(h b).a e a,fun h a b=>(h b).e a⟩
 | .ret=>i
 | .out=>bQ.a
def jt:Nat->dC:=fun _ _ _=>True
def fi:dC:=fun _ _=>True
def gH (w:X)(S:Nat->Prop)(g gs:Nat)(s:av)(c:Nat->cU):Prop:=∃κ x,fm (gc g gs s (eK c x) 4 c x jt fi) κ w∧∀k,κ k≠.out->S k
section
variable {w w':X} {S S':Nat->Prop} {g gs:Nat} {s:av} {c:Nat->cU}
theorem gH.d (h:gH w S g gs s c)(f:al S' w w')(i:∀k,S k->¬S' k):gH w' S g gs s c:=by
 obtain⟨j,x,l,a⟩:=h;refine⟨j,x,fun d=>?_,a⟩;by_cases b:d=.out
 . subst b;exact trivial
 . exact(lK (fun _=>bQ.a) bQ.a d).b (l d) f (fun k e=>i k (a k (by rw[e];exact b)))
theorem gH.f (h:gH w S g gs s c)(a:Below w.heap.size w w'):gH w' S g gs s c:=h.d (al.d (S:=fun _=>False) a) (fun _ _ e=>e)
theorem gH.a (h:gH w S g gs s c)(f:∀k,k<w.heap.size->S k->S' k):gH w S' g gs s c:=by
 obtain⟨i,x,j,l⟩:=h;refine⟨cA i w.heap.size .out,x,fun d=>?_,fun k a=>?_⟩
 . by_cases m:d=.out
   . subst m;exact trivial
   . exact(lK (fun _=>bQ.a) bQ.a d).c (j d) (fun k a e=>(fF a).trans e)
 . rcases fe k w.heap.size with b | b
   . rw[fF b] at a;exact f k b (l k a)
   . exact absurd (qz b) a
end
theorem bJ:oR aY:=⟨aY.e,aY.a⟩
def tq (t:ag):Bool:=decide (t=oy)||(decide (7<=t.size)&&decide (t.data.toList.take 7=kG.data.toList))
theorem Rm (a b:ag):(a.toList==b.toList)=decide (a.data.toList=b.data.toList):=by
 rw[Lib.toList_data,Lib.toList_data,ik];simp
theorem gY.r {w:X}{S:Nat->Prop}{a c d g:Nat}{s:aA}(h:gY w S a c d g s)(v:Int):gY (w.setCell ⟨g,1,U⟩ (I J v)) S a c d g ⟨s.l,v⟩∧al (fun k=>k=g) w (w.setCell ⟨g,1,U⟩ (I J v)):=by
 obtain⟨i,b,j,m,n⟩:=h;have f:al (fun k=>k=g) w (w.setCell ⟨g,1,U⟩ (I J v)):=al.f (fun k=>k=g) w _ _ rfl;exact⟨⟨i,b,aQ w g 1 _ a _ j,m,n.j f (fun k e o=>e.2 o)⟩,f⟩
theorem Fb (s:aA)(S:Nat->Prop)(g:Nat)(w:X)(h:cE w S g s)(k:0<=s.a)(l:s.a<=1000000):
 Calls prog 218 #[Q (M ⟨g,0,U⟩)] w fun e w'=>e=Y (I J (s.a+1))∧w'=w:=by
 obtain⟨m,a,b,n,c,d,f,i,j⟩:=h.e;clear j f i b c d h;generalize s.a=t at *;go_enter func218,ntmps218;go_wp2;go_ret;exact⟨rfl,rfl⟩
structure pQ (S:Nat->Prop)(tO:Nat)(w:X)(g:Nat)(r:aA×Int×Nat)(e:Ending)(w':X):Prop where
 d:e=Y (.tuple #[I J r.2.1,I J (r.2.2:Int)])
 b:gY w' (aB S w) tO 92 5 g r.1
 c:al S w w'
theorem pQ.a {w w':X}{S:Nat->Prop}{a g:Nat}{s:aA}{c:Nat}(h:gY w S a 92 5 g s)(b:Below w.heap.size w w'){r:aA×Int×Nat}(d:r=(s,0,c)):pQ S a w g r (Y (.tuple #[I J 0,I J (c:Int)])) w':=by
 subst d;exact⟨rfl,(h.a b).d (fun k _ e=>A e),al.d b⟩
theorem Dj (s:aA)(S:Nat->Prop)(g:Nat)(c:Int)(m:ag)(w:X)(h:cE w S g s)(ok:cO s)(hl:s.a<=1000000)(hm:m.size<=1000000):
 Calls prog 210 #[Q (M ⟨g,0,U⟩),I J c,V m] w (pQ S 121 w g (fq s c m)):=by
 have hN:=ok.b;have hl0:=ok.c;obtain⟨ao,cap,c0,c1,f0,f1,hg,hS,hU⟩:=h.e;have hcap:=hU.e;by_cases L:c < -1
 . have y:pQ S 121 w g (fq s c m) (Y (.tuple #[I J 0,I J (1:Nat)])) w:=pQ.a h (aq _ _) (by unfold fq;rw[if_pos L]);go_enter func210,ntmps210;go_wp2;go_ret2;exact y
 . have n1:decide (c < -1)=F:=by rw[cz];exact L
   by_cases h2:2000<c
   . have y:pQ S 121 w g (fq s c m) (Y (.tuple #[I J 0,I J (4:Nat)])) w:=pQ.a h (aq _ _) (by unfold fq;rw[if_neg L,if_pos (A h2)]);have n2:decide (c > 2000)=true:=by rw[bS];exact h2
     go_enter func210,ntmps210;go_wp2;go_ret2;exact y
   . have n2:decide (c > 2000)=F:=by rw[cz];exact h2
     by_cases h3:100<m.size
     . have y:pQ S 121 w g (fq s c m) (Y (.tuple #[I J 0,I J (4:Nat)])) w:=pQ.a h (aq _ _) (by unfold fq;rw[if_neg L,if_pos (R h3)]);have n3:decide ((m.size:Int) > 100)=true:=by rw[bS];omega
       go_enter func210,ntmps210;go_wp2;go_ret2;exact y
     . have n3:decide ((m.size:Int) > 100)=F:=by rw[cz];omega
       have e2:¬(2000<c∨100<m.size):=by omega
       have HV:=rH m w (by unfold maxLen;omega);cases hv:cF m.data.toList with
       | false =>
         rw[hv] at HV;have y:pQ S 121 w g (fq s c m) (Y (.tuple #[I J 0,I J (3:Nat)])) w:=pQ.a h (aq _ _) (by unfold fq;rw[if_neg L,if_neg e2,if_pos (A hv)]);go_enter func210,ntmps210;go_wp2_with (go_at_call 236;refine HV.mono ?_;rintro e z ⟨rfl,rfl⟩)
         go_ret2;exact y
       | true =>
         rw[hv] at HV;have zS:=um m w (by omega);have G:=Rm ⟨(Lib.trimS m.data.toList aX).toArray⟩ m;obtain⟨T,hT⟩:∃T:ag,T=⟨(Lib.trimS m.data.toList aX).toArray⟩:=⟨_,rfl⟩;have hTd:T.data.toList=Lib.trimS m.data.toList aX:=by rw[hT]
         rw[<-hT] at zS G;rw[hTd] at G;by_cases h4:Lib.trimS m.data.toList aX=m.data.toList
         . rw[aV h4] at G;have e3:¬(cF m.data.toList=F∨Lib.trimS m.data.toList aX≠m.data.toList):=by rw[hv];simpa using h4
           by_cases h5:12<=s.l.length
           . have y:∀W,Below w.heap.size w W->W.cell? ⟨g,0,U⟩=M (Z ao s.l.length cap)∧pQ S 121 w g (fq s c m) (Y (.tuple #[I J 0,I J (8:Nat)])) W:=fun W D=>⟨by rw[D.cell (p:=⟨g,0,U⟩) h.f];exact c0,pQ.a h D (by unfold fq;rw[if_neg L,if_neg e2,if_neg e3,if_pos h5])⟩;have n5:decide ((s.l.length:Int)≥12)=true:=by rw[bS];omega
             go_enter func210,ntmps210;go_wp2_with (first | (go_at_call 236;refine HV.mono ?_;rintro e z ⟨rfl,rfl⟩) | (go_at_call 237;refine zS.mono ?_;rintro e z ⟨rfl,B⟩;obtain⟨d0,hd⟩:=y z B;have HD:=aa hd;clear hd B))
             go_ret2;exact HD.o
           . have n5:decide ((s.l.length:Int)≥12)=F:=by rw[cz];omega
             have Q5:Hid (fq s c m=(⟨s.l++[⟨s.a+1,c,m,[],0⟩],s.a+1⟩,s.a+1,0)):=by unfold fq;rw[if_neg L,if_neg e2,if_neg e3,if_neg h5];exact rfl
             have XL:∀W,Below w.heap.size w W->Calls prog 218 #[Q (M ⟨g,0,U⟩)] W fun e w'=>e=Y (I J (s.a+1))∧w'=W:=fun W D=>Fb s S g W (h.a D) hl0 hl;have yS:=fun W=>pr m W hm;have HC:∀W,Below w.heap.size w W->W.cell? ⟨g,0,U⟩=M (Z ao s.l.length cap)∧W.cell? ⟨g,1,U⟩=M (I J s.a)∧W.frozen? ⟨g,1,U⟩=F:=fun W D=>⟨by rw[D.cell (p:=⟨g,0,U⟩) h.f];exact c0,by rw[D.cell (p:=⟨g,1,U⟩) h.f];exact c1,by rw[D.frozen (p:=⟨g,1,U⟩) h.f];exact f1⟩;go_enter func210,ntmps210;go_wp2_with (first | (go_at_call 236;refine HV.mono ?_;rintro e z ⟨rfl,hw⟩;rw[hw];clear hw) | (go_at_call 237;refine zS.mono ?_;rintro e z ⟨rfl,B⟩;obtain⟨d0,d1,d2⟩:=HC z B;have HB:=aa B;clear B) | (go_at_call 218;refine(XL _ HB.o).mono ?_;rintro e wn ⟨rfl,hw⟩;rw[hw];clear hw))
             obtain⟨hs2,ht2⟩:=(h.a HB.o).r (s.a+1);have kD:al S w (z.setCell ⟨g,1,U⟩ (I J (s.a+1))):=(al.d HB.o).a (ht2.e (fun k e=>by subst e;exact h.e.choose_spec.choose_spec.2.2.2.2.2.1)) (fun _ e _=>e);generalize hw3:z.setCell ⟨g,1,U⟩ (I J (s.a+1))=b at *;obtain⟨N,iq,c0,c1,f0,f1,hg3,Ll,hU3⟩:=hs2.e;have hlt:=hs2.f;have Av:=hg3;have HU3:=aa hU3
             simp only at c0 c1;have ahi:Calls prog 111 #[V m] (b.alloc (K #[I J 0,I J 0,V ⟨#[]⟩,Z U 0 0,I J 0] 92)).drew fun e d=>e=Y (V m)∧Below b.heap.size b d∧d.heap[b.heap.size]? = M (K #[I J 0,I J 0,V ⟨#[]⟩,Z U 0 0,I J 0] 92 (0,0)):=(yS _).mono fun e d ⟨he,f⟩=>by
              refine⟨he,(((aq _ b).alloc (ak _) _).trans (bA _ _)).trans (f.mono (by show b.heap.size<=(b.alloc _).heap.size;rw[ch];omega)),?_⟩;rw[f.block b.heap.size (by show b.heap.size<(b.alloc _).heap.size;rw[ch];omega)];exact bw b _
             have ahj:Calls prog 111 #[V m] b.drew fun e d=>e=Y (V m)∧Below b.heap.size b d:=(yS _).mono fun e d ⟨he,f⟩=>⟨he,(bA _ _).trans f⟩;have aqB:¬b.heap.size=g:=by omega
             have anF:¬g=b.heap.size:=by omega
             clear yS;have HMt:∀d,Below b.heap.size b d->d.heap[b.heap.size]? = M (K #[I J 0,I J 0,V ⟨#[]⟩,Z U 0 0,I J 0] 92 (0,0))->Below b.heap.size b (((((d.setCell ⟨b.heap.size,0,U⟩ (I J (s.a+1))).setCell ⟨b.heap.size,1,U⟩ (I J c)).setCell ⟨b.heap.size,2,U⟩ (V m)).setCell ⟨b.heap.size,3,U⟩ (Z U 0 0)).setCell ⟨b.heap.size,4,U⟩ (I J 0))∧(((((d.setCell ⟨b.heap.size,0,U⟩ (I J (s.a+1))).setCell ⟨b.heap.size,1,U⟩ (I J c)).setCell ⟨b.heap.size,2,U⟩ (V m)).setCell ⟨b.heap.size,3,U⟩ (Z U 0 0)).setCell ⟨b.heap.size,4,U⟩ (I J 0)).heap[b.heap.size]? = M (K #[I J (s.a+1),I J c,V m,Z U 0 0,I J 0] 92 (0,0)):=fun d B hr=>by
              refine⟨((((B.setCell (ak _) _).setCell (ak _) _).setCell (ak _) _).setCell (ak _) _).setCell (ak _) _,?_⟩;exact aQ _ _ 4 _ _ _ (aQ _ _ 3 _ _ _ (aQ _ _ 2 _ _ _ (aQ _ _ 1 _ _ _ (aQ _ _ 0 _ _ _ hr))))
             go_cut [8] (fun t wd=>∃nb,t=Q (M ⟨nb,0,U⟩)∧b.heap.size<=nb∧Below b.heap.size b wd∧wd.heap[nb]? = M (K #[I J (s.a+1),I J c,V m,Z U 0 0,I J 0] 92 (0,0)))
             case first =>
              go_region_held3 (fun w'=>w'.cell? ⟨g,1,U⟩=M (I J (s.a+1))) (go_keep) (first
               | (go_at_call 111;refine ahi.mono ?_;rintro e d ⟨rfl,i,v⟩;have c1':d.cell? ⟨g,1,U⟩=M (I J (s.a+1)):=(i.cell (p:=⟨g,1,U⟩) hlt).trans c1;have z0:=am d _ 0 _ _ _ v;have z1:=am d _ 1 _ _ _ v;have z2:=am d _ 2 _ _ _ v;have z3:=am d _ 3 _ _ _ v;have z4:=am d _ 4 _ _ _ v;have y0:=aD d _ 0 _ _ v;have y1:=aD d _ 1 _ _ v;have y2:=aD d _ 2 _ _ v;have y3:=aD d _ 3 _ _ v;have y4:=aD d _ 4 _ _ v;simp at z0 z1 z2 z3 z4;have kF:=aa i;have HR4:=aa v;clear i v)
               | (go_at_call 111;refine ahj.mono ?_;rintro e d ⟨rfl,i⟩;have c1':d.cell? ⟨g,1,U⟩=M (I J (s.a+1)):=(i.cell (p:=⟨g,1,U⟩) hlt).trans c1;have aqC:¬d.heap.size=g:=(by have:=i.size;omega);have anG:¬g=d.heap.size:=(by have:=i.size;omega);have kF:=aa i;clear i))
              all_goals go_wp2
              all_goals go_meet
              . exact⟨_,rfl,kF.o.size,kF.o.alloc kF.o.size _,bw d _⟩
              . exact⟨_,rfl,ak _,HMt d kF.o HR4.o⟩
             case rest =>
              obtain⟨nb,rfl,hnb,f,q⟩:=hcut;have hU4:=HU3.o.q f;obtain⟨xs,hO,hP⟩:=hU4.G (K #[I J (s.a+1),I J c,V m,Z U 0 0,I J 0] 92);have H:wc.heap[g]? = M _:=(f.block g hlt).trans Av;have jm:=(aq _ wc).alloc (ak _) (K #[I J (s.a+1),I J c,V m,Z U 0 0,I J 0] 92);have c0a:(wc.alloc (K #[I J (s.a+1),I J c,V m,Z U 0 0,I J 0] 92)).cell? ⟨g,0,U⟩=M (Z N s.l.length iq):=(jm.cell (p:=⟨g,0,U⟩) (by show g<wc.heap.size;have:=f.size;omega)).trans (am wc g 0 _ _ _ H);have c0b:wc.cell? ⟨g,0,U⟩=M (Z N s.l.length iq):=am wc g 0 _ _ _ H;have z0:wc.cell? ⟨nb,0,U⟩=M (I J (s.a+1)):=am wc nb 0 _ _ _ q;have z1:wc.cell? ⟨nb,1,U⟩=M (I J c):=am wc nb 1 _ _ _ q;have z2:wc.cell? ⟨nb,2,U⟩=M (V m):=am wc nb 2 _ _ _ q;have z3:wc.cell? ⟨nb,3,U⟩=M (Z U 0 0):=am wc nb 3 _ _ _ q;have z4:wc.cell? ⟨nb,4,U⟩=M (I J 0):=am wc nb 4 _ _ _ q;have aeS:=f.size;have hbl:∀k,au N=M k->(S k∧k≠g)∧k<b.heap.size:=fun k e=>by
               obtain⟨us,_,h2,h3,_⟩:=HU3.o;cases N with
               | none=>cases e
               | some a=>injection e with e;subst e;exact⟨h3 a rfl,(h2.d a rfl).2⟩
              have aqD:nb<wc.heap.size:=(bH.1 q).1;have HK:∀x,(wc.alloc (K #[I J (s.a+1),I J c,V m,Z U 0 0,I J 0] 92)).drew.grownBy x (Value.slice N s.l.length iq).ownBlock->x.heap[g]? = M (K #[Z N s.l.length iq,I J (s.a+1)] 121 (0,0))∧x.heap[nb]? = M (K #[I J (s.a+1),I J c,V m,Z U 0 0,I J 0] 92 (0,0)):=fun x hG=>by
               rw[dI] at hG;refine⟨?_,?_⟩
               . rw[hG.block g (by show g<(wc.alloc _).heap.size;rw[ch];omega) (fun e=>(hbl g e.symm).1.2 rfl)];exact(jm.block g (by omega)).trans H
               . rw[hG.block nb (by show nb<(wc.alloc _).heap.size;rw[ch];omega) (fun e=>by have:=(hbl nb e.symm).2;omega)];exact(jm.block nb (by omega)).trans q
              have HO:=aG.r hO (bA _ _);have VZ:∀j u,(du ⟨s.a+1,c,m,[],0⟩ ⟨U,0⟩)[j]? = M u->(wc.alloc (K #[I J (s.a+1),I J c,V m,Z U 0 0,I J 0] 92)).drew.cell? (Addr.add ⟨wc.heap.size,0,U⟩ j)=M u:=fun j u hu=>by
               rw[ga,dV];show(wc.alloc _).cell? _=_;rw[World.cell?_alloc_at _ _ _ _ rfl,mS];exact hu
              obtain⟨i0,hi0,hz0,hz1,hz2⟩:=info_parts AU;have Hi:=hi0;have kT:=aa hz0;have kL:=aa hz1;have kU:=aa hz2
              have HN:s.l.length+1<=maxLen∧(s.l.length+1)*64<=140737488355328:=⟨by unfold maxLen;omega,by omega⟩;have hng:¬nb=g:=by omega
              have aqE:¬g=nb:=by omega
              clear hi0 hz0 hz1 hz2 hO   jm H hU4  q HMt ahi ahj;go_wp2;go_region_law
               ((refine step_append_lies _ (by rfl) _ _ _ (by rfl) 0 92 i0 (.agg #[I J 0,I J 0,V ⟨#[]⟩,Z U 0 0,I J 0]) 5 64 underlying40 Hi kT.o kL.o kU.o (by rfl) (by decide) (Z N s.l.length iq) s.l.length _ (by rfl) HO ⟨wc.heap.size,0,U⟩ 1 1 (du ⟨s.a+1,c,m,[],0⟩ ⟨U,0⟩) (by rfl) (by rfl) VZ (Hx _ _) (by decide) HN.1 HN.2 (ax _) (wc.heap.size+1) (by simp) ?_;intro g5 cap5 x C r vL akX;obtain⟨r5,r6⟩:=HK _ r;have q0:x.cell? ⟨g,0,U⟩=M (Z N s.l.length iq):=am x g 0 _ _ _ r5;have q1:x.frozen? ⟨g,0,U⟩=F:=aD x g 0 _ _ r5;have q2:x.cell? ⟨nb,0,U⟩=M (I J (s.a+1)):=am x nb 0 _ _ _ r6;have HR5:=aa r5;have HG5:=aa r;have AL:=aa C;have HA5:=aa vL;clear r C vL r5 r6 akX))
              all_goals
               go_wp2;go_ret2;have hG:=HG5.o;have hat:=HA5.o;rw[dI] at hG hat;obtain⟨r1,r2⟩:=hP (M ⟨g5,0,U⟩) cap5 x ⟨s.a+1,c,m,[],0⟩ ⟨U,0⟩ (fun _=>False) (bM.d _ _ _) (fun _ _ e=>e) AL.o (oF (wM _ _) hG) (by
                rcases hat with e | e
                . exact A e.symm
                . exact R (by rw[ch,e];rfl))
               have aqF:=kD.b;obtain⟨hL,hTL⟩:=gY.q (S:=aB S w) HR5.o (A Ll) (n:=s.l.length+1) (r1.a (fun k _ e=>by
                rcases e with e | e | e
                . exact⟨A e.1,e.2⟩
                . exact e.elim
                . exact⟨R (by omega),by omega⟩)) (by simp)
               refine⟨by rw[Q5.o];rfl,by rw[Q5.o];exact hL,?_⟩;exact((kD.a (al.d f) (fun _ e _=>e)).a (r2.e (fun k e=>e.1)) (fun _ e _=>e)).a (hTL.e (fun k e=>by subst e;exact Ll)) (fun _ e _=>e)
         . rw[aW h4] at G;have y:∀W,Below w.heap.size w W->pQ S 121 w g (fq s c m) (Y (.tuple #[I J 0,I J (3:Nat)])) W:=fun W D=>pQ.a h D (by unfold fq;rw[if_neg L,if_neg e2,if_pos (R h4)]);clear h ok hU hg c0 c1 hT hTd h4 hv;go_enter func210,ntmps210;go_wp2_with (first | (go_at_call 236;refine HV.mono ?_;rintro e z ⟨rfl,rfl⟩) | (go_at_call 237;refine zS.mono ?_;rintro e z ⟨rfl,B⟩;have HD:=aa (y z B);clear B))
           go_ret2;exact HD.o
theorem Q3 (s:aA)(S:Nat->Prop)(g a:Nat)(id:Int)(w:X)(h:cE w S g s)(ok:cO s)(f:w.cell? ⟨a,0,U⟩=M (I J id)):
 Calls prog 151 #[Q (M ⟨g,0,U⟩),Q (M ⟨a,0,U⟩)] w (bG S 121 w g (lj s id)):=by
 have c:=FE s S g id w h ok;generalize lj s id=r at *;go_enter func151,ntmps151;go_wp2_with fail;refine c.mono ?_;intro e i b;have d:=aa b;obtain⟨rfl,_,_⟩:=b;go_wp2;go_ret;exact d.o
theorem Q4 (s:aA)(S:Nat->Prop)(g a:Nat)(id:Int)(w:X)(h:cE w S g s)(ok:cO s)(f:w.cell? ⟨a,0,U⟩=M (I J id)):
 Calls prog 146 #[Q (M ⟨g,0,U⟩),Q (M ⟨a,0,U⟩)] w (bG S 121 w g (jP s id)):=by
 have c:=Dx s S g id w h ok;generalize jP s id=r at *;go_enter func146,ntmps146;go_wp2_with fail;refine c.mono ?_;intro e i b;have d:=aa b;obtain⟨rfl,_,_⟩:=b;go_wp2;go_ret;exact d.o
theorem Q6 (s:aA)(S:Nat->Prop)(g a:Nat)(id:Int)(w:X)(h:cE w S g s)(ok:cO s)(f:w.cell? ⟨a,0,U⟩=M (I J id)):
 Calls prog 227 #[Q (M ⟨g,0,U⟩),Q (M ⟨a,0,U⟩)] w (bG S 121 w g (lU s id)):=by
 have c:=Fa s S g id w h ok;generalize lU s id=r at *;go_enter func227,ntmps227;go_wp2_with fail;refine c.mono ?_;intro e i b;have d:=aa b;obtain⟨rfl,_,_⟩:=b;go_wp2;go_ret;exact d.o
theorem Q8 (s:aA)(S:Nat->Prop)(g b c:Nat)(id:Int)(a:Int)(w:X)(h:cE w S g s)(ok:cO s)(j:w.cell? ⟨b,0,U⟩=M (I J id))(k:w.cell? ⟨c,0,U⟩=M (I J a)):
 Calls prog 226 #[Q (M ⟨g,0,U⟩),Q (M ⟨b,0,U⟩),Q (M ⟨c,0,U⟩)] w (bG S 121 w g (li s id a)):=by
 have f:=CN s S g id a w h ok;generalize li s id a=r at *;go_enter func226,ntmps226;go_wp2_with fail;refine f.mono ?_;intro e l d;have i:=aa d;obtain⟨rfl,_,_⟩:=d;go_wp2;go_ret;exact i.o
theorem Q9 (s:aA)(S:Nat->Prop)(g d f i:Nat)(id:Int)(a:Int)(bo:ai)(b c:Nat)(l:ae)(w:X)(h:cE w S g s)(ok:cO s)(t:w.cell? ⟨d,0,U⟩=M (I J id))(u:w.cell? ⟨f,0,U⟩=M (I J a))(v:w.cell? ⟨i,0,U⟩=M (Z bo b c))(k:ay w bo c l)(m:l.length=b)(n:b<=1000000):
 Calls prog 225 #[Q (M ⟨g,0,U⟩),Q (M ⟨d,0,U⟩),Q (M ⟨f,0,U⟩),Q (M ⟨i,0,U⟩)] w (bG S 121 w g (iG s id a l)):=by
 have p:=Di s S g id a bo b c l w h ok k m n;generalize iG s id a l=r at *;go_enter func225,ntmps225;go_wp2_with fail;refine p.mono ?_;intro e x j;have q:=aa j;obtain⟨rfl,_,_⟩:=j;go_wp2;go_ret;exact q.o
theorem Ra (s:aA)(S:Nat->Prop)(g c d:Nat)(a:Int)(m:ag)(w:X)(h:cE w S g s)(ok:cO s)(p:w.cell? ⟨c,0,U⟩=M (I J a))(t:w.cell? ⟨d,0,U⟩=M (V m))(f:s.a<=1000000)(i:m.size<=1000000):
 Calls prog 219 #[Q (M ⟨g,0,U⟩),Q (M ⟨c,0,U⟩),Q (M ⟨d,0,U⟩)] w (bG S 121 w g (lY s a m)):=by
 have j:=Dj s S g a m w h ok f i;have k:lY s a m=((fq s a m).1,(fq s a m).2.2):=rfl;generalize fq s a m=q at *;obtain⟨u,v,l⟩:=q;generalize lY s a m=r at *;go_enter func219,ntmps219;go_wp2_with fail;refine j.mono ?_;intro e n b;have o:bG S 121 w g r (Y (I J (l:Int))) n:=by
  rw[k];exact⟨rfl,b.b,b.c⟩
 obtain⟨rfl,_,_⟩:=b;go_wp2;go_ret;exact o
abbrev UL (B:Nat)(w:X)(g:Nat)(s:aA):Prop:=cE w (fun k=>B<=k) g s
theorem bG.e {B:Nat}{w w':X}{g:Nat}{r:aA×Nat}{e:Ending}(h:bG (fun k=>B<=k) 121 w g r e w')(a:B<=w.heap.size):e=Y (I J (r.2:Int))∧UL B w' g r.1∧Below B w w':=by
 refine⟨h.d,h.b.d (fun k _ e=>?_),h.c.below (fun k e=>e) a⟩;rcases e with e | e
 . exact e
 . omega
theorem CE (i z t:Int)(m:ag)(bo:ai)(n gF:Nat)(bs:ae)(w:X)(hB:ay w bo gF bs)(hn:bs.length=n)(hN:n<=1000000)(hm:m.size<=1000000):
 Calls prog 68 #[.agg #[I J i,I J z,V m,Z bo n gF,I J t]] w fun e w'=>∃ao cap,e=Y (.agg #[I J i,I J z,V m,Z ao n cap,I J t])∧bM w' (fun k=>w.heap.size<=k) 5 ao cap bs∧Below w.heap.size w w':=by
 have q:∀W,Below w.heap.size w W->Calls prog 112 #[Z bo n gF] W fun e w'=>∃ao cap,e=Y (Z ao n cap)∧bM w' (fun k=>W.heap.size<=k) 5 ao cap bs∧Below W.heap.size W w':=fun W hW=>Jw bs bo gF n W (hB.a hW) hn (by omega);go_enter func68,ntmps68;go_upto_region 1 with fail
 have D:=kK.y w #[I J i,I J z,V m,Z bo n gF,I J t] #[I J 0,I J 0,V ⟨#[]⟩,Z U 0 0,I J 0] 92 92;have r:∀W,kK w (K #[I J i,I J z,V m,Z bo n gF,I J t] 92 (0,0)) (K #[I J 0,I J 0,V ⟨#[]⟩,Z U 0 0,I J 0] 92 (0,0)) W->W.cell? ⟨w.heap.size,2,U⟩=M (V m)∧W.cell? ⟨w.heap.size,3,U⟩=M (Z bo n gF)∧W.frozen? ⟨w.heap.size,2,U⟩=F∧W.frozen? ⟨w.heap.size,3,U⟩=F:=fun W h=>⟨h.d 2,h.d 3,h.j 2,h.j 3⟩;have c2:=r _ D;have j:w.heap.size+2<=((w.alloc (K #[I J i,I J z,V m,Z bo n gF,I J t] 92)).alloc (K #[I J 0,I J 0,V ⟨#[]⟩,Z U 0 0,I J 0] 92)).heap.size:=by simp
 generalize ((w.alloc (K #[I J i,I J z,V m,Z bo n gF,I J t] 92)).alloc (K #[I J 0,I J 0,V ⟨#[]⟩,Z U 0 0,I J 0] 92))=w1 at *;have s:=aa j;go_cut [3] (fun _ G=>∃ao cap,kK w (K #[I J i,I J z,V m,Z ao n cap,I J t] 92 (0,0)) (K #[I J 0,I J 0,V ⟨#[]⟩,Z U 0 0,I J 0] 92 (0,0)) G∧bM G (fun k=>w.heap.size+2<=k) 5 ao cap bs)
 case first =>
  go_region_with (first
   | (go_at_call 111;refine((fun W=>pr m W hm) _).mono ?_;rintro e w2 ⟨rfl,c⟩;have d:=D.q ((bA _ _).trans c);obtain⟨H,L,g2,g3⟩:=r _ d;have N:=aa d;have u:Hid (w1.heap.size<=w2.heap.size):=c.size;clear c d)
   | (go_at_call 112;refine(q _ N.o.below).mono ?_;rintro e x ⟨ao,cap,rfl,p,l⟩;have f:=N.o.q l;obtain⟨S,T,k2,k3⟩:=r _ f;have y:=aa f;have HO:=aa p;clear l f p))
  all_goals
   go_wp2;go_meet;have B:=y.o.B 2 (V m) rfl;obtain⟨C,D9⟩:=B.r 3 (Z ao n cap);have GV:al (fun k=>w.heap.size<=k∧k<w.heap.size+2) x (x.setCell ⟨w.heap.size,2,U⟩ (V m)):=al.f _ x _ _ ⟨ak _,by show w.heap.size<_;omega⟩;have j:=s.o;have hs2:=u.o;refine⟨ao,cap,C,((HO.o.y (S':=fun k=>w.heap.size+2<=k) (fun k e _ _=>by omega)).a GV (fun k e h=>by omega)).a D9 (fun k e h=>by omega)⟩
 case rest =>
  obtain⟨ao,cap,a,p⟩:=hcut;have d0:=a.d 0;have d1:=a.d 1;have H:=a.d 2;have L:=a.d 3;have d4:=a.d 4
  have g0:=a.f 0;have g1:=a.f 1;have g2:=a.f 2;have g3:=a.f 3;have g4:=a.f 4
  have e0:=a.a 0;have e1:=a.a 1;have S:=a.a 2;have T:=a.a 3;have e4:=a.a 4
  simp at d0 d1 H L d4 e0 e1 S T e4;go_wp2;obtain⟨a1,t1⟩:=a.e 0 (I J i);obtain⟨a2,t2⟩:=a1.e 1 (I J z);obtain⟨a3,t3⟩:=a2.e 2 (V m);obtain⟨a4,t4⟩:=a3.e 3 (Z ao n cap);obtain⟨g,t5⟩:=a4.e 4 (I J t);have b:∀k,w.heap.size+2<=k->¬(w.heap.size<=k∧k<w.heap.size+2):=fun k e h=>by omega
  have vZ:=((((p.a t1 b).a t2 b).a t3 b).a t4 b).a t5 b;generalize (((((wc.setCell ⟨w.heap.size+1,0,U⟩ (Value.int J i)).setCell ⟨w.heap.size+1,1,U⟩ (Value.int J z)).setCell ⟨w.heap.size+1,2,U⟩ (Value.string m)).setCell ⟨w.heap.size+1,3,U⟩ (Value.slice ao n cap)).setCell ⟨w.heap.size+1,4,U⟩ (Value.int J t))=w6 at g vZ ⊢;have r0:=g.a 0;have r1:=g.a 1;have r2:=g.a 2;have r3:=g.a 3;have r4:=g.a 4;refine aR (v:=.agg #[I J i,I J z,V m,Z ao n cap,I J t]) (by simp[results,results68,go_sem,r0,r1,r2,r3,r4]) rfl ⟨ao,cap,rfl,vZ.e (fun k _ e=>by omega),g.below⟩
def xQ (l:List aL):Prop:=l.length<=1000∧∀u∈l,u.d.size<=1000000∧u.a.length<=1000000
theorem cO.jK {s:aA}(ok:cO s):xQ s.l:=⟨by have:=ok.b;omega,fun u a=>⟨by have:=(ok.a u a).b;omega,by have:=(ok.a u a).a;omega⟩⟩
theorem Mh (l:List aL)(ao:ai)(cap n:Nat)(w:X)(hl:qP w ao cap l)(hcap:n<=cap)(hn:l.length=n)(m:xQ l):
 Calls prog 49 #[Z ao n cap] w fun e w'=>∃gQ,e=Y (Z gQ n n)∧dY w' (fun k=>w.heap.size<=k) 92 5 gQ n l∧Below w.heap.size w w':=by
 subst hn;have hN:=m.1;obtain⟨i0,y,z,B,C⟩:=info_parts AU;obtain⟨w1,hmk,uw,c⟩:=run_make_full (P:=prog) w 0 40 92 i0 (.agg #[I J 0,I J 0,V ⟨#[]⟩,Z U 0 0,I J 0]) 5 underlying40 y z B J J l.length (by rw[C];omega) (by unfold maxLen;omega) (ax _);rw[show(Value.agg #[I J 0,I J 0,V ⟨#[]⟩,Z U 0 0,I J 0]).cells=#[I J 0,I J 0,V ⟨#[]⟩,Z U 0 0,I J 0] from rfl,Rb] at uw;have D:Below w.heap.size w w1:=⟨c.os,c.tape,c.output,c.size,fun k hk=>c.block k hk (by simp)⟩;have G:dY w1 (fun k=>w.heap.size<=k) 92 5 (M ⟨w.heap.size,0,U⟩) l.length (List.replicate l.length ll):=dY.jK uw (ak _);have HZ:=aa m;go_enter func49,ntmps49;go_wp2;go_loopw [11] (fun t wr=>∃k:Nat,k<=l.length∧t=I J k∧Below w.heap.size w wr∧dY wr (fun k=>w.heap.size<=k) 92 5 (M ⟨w.heap.size,0,U⟩) l.length (l.take k++List.replicate (l.length-k) ll)) (fun t _=>l.length-(intOf t).toNat)
 case atStart=>exact⟨0,ax _,rfl,D,G⟩
 case round =>
  obtain⟨k,hk,rfl,x,hU⟩:=hrel;by_cases f:k<l.length
  . obtain⟨bb,oo,q,rfl,hc0,hc1,hc2,hc3,hc4,H⟩:=(hl.a x).d k f;have hlt':(k:Int)<l.length:=by omega
    have m:=HZ.o.2 l[k] (dG f);have HT:(l.take k++List.replicate (l.length-k) ll).set k l[k]=l.take (k+1)++List.replicate (l.length-(k+1)) ll:=R9 l k f;have hL:k<(l.take k++List.replicate (l.length-k) ll).length:=by rw[aF,bP,List.length_replicate];omega
    have jm:=(aq _ wr).alloc (ak _) (K #[I J l[k].b,I J l[k].c,V l[k].d,Z q.a l[k].a.length q.b,I J l[k].e] 92);have HC:=CE l[k].b l[k].c l[k].e l[k].d q.a l[k].a.length q.b l[k].a (wr.alloc (K #[I J l[k].b,I J l[k].c,V l[k].d,Z q.a l[k].a.length q.b,I J l[k].e] 92)) (H.a jm) rfl m.2 m.1;have L:=x.size;have HX:Hid (∀d gQ a,bM d (fun j=>(wr.alloc (K #[I J l[k].b,I J l[k].c,V l[k].d,Z q.a l[k].a.length q.b,I J l[k].e] 92)).heap.size<=j) 5 gQ a l[k].a->Below (wr.alloc (K #[I J l[k].b,I J l[k].c,V l[k].d,Z q.a l[k].a.length q.b,I J l[k].e] 92)).heap.size (wr.alloc (K #[I J l[k].b,I J l[k].c,V l[k].d,Z q.a l[k].a.length q.b,I J l[k].e] 92)) d ->
     (∀j,j<5->(∃v,d.cell? ⟨w.heap.size,k*5+j,U⟩=M v)∧d.frozen? ⟨w.heap.size,k*5+j,U⟩=F) ∧
     Below w.heap.size w (((((d.setCell ⟨w.heap.size,k*5,U⟩ (I J l[k].b)).setCell ⟨w.heap.size,k*5+1,U⟩ (I J l[k].c)).setCell ⟨w.heap.size,k*5+2,U⟩ (V l[k].d)).setCell ⟨w.heap.size,k*5+3,U⟩ (Z gQ l[k].a.length a)).setCell ⟨w.heap.size,k*5+4,U⟩ (I J l[k].e)) ∧
     dY (((((d.setCell ⟨w.heap.size,k*5,U⟩ (I J l[k].b)).setCell ⟨w.heap.size,k*5+1,U⟩ (I J l[k].c)).setCell ⟨w.heap.size,k*5+2,U⟩ (V l[k].d)).setCell ⟨w.heap.size,k*5+3,U⟩ (Z gQ l[k].a.length a)).setCell ⟨w.heap.size,k*5+4,U⟩ (I J l[k].e)) (fun k=>w.heap.size<=k) 92 5 (M ⟨w.heap.size,0,U⟩) l.length (l.take (k+1)++List.replicate (l.length-(k+1)) ll)):=fun d gQ a N g=>by
     have i:=ar jm g;have r:=(hU.a (S':=fun j=>w.heap.size<=j∧j<wr.heap.size) (fun j hj e=>⟨e,hj⟩)).q i;obtain⟨g2,s,_,_,b⟩:=r.d.a k hL;injection s with s;injection s with s;subst s;obtain⟨S,xI⟩:=r.y (u:=l[k]) hL N (fun j e h=>by rw[ch] at e;omega) rfl;refine⟨b,(x.trans (i.mono L)).trans (xI.below (fun j e=>by subst e;exact ak _) (by have:=i.size;omega)),?_⟩;rw[<-HT];refine S.a (fun j _ e=>?_);rcases e with e | e
     . exact e.1
     . rw[ch] at e;omega
    generalize l[k]=p at *;go_wp2_with fail;refine HC.mono ?_;rintro e d ⟨gQ,a,rfl,N,g⟩;obtain⟨b,T,W⟩:=HX.o d gQ a N g;obtain⟨⟨v0,d0⟩,f0⟩:=b 0 (by decide);obtain⟨⟨v1,d1⟩,f1⟩:=b 1 (by decide);obtain⟨⟨v2,d2⟩,f2⟩:=b 2 (by decide);obtain⟨⟨v3,d3⟩,f3⟩:=b 3 (by decide);obtain⟨⟨v4,d4⟩,f4⟩:=b 4 (by decide);rw[lC] at d0 f0;have XM:=T;have ZI:=aa W
    go_wp2;go_roundw
    case rel=>exact⟨k+1,by omega,by go_num,XM,ZI.o⟩
    case measure=>simp[intOf];omega
  . obtain rfl:k=l.length:=by omega
    go_wp2;go_ret;refine⟨M ⟨w.heap.size,0,U⟩,rfl,?_,x⟩;have:=hU;rw[fD,Nat.sub_self,List.replicate_zero,eN] at this;exact this
theorem uj (s:aA)(S:Nat->Prop)(g:Nat)(w:X)(h:cE w S g s)(x:xQ s.l):
 Calls prog 198 #[Q (M ⟨g,0,U⟩)] w fun e w'=>∃q,e=Y (Q (M ⟨q,0,U⟩))∧cE w' (fun k=>w.heap.size<=k) q s∧Below w.heap.size w w':=by
 have j:=h.f;obtain⟨m,i,y,z,N,T,W,hS,r⟩:=h.e;have B:=Mh s.l m i s.l.length w.drew (r.f.a (bA _ _)) r.e rfl x;have C:∀a f,dY a (fun k=>w.drew.heap.size<=k) 92 5 f s.l.length s.l->Below w.drew.heap.size w.drew a->a.cell? ⟨g,0,U⟩=M (Z m s.l.length i)∧a.cell? ⟨g,1,U⟩=M (I J s.a)∧cE (a.alloc (K #[Z f s.l.length s.l.length,I J s.a] 121)) (fun k=>w.heap.size<=k) a.heap.size s∧Below w.heap.size w (a.alloc (K #[Z f s.l.length s.l.length,I J s.a] 121)):=fun a f b c=>by
  have d:=(bA _ _).trans c;have t:=(aq _ a).alloc (ak _) (K #[Z f s.l.length s.l.length,I J s.a] 121);exact⟨(d.cell (p:=⟨g,0,U⟩) j).trans y,(d.cell (p:=⟨g,1,U⟩) j).trans z,⟨f,s.l.length,bw a _,d.size,((b.a (S':=fun k=>w.heap.size<=k∧k<a.heap.size) (fun k D e=>⟨e,D⟩)).q t).a (fun k _ e=>⟨e.1,by omega⟩)⟩,ar d t⟩
 generalize s.l.length=n at *;generalize hl:s.a=G at *;go_enter func198,ntmps198;go_wp2_with fail;go_region_held3 (fun w'=>w'.cell? ⟨g,0,U⟩=M (Z m n i)∧w'.cell? ⟨g,1,U⟩=M (I J G)) (go_keep) (first | (go_at_call 49;refine B.mono ?_;rintro e a ⟨f,rfl,b,c⟩;obtain⟨d0,d1,u,v⟩:=C a f b c;have H:=aa u;have L:=aa v;clear u v b c))
 all_goals
  go_wp2;go_ret;exact⟨_,rfl,H.o,L.o⟩
theorem zv (s:aA)(S:Nat->Prop)(g:Nat)(id:Int)(w:X)(h:cE w S g s)(ok:cO s)(q:cq s.l id=U):
 Calls prog 29 #[Q (M ⟨g,0,U⟩),I J id] w fun e w'=>e=Y (.tuple #[.agg #[I J 0,I J 0,V ⟨#[]⟩,Z U 0 0,I J 0],.bool F])∧Below w.heap.size w w':=by
 have k:=(aq _ w).alloc (ak _) (K #[I J 0,I J 0,V ⟨#[]⟩,Z U 0 0,I J 0] 92);have m:=qA s S g id _ (h.a k) (by have:=ok.b;omega);rw[rl q] at m;go_enter func29,ntmps29;go_wp2_with fail;refine m.mono ?_;rintro e a ⟨rfl,n⟩;have i:=ar k n;have b:=(n.block w.heap.size (by simp)).trans (bw w _);have r:=am a _ 0 _ _ _ b;have t:=am a _ 1 _ _ _ b;have u:=am a _ 2 _ _ _ b;have z3:=am a _ 3 _ _ _ b;have x:=am a _ 4 _ _ _ b
 have H:=aD a _ 0 _ _ b;have L:=aD a _ 1 _ _ b;have N:=aD a _ 2 _ _ b;have T:=aD a _ 3 _ _ b;have W:=aD a _ 4 _ _ b
 simp at r t u z3 x;have j:=i;have y:=aa b
 go_wp2;have d:=((((j.setCell (p:=⟨w.heap.size,0,U⟩) (ak _) (I J 0)).setCell (p:=⟨w.heap.size,1,U⟩) (ak _) (I J 0)).setCell (p:=⟨w.heap.size,2,U⟩) (ak _) (V ⟨#[]⟩)).setCell (p:=⟨w.heap.size,3,U⟩) (ak _) (Z U 0 0)).setCell (p:=⟨w.heap.size,4,U⟩) (ak _) (I J 0);have c:=aQ _ _ 4 _ _ (I J 0) (aQ _ _ 3 _ _ (Z U 0 0) (aQ _ _ 2 _ _ (V ⟨#[]⟩) (aQ _ _ 1 _ _ (I J 0) (aQ _ _ 0 _ _ (I J 0) y.o))));generalize (((((a.setCell ⟨w.heap.size,0,U⟩ (Value.int J 0)).setCell ⟨w.heap.size,1,U⟩ (Value.int J 0)).setCell ⟨w.heap.size,2,U⟩ (Value.string ⟨#[]⟩)).setCell ⟨w.heap.size,3,U⟩ (Value.slice U 0 0)).setCell ⟨w.heap.size,4,U⟩ (Value.int J 0))=f at d c ⊢;have z:=am f _ 0 _ _ _ c;have B:=am f _ 1 _ _ _ c;have C:=am f _ 2 _ _ _ c;have D:=am f _ 3 _ _ _ c;have G:=am f _ 4 _ _ _ c;refine aR (v:=.tuple #[.agg #[I J 0,I J 0,V ⟨#[]⟩,Z U 0 0,I J 0],.bool F]) (by simp[results,results29,go_sem,z,B,C,D,G]) rfl ⟨rfl,d⟩
theorem zw (s:aA)(S:Nat->Prop)(g:Nat)(id:Int)(i:Nat)(w:X)(h:cE w S g s)(ok:cO s)(hp:cq s.l id=M i)(y:i<s.l.length):
 Calls prog 29 #[Q (M ⟨g,0,U⟩),I J id] w fun e w'=>∃ao cap,e=Y (.tuple #[.agg #[I J s.l[i].b,I J s.l[i].c,V s.l[i].d,Z ao s.l[i].a.length cap,I J s.l[i].e],.bool true])∧ay w' ao cap s.l[i].a∧Below w.heap.size w w':=by
 have H:=(aq _ w).alloc (ak _) (K #[I J 0,I J 0,V ⟨#[]⟩,Z U 0 0,I J 0] 92);have L:=qA s S g id _ (h.a H) (by have:=ok.b;omega);rw[qe hp] at L;have N:=aa h;have T:=ok.a _ (dG y);have k1:=T.a;have k2:=T.b;have nN:=ok.b
 have hi':(i:Int)<s.l.length:=by omega
 obtain⟨u,W⟩:∃u,s.l[i]=u:=⟨_,rfl⟩;rw[W] at k1 k2 ⊢;go_enter func29,ntmps29;go_wp2_with fail;refine L.mono ?_;rintro e w1 ⟨rfl,hb⟩;have d:=ar H hb;obtain⟨gu,m⟩:=lG.d (N.o.a d) y;obtain⟨q,h0,h1,h2,h3,h4,hf,n⟩:=lG.a (N.o.a d) m y;rw[W] at h0 h1 h2 h3 h4 n;obtain⟨cap,hcap,hc⟩:=m;have b:=(hb.block w.heap.size (by simp)).trans (bw w _);have z:=(bH.1 b).1;have B:=d;have HR:=aa b
 go_wp2_with fail;refine(CE u.b u.c u.e u.d q.a u.a.length q.b u.a w1 n rfl (by omega) (by omega)).mono ?_;rintro e c ⟨f,a,rfl,hO,r⟩;have C:=ar B r;have b:=(r.block w.heap.size z).trans HR.o;have z0:=am c _ 0 _ _ _ b;have z1:=am c _ 1 _ _ _ b;have z2:=am c _ 2 _ _ _ b;have z3:=am c _ 3 _ _ _ b;have z4:=am c _ 4 _ _ _ b
 have y0:=aD c _ 0 _ _ b;have y1:=aD c _ 1 _ _ b;have y2:=aD c _ 2 _ _ b;have y3:=aD c _ 3 _ _ b;have y4:=aD c _ 4 _ _ b
 simp at z0 z1 z2 z3 z4;have kF:=C;have D:=aa b;have HO:=aa hO
 go_wp2;have t:=((((kF.setCell (p:=⟨w.heap.size,0,U⟩) (ak _) (I J u.b)).setCell (p:=⟨w.heap.size,1,U⟩) (ak _) (I J u.c)).setCell (p:=⟨w.heap.size,2,U⟩) (ak _) (V u.d)).setCell (p:=⟨w.heap.size,3,U⟩) (ak _) (Z f u.a.length a)).setCell (p:=⟨w.heap.size,4,U⟩) (ak _) (I J u.e);have j:=aQ _ _ 4 _ _ (I J u.e) (aQ _ _ 3 _ _ (Z f u.a.length a) (aQ _ _ 2 _ _ (V u.d) (aQ _ _ 1 _ _ (I J u.c) (aQ _ _ 0 _ _ (I J u.b) D.o))));have G:=(HO.o.a (tS w.heap.size [I J u.b,I J u.c,V u.d,Z f u.a.length a,I J u.e] 0 c) (fun k e h=>by subst h;omega)).f;change ay (((((c.setCell ⟨w.heap.size,0,U⟩ (Value.int J u.b)).setCell ⟨w.heap.size,1,U⟩ (Value.int J u.c)).setCell ⟨w.heap.size,2,U⟩ (Value.string u.d)).setCell ⟨w.heap.size,3,U⟩ (Value.slice f u.a.length a)).setCell ⟨w.heap.size,4,U⟩ (Value.int J u.e)) _ _ _ at G;generalize (((((c.setCell ⟨w.heap.size,0,U⟩ (Value.int J u.b)).setCell ⟨w.heap.size,1,U⟩ (Value.int J u.c)).setCell ⟨w.heap.size,2,U⟩ (Value.string u.d)).setCell ⟨w.heap.size,3,U⟩ (Value.slice f u.a.length a)).setCell ⟨w.heap.size,4,U⟩ (Value.int J u.e))=x at t j G ⊢;have r0:=am x _ 0 _ _ _ j;have r1:=am x _ 1 _ _ _ j;have r2:=am x _ 2 _ _ _ j;have r3:=am x _ 3 _ _ _ j;have r4:=am x _ 4 _ _ _ j;refine aR (v:=.tuple #[.agg #[I J u.b,I J u.c,V u.d,Z f u.a.length a,I J u.e],.bool true]) (by simp[results,results29,go_sem,r0,r1,r2,r3,r4]) rfl ⟨f,a,rfl,G,t⟩
theorem uk {x:aK}(h:dg x=F):nV x=([],1):=by unfold nV;rw[if_neg (by simp[h])]
theorem uf {x:aK}(h:dg x=true):nV x=(bi x,0):=by unfold nV;rw[if_pos h]
theorem up {s:aA}(ok:cO s):xQ s.l:=cO.jK ok
theorem Ve (s:av)(S:Nat->Prop)(g b1:Nat)(x:aK)(D:ai)(G H:Nat)(r:aA×Nat)(w:X)(h:aY w S g s)(ok:aN s)(hT:ay w D H x.c)(hn:x.c.length=G)
 (hF:∀W m,Below w.heap.size w W->w.heap.size+1<=W.heap.size->cE W (fun k=>w.heap.size+1<=k) m s.h->Calls prog 151 #[Q (M ⟨m,0,U⟩),Q (M ⟨b1,0,U⟩)] W (bG (fun k=>w.heap.size+1<=k) 121 W m r)) :
 Calls prog 145 #[Q (M ⟨g,0,U⟩),.agg #[I J x.b,I J x.a,I J x.n,Z D G H],.func (.func 151) #[] #[Q (M ⟨b1,0,U⟩)]] w (dt S w g (bK s r x)):=by
 obtain⟨L,gl,ao,ca,P,hI⟩:=h;have jm:=(aq _ w).alloc (ak _) (K #[I J x.b,I J x.a,I J x.n,Z D G H] 223);have p:=hI.d jm;obtain⟨⟨c0,c1⟩,_⟩:=cX p.a;have l:=aa hI;have Hf:=aa jm;have HF:=aa hF;have HT:=aa hT
 have hlt:=hI.f;go_enter func145,ntmps145;go_wp2_with fail;refine(uj s.h P L _ p.e (up ok.h)).mono ?_;rintro e w2 ⟨m,rfl,hS2,d⟩;have q:=ar Hf.o d;have HB2:=q;have t:=aa d
 go_wp2_with fail;refine(HF.o w2 m q (by have:=d.size;simpa using this) (hS2.d (fun k _ e=>by simpa using e))).mono ?_;intro e w3 hd;have u:=t.o.size;have hs3:w.heap.size+1<=w2.heap.size:=by simpa using u
 obtain⟨he,Ll,v⟩:=hd.e hs3;have hbx:=(t.o.mono (by simp)).trans v;have hB3:=HB2.trans (v.mono (Nat.le_succ _));have x0:=rX (Nat.lt_succ_self _) hbx;have b:=hB3;have Au:=aa Ll
 subst he;by_cases z:r.2=0
 . have f:=aa (ue x D G H w3 (HT.o.a b) hn);rw[z];cases i:dg x with
   | false =>
     have j:∀W,Below w.heap.size w W->dt S w g (bK s r x) (Y (I J (1:Nat))) W:=fun W hb=>dt.a ⟨L,gl,ao,ca,P,l.o⟩ hb (rv z i);unfold mr at f;rw[uk i] at f;go_wp2_with fail;refine f.o.mono ?_;rintro e w4 ⟨N,T,rfl,_,a⟩;have B:=ar b a;go_wp2;go_ret;exact j _ B
   | true =>
     unfold mr at f;rw[uf i] at f;have hlx:(bi x).length<=1048600:=by have:=sM i;have:=oh i;omega
     by_cases hl:100000<s.a.length+(bi x).length
     . have j:Hid (∀W,Below w.heap.size w W->dt S w g (bK s r x) (Y (I J (16:Nat))) W):=fun W hb=>dt.a ⟨L,gl,ao,ca,P,l.o⟩ hb (ru z i hl);have HL:=show ¬s.a.length+(bi x).length<=100000 by omega
       generalize bi x=y at *;go_wp2_with fail;refine f.o.mono ?_;rintro e w4 ⟨N,T,rfl,_,a⟩;have c:=ar b a;have C:=l.o.d c;obtain⟨⟨c0,c1⟩,_⟩:=cX C.a;have B:=aa c;go_wp2_with fail;refine(tY C.b N T y.length HL).mono ?_;rintro e w5 ⟨rfl,Ee⟩;rw[Ee];clear Ee;go_wp2;go_ret;exact j _ B
     . have j:∀W,aY W (aB S w) g ⟨r.1,s.a++bi x,s.b⟩->al S w W->dt S w g (bK s r x) (Y (I J 0)) W:=fun W h1 h2=>by
        rw[rx z i hl];exact⟨rfl,h1,h2⟩
       have HL:=show s.a.length+(bi x).length<=100000 by omega
       generalize bi x=y at *;go_wp2_with fail;refine f.o.mono ?_;rintro e w4 ⟨N,T,rfl,hO4,a⟩;have c:=ar b a;have C:=l.o.d c;obtain⟨⟨c0,c1⟩,_⟩:=cX C.a;have ZJ:=aa (((Au.o.a a).d (S':=fun k=>w.heap.size<=k) (fun k _ e=>Nat.le_of_succ_le e)));have B:=aa c;go_wp2_with fail;refine(tX C.b N T y.length y hO4.a rfl HL).mono ?_;rintro e w5 ⟨AZ,ca5,rfl,hL5,D9,vL⟩;obtain⟨qd,hA,Wh⟩:=l.o.j B ZJ.o hL5 D9 vL;have y0:=cX qd;have HA:=hA;have ZK:=aa Wh
       go_wp2;go_ret;exact j _ HA ZK.o
 . have j:dt S w g (bK s r x) (Y (I J (r.2:Int))) w3:=dt.a ⟨L,gl,ao,ca,P,l.o⟩ b (rt z);have hc':¬(r.2:Int)=0:=by omega
   generalize (r.2:Int)=rc at *;go_wp2;go_ret;exact j
theorem SN (s:av)(S:Nat->Prop)(g b1:Nat)(x:aK)(D:ai)(G H:Nat)(r:aA×Nat)(w:X)(h:aY w S g s)(ok:aN s)(hT:ay w D H x.c)(hn:x.c.length=G)
 (hF:∀W m,Below w.heap.size w W->w.heap.size+1<=W.heap.size->cE W (fun k=>w.heap.size+1<=k) m s.h->Calls prog 146 #[Q (M ⟨m,0,U⟩),Q (M ⟨b1,0,U⟩)] W (bG (fun k=>w.heap.size+1<=k) 121 W m r)) :
 Calls prog 145 #[Q (M ⟨g,0,U⟩),.agg #[I J x.b,I J x.a,I J x.n,Z D G H],.func (.func 146) #[] #[Q (M ⟨b1,0,U⟩)]] w (dt S w g (bK s r x)):=by
 obtain⟨L,gl,ao,ca,P,hI⟩:=h;have jm:=(aq _ w).alloc (ak _) (K #[I J x.b,I J x.a,I J x.n,Z D G H] 223);have p:=hI.d jm;obtain⟨⟨c0,c1⟩,_⟩:=cX p.a;have l:=aa hI;have Hf:=aa jm;have HF:=aa hF;have HT:=aa hT
 have hlt:=hI.f;go_enter func145,ntmps145;go_wp2_with fail;refine(uj s.h P L _ p.e (up ok.h)).mono ?_;rintro e w2 ⟨m,rfl,hS2,d⟩;have q:=ar Hf.o d;have HB2:=q;have t:=aa d
 go_wp2_with fail;refine(HF.o w2 m q (by have:=d.size;simpa using this) (hS2.d (fun k _ e=>by simpa using e))).mono ?_;intro e w3 hd;have u:=t.o.size;have hs3:w.heap.size+1<=w2.heap.size:=by simpa using u
 obtain⟨he,Ll,v⟩:=hd.e hs3;have hbx:=(t.o.mono (by simp)).trans v;have hB3:=HB2.trans (v.mono (Nat.le_succ _));have x0:=rX (Nat.lt_succ_self _) hbx;have b:=hB3;have Au:=aa Ll
 subst he;by_cases z:r.2=0
 . have f:=aa (ue x D G H w3 (HT.o.a b) hn);rw[z];cases i:dg x with
   | false =>
     have j:∀W,Below w.heap.size w W->dt S w g (bK s r x) (Y (I J (1:Nat))) W:=fun W hb=>dt.a ⟨L,gl,ao,ca,P,l.o⟩ hb (rv z i);unfold mr at f;rw[uk i] at f;go_wp2_with fail;refine f.o.mono ?_;rintro e w4 ⟨N,T,rfl,_,a⟩;have B:=ar b a;go_wp2;go_ret;exact j _ B
   | true =>
     unfold mr at f;rw[uf i] at f;have hlx:(bi x).length<=1048600:=by have:=sM i;have:=oh i;omega
     by_cases hl:100000<s.a.length+(bi x).length
     . have j:Hid (∀W,Below w.heap.size w W->dt S w g (bK s r x) (Y (I J (16:Nat))) W):=fun W hb=>dt.a ⟨L,gl,ao,ca,P,l.o⟩ hb (ru z i hl);have HL:=show ¬s.a.length+(bi x).length<=100000 by omega
       generalize bi x=y at *;go_wp2_with fail;refine f.o.mono ?_;rintro e w4 ⟨N,T,rfl,_,a⟩;have c:=ar b a;have C:=l.o.d c;obtain⟨⟨c0,c1⟩,_⟩:=cX C.a;have B:=aa c;go_wp2_with fail;refine(tY C.b N T y.length HL).mono ?_;rintro e w5 ⟨rfl,Ee⟩;rw[Ee];clear Ee;go_wp2;go_ret;exact j _ B
     . have j:∀W,aY W (aB S w) g ⟨r.1,s.a++bi x,s.b⟩->al S w W->dt S w g (bK s r x) (Y (I J 0)) W:=fun W h1 h2=>by
        rw[rx z i hl];exact⟨rfl,h1,h2⟩
       have HL:=show s.a.length+(bi x).length<=100000 by omega
       generalize bi x=y at *;go_wp2_with fail;refine f.o.mono ?_;rintro e w4 ⟨N,T,rfl,hO4,a⟩;have c:=ar b a;have C:=l.o.d c;obtain⟨⟨c0,c1⟩,_⟩:=cX C.a;have ZJ:=aa (((Au.o.a a).d (S':=fun k=>w.heap.size<=k) (fun k _ e=>Nat.le_of_succ_le e)));have B:=aa c;go_wp2_with fail;refine(tX C.b N T y.length y hO4.a rfl HL).mono ?_;rintro e w5 ⟨AZ,ca5,rfl,hL5,D9,vL⟩;obtain⟨qd,hA,Wh⟩:=l.o.j B ZJ.o hL5 D9 vL;have y0:=cX qd;have HA:=hA;have ZK:=aa Wh
       go_wp2;go_ret;exact j _ HA ZK.o
 . have j:dt S w g (bK s r x) (Y (I J (r.2:Int))) w3:=dt.a ⟨L,gl,ao,ca,P,l.o⟩ b (rt z);have hc':¬(r.2:Int)=0:=by omega
   generalize (r.2:Int)=rc at *;go_wp2;go_ret;exact j
theorem SO (s:av)(S:Nat->Prop)(g b1:Nat)(x:aK)(D:ai)(G H:Nat)(r:aA×Nat)(w:X)(h:aY w S g s)(ok:aN s)(hT:ay w D H x.c)(hn:x.c.length=G)
 (hF:∀W m,Below w.heap.size w W->w.heap.size+1<=W.heap.size->cE W (fun k=>w.heap.size+1<=k) m s.h->Calls prog 227 #[Q (M ⟨m,0,U⟩),Q (M ⟨b1,0,U⟩)] W (bG (fun k=>w.heap.size+1<=k) 121 W m r)) :
 Calls prog 145 #[Q (M ⟨g,0,U⟩),.agg #[I J x.b,I J x.a,I J x.n,Z D G H],.func (.func 227) #[] #[Q (M ⟨b1,0,U⟩)]] w (dt S w g (bK s r x)):=by
 obtain⟨L,gl,ao,ca,P,hI⟩:=h;have jm:=(aq _ w).alloc (ak _) (K #[I J x.b,I J x.a,I J x.n,Z D G H] 223);have p:=hI.d jm;obtain⟨⟨c0,c1⟩,_⟩:=cX p.a;have l:=aa hI;have Hf:=aa jm;have HF:=aa hF;have HT:=aa hT
 have hlt:=hI.f;go_enter func145,ntmps145;go_wp2_with fail;refine(uj s.h P L _ p.e (up ok.h)).mono ?_;rintro e w2 ⟨m,rfl,hS2,d⟩;have q:=ar Hf.o d;have HB2:=q;have t:=aa d
 go_wp2_with fail;refine(HF.o w2 m q (by have:=d.size;simpa using this) (hS2.d (fun k _ e=>by simpa using e))).mono ?_;intro e w3 hd;have u:=t.o.size;have hs3:w.heap.size+1<=w2.heap.size:=by simpa using u
 obtain⟨he,Ll,v⟩:=hd.e hs3;have hbx:=(t.o.mono (by simp)).trans v;have hB3:=HB2.trans (v.mono (Nat.le_succ _));have x0:=rX (Nat.lt_succ_self _) hbx;have b:=hB3;have Au:=aa Ll
 subst he;by_cases z:r.2=0
 . have f:=aa (ue x D G H w3 (HT.o.a b) hn);rw[z];cases i:dg x with
   | false =>
     have j:∀W,Below w.heap.size w W->dt S w g (bK s r x) (Y (I J (1:Nat))) W:=fun W hb=>dt.a ⟨L,gl,ao,ca,P,l.o⟩ hb (rv z i);unfold mr at f;rw[uk i] at f;go_wp2_with fail;refine f.o.mono ?_;rintro e w4 ⟨N,T,rfl,_,a⟩;have B:=ar b a;go_wp2;go_ret;exact j _ B
   | true =>
     unfold mr at f;rw[uf i] at f;have hlx:(bi x).length<=1048600:=by have:=sM i;have:=oh i;omega
     by_cases hl:100000<s.a.length+(bi x).length
     . have j:Hid (∀W,Below w.heap.size w W->dt S w g (bK s r x) (Y (I J (16:Nat))) W):=fun W hb=>dt.a ⟨L,gl,ao,ca,P,l.o⟩ hb (ru z i hl);have HL:=show ¬s.a.length+(bi x).length<=100000 by omega
       generalize bi x=y at *;go_wp2_with fail;refine f.o.mono ?_;rintro e w4 ⟨N,T,rfl,_,a⟩;have c:=ar b a;have C:=l.o.d c;obtain⟨⟨c0,c1⟩,_⟩:=cX C.a;have B:=aa c;go_wp2_with fail;refine(tY C.b N T y.length HL).mono ?_;rintro e w5 ⟨rfl,Ee⟩;rw[Ee];clear Ee;go_wp2;go_ret;exact j _ B
     . have j:∀W,aY W (aB S w) g ⟨r.1,s.a++bi x,s.b⟩->al S w W->dt S w g (bK s r x) (Y (I J 0)) W:=fun W h1 h2=>by
        rw[rx z i hl];exact⟨rfl,h1,h2⟩
       have HL:=show s.a.length+(bi x).length<=100000 by omega
       generalize bi x=y at *;go_wp2_with fail;refine f.o.mono ?_;rintro e w4 ⟨N,T,rfl,hO4,a⟩;have c:=ar b a;have C:=l.o.d c;obtain⟨⟨c0,c1⟩,_⟩:=cX C.a;have ZJ:=aa (((Au.o.a a).d (S':=fun k=>w.heap.size<=k) (fun k _ e=>Nat.le_of_succ_le e)));have B:=aa c;go_wp2_with fail;refine(tX C.b N T y.length y hO4.a rfl HL).mono ?_;rintro e w5 ⟨AZ,ca5,rfl,hL5,D9,vL⟩;obtain⟨qd,hA,Wh⟩:=l.o.j B ZJ.o hL5 D9 vL;have y0:=cX qd;have HA:=hA;have ZK:=aa Wh
       go_wp2;go_ret;exact j _ HA ZK.o
 . have j:dt S w g (bK s r x) (Y (I J (r.2:Int))) w3:=dt.a ⟨L,gl,ao,ca,P,l.o⟩ b (rt z);have hc':¬(r.2:Int)=0:=by omega
   generalize (r.2:Int)=rc at *;go_wp2;go_ret;exact j
theorem SP (s:av)(S:Nat->Prop)(g b1 b2:Nat)(x:aK)(D:ai)(G H:Nat)(r:aA×Nat)(w:X)(h:aY w S g s)(ok:aN s)(hT:ay w D H x.c)(hn:x.c.length=G)
 (hF:∀W m,Below w.heap.size w W->w.heap.size+1<=W.heap.size->cE W (fun k=>w.heap.size+1<=k) m s.h->Calls prog 226 #[Q (M ⟨m,0,U⟩),Q (M ⟨b1,0,U⟩),Q (M ⟨b2,0,U⟩)] W (bG (fun k=>w.heap.size+1<=k) 121 W m r)) :
 Calls prog 145 #[Q (M ⟨g,0,U⟩),.agg #[I J x.b,I J x.a,I J x.n,Z D G H],.func (.func 226) #[] #[Q (M ⟨b1,0,U⟩),Q (M ⟨b2,0,U⟩)]] w (dt S w g (bK s r x)):=by
 obtain⟨L,gl,ao,ca,P,hI⟩:=h;have jm:=(aq _ w).alloc (ak _) (K #[I J x.b,I J x.a,I J x.n,Z D G H] 223);have p:=hI.d jm;obtain⟨⟨c0,c1⟩,_⟩:=cX p.a;have l:=aa hI;have Hf:=aa jm;have HF:=aa hF;have HT:=aa hT
 have hlt:=hI.f;go_enter func145,ntmps145;go_wp2_with fail;refine(uj s.h P L _ p.e (up ok.h)).mono ?_;rintro e w2 ⟨m,rfl,hS2,d⟩;have q:=ar Hf.o d;have HB2:=q;have t:=aa d
 go_wp2_with fail;refine(HF.o w2 m q (by have:=d.size;simpa using this) (hS2.d (fun k _ e=>by simpa using e))).mono ?_;intro e w3 hd;have u:=t.o.size;have hs3:w.heap.size+1<=w2.heap.size:=by simpa using u
 obtain⟨he,Ll,v⟩:=hd.e hs3;have hbx:=(t.o.mono (by simp)).trans v;have hB3:=HB2.trans (v.mono (Nat.le_succ _));have x0:=rX (Nat.lt_succ_self _) hbx;have b:=hB3;have Au:=aa Ll
 subst he;by_cases z:r.2=0
 . have f:=aa (ue x D G H w3 (HT.o.a b) hn);rw[z];cases i:dg x with
   | false =>
     have j:∀W,Below w.heap.size w W->dt S w g (bK s r x) (Y (I J (1:Nat))) W:=fun W hb=>dt.a ⟨L,gl,ao,ca,P,l.o⟩ hb (rv z i);unfold mr at f;rw[uk i] at f;go_wp2_with fail;refine f.o.mono ?_;rintro e w4 ⟨N,T,rfl,_,a⟩;have B:=ar b a;go_wp2;go_ret;exact j _ B
   | true =>
     unfold mr at f;rw[uf i] at f;have hlx:(bi x).length<=1048600:=by have:=sM i;have:=oh i;omega
     by_cases hl:100000<s.a.length+(bi x).length
     . have j:Hid (∀W,Below w.heap.size w W->dt S w g (bK s r x) (Y (I J (16:Nat))) W):=fun W hb=>dt.a ⟨L,gl,ao,ca,P,l.o⟩ hb (ru z i hl);have HL:=show ¬s.a.length+(bi x).length<=100000 by omega
       generalize bi x=y at *;go_wp2_with fail;refine f.o.mono ?_;rintro e w4 ⟨N,T,rfl,_,a⟩;have c:=ar b a;have C:=l.o.d c;obtain⟨⟨c0,c1⟩,_⟩:=cX C.a;have B:=aa c;go_wp2_with fail;refine(tY C.b N T y.length HL).mono ?_;rintro e w5 ⟨rfl,Ee⟩;rw[Ee];clear Ee;go_wp2;go_ret;exact j _ B
     . have j:∀W,aY W (aB S w) g ⟨r.1,s.a++bi x,s.b⟩->al S w W->dt S w g (bK s r x) (Y (I J 0)) W:=fun W h1 h2=>by
        rw[rx z i hl];exact⟨rfl,h1,h2⟩
       have HL:=show s.a.length+(bi x).length<=100000 by omega
       generalize bi x=y at *;go_wp2_with fail;refine f.o.mono ?_;rintro e w4 ⟨N,T,rfl,hO4,a⟩;have c:=ar b a;have C:=l.o.d c;obtain⟨⟨c0,c1⟩,_⟩:=cX C.a;have ZJ:=aa (((Au.o.a a).d (S':=fun k=>w.heap.size<=k) (fun k _ e=>Nat.le_of_succ_le e)));have B:=aa c;go_wp2_with fail;refine(tX C.b N T y.length y hO4.a rfl HL).mono ?_;rintro e w5 ⟨AZ,ca5,rfl,hL5,D9,vL⟩;obtain⟨qd,hA,Wh⟩:=l.o.j B ZJ.o hL5 D9 vL;have y0:=cX qd;have HA:=hA;have ZK:=aa Wh
       go_wp2;go_ret;exact j _ HA ZK.o
 . have j:dt S w g (bK s r x) (Y (I J (r.2:Int))) w3:=dt.a ⟨L,gl,ao,ca,P,l.o⟩ b (rt z);have hc':¬(r.2:Int)=0:=by omega
   generalize (r.2:Int)=rc at *;go_wp2;go_ret;exact j
theorem SQ (s:av)(S:Nat->Prop)(g b1 b2 b3:Nat)(x:aK)(D:ai)(G H:Nat)(r:aA×Nat)(w:X)(h:aY w S g s)(ok:aN s)(hT:ay w D H x.c)(hn:x.c.length=G)
 (hF:∀W m,Below w.heap.size w W->w.heap.size+1<=W.heap.size->cE W (fun k=>w.heap.size+1<=k) m s.h->Calls prog 225 #[Q (M ⟨m,0,U⟩),Q (M ⟨b1,0,U⟩),Q (M ⟨b2,0,U⟩),Q (M ⟨b3,0,U⟩)] W (bG (fun k=>w.heap.size+1<=k) 121 W m r)) :
 Calls prog 145 #[Q (M ⟨g,0,U⟩),.agg #[I J x.b,I J x.a,I J x.n,Z D G H],.func (.func 225) #[] #[Q (M ⟨b1,0,U⟩),Q (M ⟨b2,0,U⟩),Q (M ⟨b3,0,U⟩)]] w (dt S w g (bK s r x)):=by
 obtain⟨L,gl,ao,ca,P,hI⟩:=h;have jm:=(aq _ w).alloc (ak _) (K #[I J x.b,I J x.a,I J x.n,Z D G H] 223);have p:=hI.d jm;obtain⟨⟨c0,c1⟩,_⟩:=cX p.a;have l:=aa hI;have Hf:=aa jm;have HF:=aa hF;have HT:=aa hT
 have hlt:=hI.f;go_enter func145,ntmps145;go_wp2_with fail;refine(uj s.h P L _ p.e (up ok.h)).mono ?_;rintro e w2 ⟨m,rfl,hS2,d⟩;have q:=ar Hf.o d;have HB2:=q;have t:=aa d
 go_wp2_with fail;refine(HF.o w2 m q (by have:=d.size;simpa using this) (hS2.d (fun k _ e=>by simpa using e))).mono ?_;intro e w3 hd;have u:=t.o.size;have hs3:w.heap.size+1<=w2.heap.size:=by simpa using u
 obtain⟨he,Ll,v⟩:=hd.e hs3;have hbx:=(t.o.mono (by simp)).trans v;have hB3:=HB2.trans (v.mono (Nat.le_succ _));have x0:=rX (Nat.lt_succ_self _) hbx;have b:=hB3;have Au:=aa Ll
 subst he;by_cases z:r.2=0
 . have f:=aa (ue x D G H w3 (HT.o.a b) hn);rw[z];cases i:dg x with
   | false =>
     have j:∀W,Below w.heap.size w W->dt S w g (bK s r x) (Y (I J (1:Nat))) W:=fun W hb=>dt.a ⟨L,gl,ao,ca,P,l.o⟩ hb (rv z i);unfold mr at f;rw[uk i] at f;go_wp2_with fail;refine f.o.mono ?_;rintro e w4 ⟨N,T,rfl,_,a⟩;have B:=ar b a;go_wp2;go_ret;exact j _ B
   | true =>
     unfold mr at f;rw[uf i] at f;have hlx:(bi x).length<=1048600:=by have:=sM i;have:=oh i;omega
     by_cases hl:100000<s.a.length+(bi x).length
     . have j:Hid (∀W,Below w.heap.size w W->dt S w g (bK s r x) (Y (I J (16:Nat))) W):=fun W hb=>dt.a ⟨L,gl,ao,ca,P,l.o⟩ hb (ru z i hl);have HL:=show ¬s.a.length+(bi x).length<=100000 by omega
       generalize bi x=y at *;go_wp2_with fail;refine f.o.mono ?_;rintro e w4 ⟨N,T,rfl,_,a⟩;have c:=ar b a;have C:=l.o.d c;obtain⟨⟨c0,c1⟩,_⟩:=cX C.a;have B:=aa c;go_wp2_with fail;refine(tY C.b N T y.length HL).mono ?_;rintro e w5 ⟨rfl,Ee⟩;rw[Ee];clear Ee;go_wp2;go_ret;exact j _ B
     . have j:∀W,aY W (aB S w) g ⟨r.1,s.a++bi x,s.b⟩->al S w W->dt S w g (bK s r x) (Y (I J 0)) W:=fun W h1 h2=>by
        rw[rx z i hl];exact⟨rfl,h1,h2⟩
       have HL:=show s.a.length+(bi x).length<=100000 by omega
       generalize bi x=y at *;go_wp2_with fail;refine f.o.mono ?_;rintro e w4 ⟨N,T,rfl,hO4,a⟩;have c:=ar b a;have C:=l.o.d c;obtain⟨⟨c0,c1⟩,_⟩:=cX C.a;have ZJ:=aa (((Au.o.a a).d (S':=fun k=>w.heap.size<=k) (fun k _ e=>Nat.le_of_succ_le e)));have B:=aa c;go_wp2_with fail;refine(tX C.b N T y.length y hO4.a rfl HL).mono ?_;rintro e w5 ⟨AZ,ca5,rfl,hL5,D9,vL⟩;obtain⟨qd,hA,Wh⟩:=l.o.j B ZJ.o hL5 D9 vL;have y0:=cX qd;have HA:=hA;have ZK:=aa Wh
       go_wp2;go_ret;exact j _ HA ZK.o
 . have j:dt S w g (bK s r x) (Y (I J (r.2:Int))) w3:=dt.a ⟨L,gl,ao,ca,P,l.o⟩ b (rt z);have hc':¬(r.2:Int)=0:=by omega
   generalize (r.2:Int)=rc at *;go_wp2;go_ret;exact j
theorem SR (s:av)(S:Nat->Prop)(g b1 b2:Nat)(x:aK)(D:ai)(G H:Nat)(r:aA×Nat)(w:X)(h:aY w S g s)(ok:aN s)(hT:ay w D H x.c)(hn:x.c.length=G)
 (hF:∀W m,Below w.heap.size w W->w.heap.size+1<=W.heap.size->cE W (fun k=>w.heap.size+1<=k) m s.h->Calls prog 219 #[Q (M ⟨m,0,U⟩),Q (M ⟨b1,0,U⟩),Q (M ⟨b2,0,U⟩)] W (bG (fun k=>w.heap.size+1<=k) 121 W m r)) :
 Calls prog 145 #[Q (M ⟨g,0,U⟩),.agg #[I J x.b,I J x.a,I J x.n,Z D G H],.func (.func 219) #[] #[Q (M ⟨b1,0,U⟩),Q (M ⟨b2,0,U⟩)]] w (dt S w g (bK s r x)):=by
 obtain⟨L,gl,ao,ca,P,hI⟩:=h;have jm:=(aq _ w).alloc (ak _) (K #[I J x.b,I J x.a,I J x.n,Z D G H] 223);have p:=hI.d jm;obtain⟨⟨c0,c1⟩,_⟩:=cX p.a;have l:=aa hI;have Hf:=aa jm;have HF:=aa hF;have HT:=aa hT
 have hlt:=hI.f;go_enter func145,ntmps145;go_wp2_with fail;refine(uj s.h P L _ p.e (up ok.h)).mono ?_;rintro e w2 ⟨m,rfl,hS2,d⟩;have q:=ar Hf.o d;have HB2:=q;have t:=aa d
 go_wp2_with fail;refine(HF.o w2 m q (by have:=d.size;simpa using this) (hS2.d (fun k _ e=>by simpa using e))).mono ?_;intro e w3 hd;have u:=t.o.size;have hs3:w.heap.size+1<=w2.heap.size:=by simpa using u
 obtain⟨he,Ll,v⟩:=hd.e hs3;have hbx:=(t.o.mono (by simp)).trans v;have hB3:=HB2.trans (v.mono (Nat.le_succ _));have x0:=rX (Nat.lt_succ_self _) hbx;have b:=hB3;have Au:=aa Ll
 subst he;by_cases z:r.2=0
 . have f:=aa (ue x D G H w3 (HT.o.a b) hn);rw[z];cases i:dg x with
   | false =>
     have j:∀W,Below w.heap.size w W->dt S w g (bK s r x) (Y (I J (1:Nat))) W:=fun W hb=>dt.a ⟨L,gl,ao,ca,P,l.o⟩ hb (rv z i);unfold mr at f;rw[uk i] at f;go_wp2_with fail;refine f.o.mono ?_;rintro e w4 ⟨N,T,rfl,_,a⟩;have B:=ar b a;go_wp2;go_ret;exact j _ B
   | true =>
     unfold mr at f;rw[uf i] at f;have hlx:(bi x).length<=1048600:=by have:=sM i;have:=oh i;omega
     by_cases hl:100000<s.a.length+(bi x).length
     . have j:Hid (∀W,Below w.heap.size w W->dt S w g (bK s r x) (Y (I J (16:Nat))) W):=fun W hb=>dt.a ⟨L,gl,ao,ca,P,l.o⟩ hb (ru z i hl);have HL:=show ¬s.a.length+(bi x).length<=100000 by omega
       generalize bi x=y at *;go_wp2_with fail;refine f.o.mono ?_;rintro e w4 ⟨N,T,rfl,_,a⟩;have c:=ar b a;have C:=l.o.d c;obtain⟨⟨c0,c1⟩,_⟩:=cX C.a;have B:=aa c;go_wp2_with fail;refine(tY C.b N T y.length HL).mono ?_;rintro e w5 ⟨rfl,Ee⟩;rw[Ee];clear Ee;go_wp2;go_ret;exact j _ B
     . have j:∀W,aY W (aB S w) g ⟨r.1,s.a++bi x,s.b⟩->al S w W->dt S w g (bK s r x) (Y (I J 0)) W:=fun W h1 h2=>by
        rw[rx z i hl];exact⟨rfl,h1,h2⟩
       have HL:=show s.a.length+(bi x).length<=100000 by omega
       generalize bi x=y at *;go_wp2_with fail;refine f.o.mono ?_;rintro e w4 ⟨N,T,rfl,hO4,a⟩;have c:=ar b a;have C:=l.o.d c;obtain⟨⟨c0,c1⟩,_⟩:=cX C.a;have ZJ:=aa (((Au.o.a a).d (S':=fun k=>w.heap.size<=k) (fun k _ e=>Nat.le_of_succ_le e)));have B:=aa c;go_wp2_with fail;refine(tX C.b N T y.length y hO4.a rfl HL).mono ?_;rintro e w5 ⟨AZ,ca5,rfl,hL5,D9,vL⟩;obtain⟨qd,hA,Wh⟩:=l.o.j B ZJ.o hL5 D9 vL;have y0:=cX qd;have HA:=hA;have ZK:=aa Wh
       go_wp2;go_ret;exact j _ HA ZK.o
 . have j:dt S w g (bK s r x) (Y (I J (r.2:Int))) w3:=dt.a ⟨L,gl,ao,ca,P,l.o⟩ b (rt z);have hc':¬(r.2:Int)=0:=by omega
   generalize (r.2:Int)=rc at *;go_wp2;go_ret;exact j
theorem Sa (w:X):
 Calls prog 8 #[] w fun e w'=>∃g,e=Y (Q (M ⟨g,0,U⟩))∧aY w' (fun k=>w.heap.size<=k) g jj∧Below w.heap.size w w':=by
 go_enter func8,ntmps8;go_wp2_with fail;refine(FG w).mono ?_;rintro e a ⟨rfl,m,q⟩;have v:=m.f;have r:=m;have n:=aa q
 go_wp2_with fail;refine((fun W=>Oz W) a).mono ?_;rintro e c ⟨rfl,f,b⟩;have s:=f.f;have x:=b.size;have t:=n.o.size;have d:=ar n.o b;have p:aY (c.alloc (K #[Q (M ⟨w.heap.size,0,U⟩),Q (M ⟨a.heap.size,0,U⟩)] 45)) (fun k=>w.heap.size<=k) c.heap.size jj∧Below w.heap.size w (c.alloc (K #[Q (M ⟨w.heap.size,0,U⟩),Q (M ⟨a.heap.size,0,U⟩)] 45)):=by
  have j:=(aq _ c).alloc (ak _) (K #[Q (M ⟨w.heap.size,0,U⟩),Q (M ⟨a.heap.size,0,U⟩)] 45);have l:dP c 0 a.heap.size [] 0 U 0:=⟨f.a,bC.e _ _ _,ax _,f.h,f.d⟩;refine⟨⟨w.heap.size,a.heap.size,U,0,fun k=>w.heap.size<=k∧k<a.heap.size,bw c _,((r.d (S':=fun k=>w.heap.size<=k∧k<a.heap.size) (fun k u e=>⟨e,u⟩)).a b).a j,l.q j,d.size,fun k e=>⟨e.1,by omega,fun i=>?_⟩,fun k e=>?_⟩,ar d j⟩
  . rcases i with i | i
    . omega
    . cases i
  . rcases e with e | e
    . exact⟨by show w.heap.size<=k;omega,by omega⟩
    . cases e
 go_wp2;go_ret;exact⟨_,rfl,p.1,p.2⟩
section
variable {s:av} {S:Nat->Prop} {g:Nat} {w:X}
theorem lO.q {w':X}{gs a:Nat}{ao:ai}{b:Nat}{P:Nat->Prop}{d:ae}{f:Nat}(h:lO w S g gs a ao b P s)(i:dP w' 0 a d f ao b)(c:al (fun k=>k=a) w w'):lO w' S g gs a ao b P ⟨s.h,d,f⟩∧al S w w' :=
 ⟨⟨c.j h.a (fun e=>(h.c a (A rfl)).2 e.symm),h.e.j c (fun k e j=>(h.h k e).2.2 (A j)),i,h.i,h.h,h.c⟩,c.e (fun k e=>by subst e;exact(h.c _ (A rfl)).1)⟩
theorem rM (h:aY w S g s):
 Calls prog 99 #[Q (M ⟨g,0,U⟩)] w fun e w'=>e=Y (.tuple #[])∧aY w' S g (ey s)∧al S w w':=by
 obtain⟨d,f,i,j,P,a⟩:=h;obtain⟨⟨o,p⟩,_⟩:=cX a.a;go_enter func99,ntmps99;go_wp2_with fail;refine(Da a.b).mono ?_;rintro e b ⟨rfl,k,l⟩;obtain⟨m,n⟩:=a.q k l;have c:aY b S g (ey s)∧al S w b:=⟨⟨d,f,i,j,P,m⟩,n⟩;go_wp2;go_end0
 exact⟨rfl,c.1,c.2⟩
end
section
variable {s:av} {S:Nat->Prop} {g:Nat} {w:X}
theorem Sb (h:aY w S g s)(ok:aN s)(id:Int):
 Calls prog 101 #[Q (M ⟨g,0,U⟩),I J id] w (dt S w g (lW s id)):=by
 have d:Below w.heap.size w ((w.alloc (K #[I J id] 3)).alloc (K #[I J 6,I J id,I J 0,Z U 0 0] 223)):=((aq _ _).alloc (by simp;try omega) _).alloc (by simp;try omega) _;have b:∀W,Below ((w.alloc (K #[I J id] 3)).alloc (K #[I J 6,I J id,I J 0,Z U 0 0] 223)).heap.size ((w.alloc (K #[I J id] 3)).alloc (K #[I J 6,I J id,I J 0,Z U 0 0] 223)) W->W.cell? ⟨w.heap.size,0,U⟩=M (I J id):=fun W c=>by rw[c.cell (p:=⟨w.heap.size,0,U⟩) (by simp;try omega)];exact jU _ _ _ _ (mp _ _ _ _ (by simp;try omega))
 have j:=Ve s S g w.heap.size ⟨6,id,0,[]⟩ U 0 0 (lj s.h id) _ (h.d d) ok (ay.d _) rfl (fun W k c _ l=>Q3 s.h _ k w.heap.size id W l ok.h (b W c));have n:∀(f:Fn) (first a:Array Value) (w:X),(Instr.makeFunc f first a).run prog w=.ok (.func f first a) w:=fun _ _ _ _=>rfl;unfold lW;generalize bK s _ _=r at *;go_enter func101,ntmps101;go_wp2_with fail;refine j.mono ?_;intro e o i;have m:=dt.d d i;obtain⟨rfl,_,_⟩:=i;go_wp2;go_ret;exact m
theorem M9 (h:aY w S g s)(ok:aN s)(id:Int):
 Calls prog 98 #[Q (M ⟨g,0,U⟩),I J id] w (dt S w g (ex s id)):=by
 have d:Below w.heap.size w ((w.alloc (K #[I J id] 3)).alloc (K #[I J 5,I J id,I J 0,Z U 0 0] 223)):=((aq _ _).alloc (by simp;try omega) _).alloc (by simp;try omega) _;have b:∀W,Below ((w.alloc (K #[I J id] 3)).alloc (K #[I J 5,I J id,I J 0,Z U 0 0] 223)).heap.size ((w.alloc (K #[I J id] 3)).alloc (K #[I J 5,I J id,I J 0,Z U 0 0] 223)) W->W.cell? ⟨w.heap.size,0,U⟩=M (I J id):=fun W c=>by rw[c.cell (p:=⟨w.heap.size,0,U⟩) (by simp;try omega)];exact jU _ _ _ _ (mp _ _ _ _ (by simp;try omega))
 have j:=SN s S g w.heap.size ⟨5,id,0,[]⟩ U 0 0 (jP s.h id) _ (h.d d) ok (ay.d _) rfl (fun W k c _ l=>Q4 s.h _ k w.heap.size id W l ok.h (b W c));have n:∀(f:Fn) (first a:Array Value) (w:X),(Instr.makeFunc f first a).run prog w=.ok (.func f first a) w:=fun _ _ _ _=>rfl;unfold ex;generalize bK s _ _=r at *;go_enter func98,ntmps98;go_wp2_with fail;refine j.mono ?_;intro e o i;have m:=dt.d d i;obtain⟨rfl,_,_⟩:=i;go_wp2;go_ret;exact m
theorem CF (h:aY w S g s)(ok:aN s)(id:Int):
 Calls prog 178 #[Q (M ⟨g,0,U⟩),I J id] w (dt S w g (gn s id)):=by
 have d:Below w.heap.size w ((w.alloc (K #[I J id] 3)).alloc (K #[I J 4,I J id,I J 0,Z U 0 0] 223)):=((aq _ _).alloc (by simp;try omega) _).alloc (by simp;try omega) _;have b:∀W,Below ((w.alloc (K #[I J id] 3)).alloc (K #[I J 4,I J id,I J 0,Z U 0 0] 223)).heap.size ((w.alloc (K #[I J id] 3)).alloc (K #[I J 4,I J id,I J 0,Z U 0 0] 223)) W->W.cell? ⟨w.heap.size,0,U⟩=M (I J id):=fun W c=>by rw[c.cell (p:=⟨w.heap.size,0,U⟩) (by simp;try omega)];exact jU _ _ _ _ (mp _ _ _ _ (by simp;try omega))
 have j:=SO s S g w.heap.size ⟨4,id,0,[]⟩ U 0 0 (lU s.h id) _ (h.d d) ok (ay.d _) rfl (fun W k c _ l=>Q6 s.h _ k w.heap.size id W l ok.h (b W c));have n:∀(f:Fn) (first a:Array Value) (w:X),(Instr.makeFunc f first a).run prog w=.ok (.func f first a) w:=fun _ _ _ _=>rfl;unfold gn;generalize bK s _ _=r at *;go_enter func178,ntmps178;go_wp2_with fail;refine j.mono ?_;intro e o i;have m:=dt.d d i;obtain⟨rfl,_,_⟩:=i;go_wp2;go_ret;exact m
theorem LF (h:aY w S g s)(ok:aN s)(id:Int)(a:Int):
 Calls prog 177 #[Q (M ⟨g,0,U⟩),I J id,I J a] w (dt S w g (rs s id a)):=by
 have i:Below w.heap.size w (((w.alloc (K #[I J id] 3)).alloc (K #[I J a] 3)).alloc (K #[I J 3,I J id,I J a,Z U 0 0] 223)):=(((aq _ _).alloc (by simp;try omega) _).alloc (by simp;try omega) _).alloc (by simp;try omega) _;have d:∀W,Below (((w.alloc (K #[I J id] 3)).alloc (K #[I J a] 3)).alloc (K #[I J 3,I J id,I J a,Z U 0 0] 223)).heap.size (((w.alloc (K #[I J id] 3)).alloc (K #[I J a] 3)).alloc (K #[I J 3,I J id,I J a,Z U 0 0] 223)) W->W.cell? ⟨w.heap.size,0,U⟩=M (I J id):=fun W b=>by rw[b.cell (p:=⟨w.heap.size,0,U⟩) (by simp;try omega)];exact jU _ _ _ _ (jU _ _ _ _ (mp _ _ _ _ (by simp;try omega)))
 have f:∀W,Below (((w.alloc (K #[I J id] 3)).alloc (K #[I J a] 3)).alloc (K #[I J 3,I J id,I J a,Z U 0 0] 223)).heap.size (((w.alloc (K #[I J id] 3)).alloc (K #[I J a] 3)).alloc (K #[I J 3,I J id,I J a,Z U 0 0] 223)) W->W.cell? ⟨w.heap.size+1,0,U⟩=M (I J a):=fun W b=>by rw[b.cell (p:=⟨w.heap.size+1,0,U⟩) (by simp;try omega)];exact jU _ _ _ _ (mp _ _ _ _ (by simp;try omega))
 have l:=SP s S g w.heap.size (w.heap.size+1) ⟨3,id,a,[]⟩ U 0 0 (li s.h id a) _ (h.d i) ok (ay.d _) rfl (fun W m b _ n=>Q8 s.h _ m w.heap.size (w.heap.size+1) id a W n ok.h (d W b) (f W b));have q:∀(j:Fn) (first c:Array Value) (w:X),(Instr.makeFunc j first c).run prog w=.ok (.func j first c) w:=fun _ _ _ _=>rfl;unfold rs;generalize bK s _ _=r at *;go_enter func177,ntmps177;go_wp2_with fail;refine l.mono ?_;intro e t k;have o:=dt.d i k;obtain⟨rfl,_,_⟩:=k;go_wp2;go_ret;exact o
theorem yQ (h:aY w S g s)(ok:aN s)(id:Int)(a:Int)(bo:ai)(b c:Nat)(l:ae)(n:ay w bo c l)(o:l.length=b)(u:b<=1000000):
 Calls prog 176 #[Q (M ⟨g,0,U⟩),I J id,I J a,Z bo b c] w (dt S w g (cL s id a l)):=by
 have i:Below w.heap.size w ((((w.alloc (K #[I J id] 3)).alloc (K #[I J a] 3)).alloc (K #[Z bo b c] 31)).alloc (K #[I J 2,I J id,I J 0,Z bo b c] 223)):=((((aq _ _).alloc (by simp;try omega) _).alloc (by simp;try omega) _).alloc (by simp;try omega) _).alloc (by simp;try omega) _;have j:∀W,Below ((((w.alloc (K #[I J id] 3)).alloc (K #[I J a] 3)).alloc (K #[Z bo b c] 31)).alloc (K #[I J 2,I J id,I J 0,Z bo b c] 223)).heap.size ((((w.alloc (K #[I J id] 3)).alloc (K #[I J a] 3)).alloc (K #[Z bo b c] 31)).alloc (K #[I J 2,I J id,I J 0,Z bo b c] 223)) W->W.cell? ⟨w.heap.size,0,U⟩=M (I J id):=fun W d=>by rw[d.cell (p:=⟨w.heap.size,0,U⟩) (by simp;try omega)];exact jU _ _ _ _ (jU _ _ _ _ (jU _ _ _ _ (mp _ _ _ _ (by simp;try omega))))
 have k:∀W,Below ((((w.alloc (K #[I J id] 3)).alloc (K #[I J a] 3)).alloc (K #[Z bo b c] 31)).alloc (K #[I J 2,I J id,I J 0,Z bo b c] 223)).heap.size ((((w.alloc (K #[I J id] 3)).alloc (K #[I J a] 3)).alloc (K #[Z bo b c] 31)).alloc (K #[I J 2,I J id,I J 0,Z bo b c] 223)) W->W.cell? ⟨w.heap.size+1,0,U⟩=M (I J a):=fun W d=>by rw[d.cell (p:=⟨w.heap.size+1,0,U⟩) (by simp;try omega)];exact jU _ _ _ _ (jU _ _ _ _ (mp _ _ _ _ (by simp;try omega)))
 have m:∀W,Below ((((w.alloc (K #[I J id] 3)).alloc (K #[I J a] 3)).alloc (K #[Z bo b c] 31)).alloc (K #[I J 2,I J id,I J 0,Z bo b c] 223)).heap.size ((((w.alloc (K #[I J id] 3)).alloc (K #[I J a] 3)).alloc (K #[Z bo b c] 31)).alloc (K #[I J 2,I J id,I J 0,Z bo b c] 223)) W->W.cell? ⟨w.heap.size+2,0,U⟩=M (Z bo b c):=fun W d=>by rw[d.cell (p:=⟨w.heap.size+2,0,U⟩) (by simp;try omega)];exact jU _ _ _ _ (mp _ _ _ _ (by simp;try omega))
 have v:=SQ s S g w.heap.size (w.heap.size+1) (w.heap.size+2) ⟨2,id,0,l⟩ bo b c (iG s.h id a l) _ (h.d i) ok (n.a i) o (fun W x d _ y=>Q9 s.h _ x w.heap.size (w.heap.size+1) (w.heap.size+2) id a bo b c l W y ok.h (j W d) (k W d) (m W d) ((n.a i).a d) o u);have B:∀(q:Fn) (first f:Array Value) (w:X),(Instr.makeFunc q first f).run prog w=.ok (.func q first f) w:=fun _ _ _ _=>rfl;unfold cL;generalize bK s _ _=r at *;go_enter func176,ntmps176;go_wp2_with fail;refine v.mono ?_;intro e C t;have z:=dt.d i t;obtain⟨rfl,_,_⟩:=t;go_wp2;go_ret;exact z
end
structure Io (S:Nat->Prop)(w:X)(g:Nat)(s:av)(r:av×Nat)(e:Ending)(w':X):Prop where
 b:e=Y (.tuple #[I J (nG s r.2),I J (r.2:Int)])
 a:aY w' (aB S w) g r.1
 c:al S w w'
section
variable {s:av} {S:Nat->Prop} {g:Nat} {w:X}
theorem CO (h:aY w S g s)(ok:aN s)(a:Int)(m:ag)(L:m.size<=1000000):
 Calls prog 168 #[Q (M ⟨g,0,U⟩),I J a,V m] w (Io S w g s (cx s a m)):=by
 have b:Below w.heap.size w ((w.alloc (K #[I J a] 3)).alloc (K #[V m] 9)):=((aq _ _).alloc (ak _) _).alloc (by simp) _;have B:((w.alloc (K #[I J a] 3)).alloc (K #[V m] 9)).cell? ⟨w.heap.size,0,U⟩=M (I J a):=jU _ _ _ _ (mp _ _ _ _ rfl);have N:((w.alloc (K #[I J a] 3)).alloc (K #[V m] 9)).cell? ⟨w.heap.size+1,0,U⟩=M (V m):=mp _ _ _ _ (by simp);have k:((w.alloc (K #[I J a] 3)).alloc (K #[V m] 9)).heap.size=w.heap.size+2:=by simp
 obtain⟨d,C⟩:∃W,((w.alloc (K #[I J a] 3)).alloc (K #[V m] 9))=W:=⟨_,rfl⟩;rw[C] at b B N k;have h2:=h.d b;obtain⟨gs,gl,ao,ca,P,D⟩:=h2;obtain⟨⟨c0,c1⟩,_⟩:=cX D.a;have hl:=ok.j;have HN:=Fb s.h P gs d D.e ok.h.c (by omega);obtain⟨u,G,hcv,f,hs3,l⟩:=zK (P:=prog) d m 9 31 5 underlying9 underlying31 underlying5;have n:=ar b f;have x:=(aq _ G).alloc (ak _) (K #[I J 1,I J (s.h.a+1),I J a,Z (M ⟨d.heap.size,0,U⟩) m.size u] 223);have o:=ar n x;have j:∀W,Below (G.alloc (K #[I J 1,I J (s.h.a+1),I J a,Z (M ⟨d.heap.size,0,U⟩) m.size u] 223)).heap.size (G.alloc (K #[I J 1,I J (s.h.a+1),I J a,Z (M ⟨d.heap.size,0,U⟩) m.size u] 223)) W->W.cell? ⟨w.heap.size,0,U⟩=M (I J a)∧W.cell? ⟨w.heap.size+1,0,U⟩=M (V m):=fun W y=>by
  have q:=ar f (ar x y);exact⟨(q.cell (p:=⟨w.heap.size,0,U⟩) (show w.heap.size<d.heap.size by omega)).trans B,(q.cell (p:=⟨w.heap.size+1,0,U⟩) (show w.heap.size+1<d.heap.size by omega)).trans N⟩
 have HC:=SR s S g w.heap.size (w.heap.size+1) ⟨1,s.h.a+1,a,m.data.toList⟩ (M ⟨d.heap.size,0,U⟩) m.size u (lY s.h a m) _ (h.d o) ok (l.a x) (by simp) (fun W g' y _ hS=>Ra s.h _ g' w.heap.size (w.heap.size+1) a m W hS ok.h (j W y).1 (j W y).2 (by omega) L);have Te:∀(T:Fn) (first t:Array Value) (w:X),(Instr.makeFunc T first t).run prog w=.ok (.func T first t) w:=fun _ _ _ _=>rfl;have d1:=(f.cell (p:=⟨w.heap.size,0,U⟩) (show w.heap.size<d.heap.size by omega)).trans B;unfold cx;generalize bK s _ _=r at *;have XI:∀c:Nat,c=0->nG s c=s.h.a+1:=fun c i=>by unfold nG;rw[if_pos i]
 have H:∀c:Nat,c≠0->nG s c=0:=fun c i=>by unfold nG;rw[if_neg i]
 clear h ok b n  x j D k  l f c1 L;generalize hla:s.h.a=la at *;go_enter func168,ntmps168;go_wp2_with fail;refine HN.mono ?_;rintro e w1 ⟨rfl,hw⟩;rw[hw];clear hw;go_wp2_with fail;refine HC.mono ?_;intro e w2 hd;have z:=dt.d o hd;obtain⟨rfl,_,_⟩:=hd;by_cases i:r.2=0
 . rw[i];go_wp2;go_ret2;exact⟨by rw[XI _ i,i];rfl,z.c,z.b⟩
 . have hc':¬(r.2:Int)=0:=by omega
   have HX:∀v,v=(r.2:Int)->Io S w g s r (Y (.tuple #[I J 0,I J v])) w2:=fun v hv=>⟨by rw[H _ i,hv],z.c,z.b⟩;generalize (r.2:Int)=rc at *;go_wp2;go_ret2;exact HX _ rfl
end
section
variable {s:av} {S:Nat->Prop} {g:Nat} {w:X}
theorem zg (h:aY w S g s)(n:Int):
 Calls prog 175 #[Q (M ⟨g,0,U⟩),I J n] w fun e w'=>e=Y (.bool (decide (0<=n)&&decide (n<=100000-(s.a.length:Int))))∧w'=w:=by
 obtain⟨d,f,i,j,P,a⟩:=h;obtain⟨⟨k,l⟩,_⟩:=cX a.a;have c:=Cz a.b n;generalize (decide (0<=n)&&decide (n<=100000-(s.a.length:Int)))=r at *;go_enter func175,ntmps175;go_wp2_with fail;refine c.mono ?_;rintro e m ⟨rfl,b⟩;rw[b];clear b;go_wp2;go_ret;exact⟨rfl,rfl⟩
end
inductive mv (w:X)(S So:Nat->Prop)(g gt:Nat)(m:ae)(s:br)(t:dL)(w':X):Prop
 | mk (S' So':Nat->Prop) (hF:dQ w' S' g m s) (hO:eA w' So' gt t) (hd:∀k,S' k->¬So' k) (hS:∀k,S' k->S k∨w.heap.size<=k) (hSo:∀k,So' k->So k∨w.heap.size<=k) (hT:al (fun k=>S k∨So k) w w')
inductive vH (w:X)(S So:Nat->Prop)(g gt:Nat)(t:dL)(w':X):Prop
 | mk (So':Nat->Prop) (sk ln:Value) (ah pl pt cd:Int) (fo:ai) (nf gG:Nat) (hR:dX w' g sk ah ln fo nf gG pl pt cd) (hO:eA w' So' gt t) (hd:¬So' g) (hSo:∀k,So' k->So k∨w.heap.size<=k) (hT:al (fun k=>S k∨So k) w w')
inductive yz (w:X)(S So:Nat->Prop)(g gt:Nat)(m:ae)(s:br)(c:UInt8)(t:dL)(e:Ending)(w':X):Prop
 | ok (he:e=Y (I J 0)) (h:mv w S So g gt m (cC m s c).1 (dA t (cC m s c).2) w')
 | fail (k:Nat) (hk:k≠0) (hN:cC m s c=jb k) (he:e=Y (I J (k:Int))) (h:vH w S So g gt t w')
section
variable {w w1 w':X} {S:Nat->Prop} {g gs gl:Nat} {m:ae} {s:br}
theorem dQ.r (h:dQ w S g m s)(b:iS s)(p:Nat)(c:p≠6):dQ (w.setCell ⟨g,4,U⟩ (I J (p:Int))) S g m { s with b:=p }∧al S w (w.setCell ⟨g,4,U⟩ (I J (p:Int))):=by
 cases h with
 | dead h a row=>exact absurd b h
 | live h a gs gl q d f D row inn =>
   exact⟨.live ⟨h.1,c⟩ a gs gl q d f D (row.B p) ((inn.a (dX.d w g 4 _) (fun k e=>e.2)).q rfl rfl rfl),(dX.d w g 4 _).e (fun k e=>by subst e;exact a)⟩
theorem dQ.f {p:kp}{fo:ai}{gG:Nat}{D:Nat->Prop}(l:iS s)(i:S g)(row:dX w g (Q (M ⟨gs,0,U⟩)) (s.d:Int) (Q (M ⟨gl,0,U⟩)) fo s.e.length gG (s.b:Int) (s.f:Int) (s.g:Int))(inn:jZ w (fun k=>S k∧k≠g) m s gs gl p fo gG D)
 {c a2:Nat} (n:eC w1 gs m c p) (o:w.grownBy w1 (M gs)):dQ (w1.setCell ⟨g,1,U⟩ (I J (a2:Int))) S g m { s with c:=c,d:=a2 }∧al S w (w1.setCell ⟨g,1,U⟩ (I J (a2:Int))):=by
 have b:al (fun k=>k=gs) w w1:=al.q o (fun k e=>by injection e with e;exact e.symm);have j:al (fun k=>k=g) w1 (w1.setCell ⟨g,1,U⟩ (I J (a2:Int))):=dX.d w1 g 1 _;have d:gs≠g:=inn.b.1.2;have q:=(row.f b (fun e=>d e.symm)).mh (a2:Int);have f:∀k,(((S k∧k≠g)∧D k)->¬k=gs):=fun k e r=>inn.e.1 (r▸e.2);have t:jZ w1 (fun k=>S k∧k≠g) m { s with c:=c,d:=a2 } gs gl p fo gG D:=⟨n,inn.b,inn.e,inn.g.d b f,inn.f.e b (fun a e=>(inn.j a e).1),inn.c⟩;refine⟨.live l i gs gl p fo gG D q (t.a j (fun k e=>e.2)),(b.e (fun k e=>by subst e;exact inn.b.1.1)).a (j.e (S':=S) (fun k e=>by subst e;exact i)) (fun _ e _=>e)⟩
end
structure sT (w0:X)(S So:Nat->Prop)(g gt:Nat)(m:ae)(s:br)(t:dL)(w:X):Prop where
 b:dQ w (fun k=>S k∧k<w0.heap.size) g m s
 a:eA w (fun k=>So k∧k<w0.heap.size) gt t
 c:∀k,S k->¬So k
 d:al (fun k=>S k∨So k) w0 w
section
variable {w0 w w':X} {S So:Nat->Prop} {g gt:Nat} {m:ae} {s s':br} {t t':dL}
theorem sT.f (b:dQ w S g m s)(c:eA w So gt t)(hd:∀k,S k->¬So k):sT w S So g gt m s t w:=⟨b.e (fun _ a e=>⟨e,a⟩),c.d (fun _ a e=>⟨e,a⟩),hd,al.r _ _⟩
theorem sT.e (h:sT w0 S So g gt m s t w)(b:dQ w' (fun k=>S k∧k<w0.heap.size) g m s')(a:al (fun k=>S k∧k<w0.heap.size) w w'):sT w0 S So g gt m s' t w' :=
 ⟨b,h.a.a a (fun k e c=>h.c k c.1 e.1),h.c,h.d.a a (fun _ e _=>A e.1)⟩
theorem sT.q (h:sT w0 S So g gt m s t w):mv w0 S So g gt m s t w :=
 .mk _ _ h.b h.a (fun k e a=>h.c k e.1 a.1) (fun _ e=>A e.1) (fun _ e=>A e.1) h.d
theorem sT.j (h:sT w0 S So g gt m s t w)(d:eA w' (aB (fun k=>So k∧k<w0.heap.size) w) gt t')(b:al (fun k=>So k∧k<w0.heap.size) w w'):mv w0 S So g gt m s t' w'∧dQ w' (fun k=>S k∧k<w0.heap.size) g m s:=by
 have f:=h.d.b;have c:=h.b.d b (fun k e a=>h.c k e.1 a.1);refine⟨.mk _ _ c d (fun k e a=>?_) (fun k e=>A e.1) (fun k e=>?_) (h.d.a b (fun i e _=>R e.1)),c⟩
 . rcases a with a | a
   . exact h.c k e.1 a.1
   . have:=e.2;omega
 . rcases e with e | e
   . exact A e.1
   . exact R (by omega)
end
theorem mv.a {w0 w w':X}{S So l n:Nat->Prop}{g gt:Nat}{m:ae}{o:br}{p:dL}(a:∀k,l k->S k∨w0.heap.size<=k)(q:∀k,n k->So k∨w0.heap.size<=k)(r:al (fun k=>S k∨So k) w0 w)(s:mv w l n g gt m o p w'):mv w0 S So g gt m o p w':=by
 obtain⟨t,b,c,d,f,j,u,v⟩:=s;have x:=r.b;refine .mk t b c d f (fun k e=>?_) (fun k e=>?_) (r.a v (fun i e y=>?_))
 . rcases j k e with e | e
   . exact a k e
   . exact R (by omega)
 . rcases u k e with e | e
   . exact q k e
   . exact R (by omega)
 . rcases e with e | e
   . rcases a i e with e | e
     . exact A e
     . omega
   . rcases q i e with e | e
     . exact R e
     . omega
theorem Mk (w:World)(S So:Nat->Prop)(g gt:Nat)(m:ae)(s:br)(c:UInt8)(t:dL)(h:dQ w S g m s)(hl:iS s)(hp:s.b=0)(hG:ir m s)(hO:eA w So gt t)(hd:∀k,S k->¬So k)(hm:m.length<=1000)(ha:s.d<=2)(hes:t.b.length<=80000)(hbs:t.a.length<=80000):
 Calls prog 312 #[.pointer (some ⟨g,0,none⟩),.pointer (some ⟨gt,0,none⟩),.int .u8 c.toNat] w fun e w'=>e=.returned (.tuple #[])∧mv w S So g gt m (cC m s c).1 (dA t (cC m s c).2) w':=by
 have hP:=sT.f h hO hd;have hN:cC m s c=({ s with c:=fZ m s.c c,d:=s.d-(dE m s.c c).length,b:=if fp m s.c c then 1 else 0 },if 0<s.f then iv ((dE m s.c c).drop s.d)++(if fp m s.c c then [uN] else []) else []):=by
  unfold cC;rw[if_neg (fun k=>k hl),if_pos hp]
 have hol:=Ak m s.c c hG.a;have hhl:=hG.a;cases hP.b with
 | dead h2 me row=>exact absurd hl h2
 | live h2 me gs gl p fo gG D row inn =>
   have c0:=row.j;have hne:g≠gs:=fun e=>inn.b.1.2 e.symm;have hSo:∀w1 a2,eC w1 gs m (fZ m s.c c) p->w.grownBy w1 (some gs)->sT w S So g gt m { s with c:=fZ m s.c c,d:=a2 } t (w1.setCell ⟨g,1,none⟩ (.int .i64 ((a2:Nat):Int))):=fun w1 a2 hS hG=>by
    obtain⟨r1,r2⟩:=dQ.f (a2:=a2) hl me row inn hS hG;exact hP.e r1 r2
   have HG:=And.intro hl hp;have hlt:=row.e;generalize hout:dE m s.c c=out at *;generalize hfd:fp m s.c c=fd at *;generalize haf:fZ m s.c c=af at *;go_enter func312,ntmps312;go_wp2_with fail;refine(Jx w g gs s.d m s.c c p row.j row.y (row.a 1) hne inn.d hG.a hm (by omega)).mono ?_;rintro e w2 ⟨w1,ao,cap,n,he,hn,hw,hB,hlo,hS,hGr⟩;rw[hout] at hn hw hB;rw[hfd] at he;rw[haf] at hS;subst he;have hP2:=hSo w1 (s.d-out.length) hS hGr;have hB2:ay w2 ao cap (out.drop s.d):=by
    rw[hw];exact hB.e (dX.d w1 g 1 _) (fun a e e2=>by have:=hlo a e;omega)
   rw[<-hw] at hP2;have tQ:=hP2;have HB2:=aa hB2;have O5:=aa hn
   obtain⟨c4,c5,_,fz⟩:=hP2.b.a;have f4:=fz 4;have hnl:n<=1001:=by rw[hn,bV];omega
   have HMv:=fun(W:World) (hW:dQ W (fun k=>S k∧k<w.heap.size) g m { s with c:=af,d:=s.d-out.length })=>hW.r HG.1 1 (by decide);clear hP2 hB2 hn hB hS hGr hw hlo fz  hout hfd haf;have c5:=c5;by_cases hpt:0<s.f
   . have tp:decide ((s.f:Int) > 0)=true:=aV (by omega);go_wp2_with fail;refine(Mj w2 _ gt t ao cap n (out.drop s.d) tQ.a HB2.o O5.o.symm (by omega)).mono ?_;rintro e w3 ⟨rfl,hO3,pW⟩;obtain⟨hW3,hF3⟩:=tQ.j hO3 pW;obtain⟨c4',c5',_,fz⟩:=hF3.a;have f4':=fz 4;have sG:=hO3;have HW3:=aa hW3;have HF3:=aa hF3;have HT3:=aa pW
     have c5':=c5';cases fd with
     | false =>
       go_wp2;refine aR (results_none rfl _ _ _) rfl ?_;refine⟨rfl,?_⟩;rw[hN,if_pos hpt];show mv w S So g gt m { s with c:=af,d:=s.d-out.length,b:=0 } (dA t (iv (out.drop s.d)++[])) w3;rw[eN,DI];have:({ s with c:=af,d:=s.d-out.length,b:=0 }:br)={ s with c:=af,d:=s.d-out.length }:=by have:=HG.2;cases s;simp only at this;subst this;rfl
       rw[this];exact HW3.o
     | true =>
       obtain⟨hm1,hm2⟩:=HMv w3 HF3.o;have hTo:=sG.a hm2 (fun k e e2=>by
        rcases e with e | e
        . exact tQ.c k e2.1 e.1
        . have:=e2.2;have:=tQ.d.b;omega)
       have Z4:=hm1;have HM2:=aa hm2
       have Z5:=hm1.a.2.1;have Z5:=Z5;go_wp2_with fail;refine(zk _ _ gt _ 6 ⟨#[]⟩ ⟨#[]⟩ ⟨#[]⟩ 0 hTo (by decide) (by show t.b.length<=90000;omega)).mono ?_;rintro e w5 ⟨rfl,yT,xI⟩;have AL:=yT;have HT5:=aa xI
       go_wp2;go_end0
       refine⟨rfl,?_⟩;rw[hN,if_pos hpt];show mv w S So g gt m { s with c:=af,d:=s.d-out.length,b:=1 } (dA t (iv (out.drop s.d)++[uN])) w5;rw[DG,DI];have hz:=HT3.o.b;have hz0:=tQ.d.b;have hF5:=Z4.d HT5.o (fun k e e2=>by
        rcases e2 with e2 | e2
        . exact tQ.c k e.1 e2.1
        . have:=e.2;omega)
       refine .mk _ _ hF5 AL (fun k e e2=>?_) (fun _ e=>Or.inl e.1) (fun k e=>?_) (((tQ.d.a HT3.o (fun _ e _=>Or.inr e.1)).a HM2.o (fun _ e _=>Or.inl e.1)).a HT5.o (fun i e hi=>?_))
       . rcases e2 with e2 | e2
         . rcases e2 with e2 | e2
           . exact tQ.c k e.1 e2.1
           . have:=e.2;omega
         . have:=e.2;simp at e2;omega
       . rcases e with e | e
         . rcases e with e | e
           . exact Or.inl e.1
           . exact Or.inr (by omega)
         . exact Or.inr (by simp at e;omega)
       . rcases e with e | e
         . exact Or.inr e.1
         . omega
   . have tp:decide ((s.f:Int) > 0)=false:=aW (by omega);cases fd with
     | false =>
       go_wp2;refine aR (results_none rfl _ _ _) rfl ?_;refine⟨rfl,?_⟩;rw[hN,if_neg hpt];show mv w S So g gt m { s with c:=af,d:=s.d-out.length,b:=0 } t w2;have:({ s with c:=af,d:=s.d-out.length,b:=0 }:br)={ s with c:=af,d:=s.d-out.length }:=by have:=HG.2;cases s;simp only at this;subst this;rfl
       rw[this];exact tQ.q
     | true =>
       obtain⟨hm1,hm2⟩:=HMv w2 tQ.b;have Z4:=hm1;have HM2:=aa hm2
       have Z5:=hm1.a.2.1;have Z5:=Z5;go_wp2;go_end0
       refine⟨rfl,?_⟩;rw[hN,if_neg hpt];exact(tQ.e Z4 HM2.o).q
theorem dX.lH {w:X}{g:Nat}{f ln:Value}{fo:ai}{nf gG:Nat}{e pl c d:Int}(h:dX w g f e ln fo nf gG pl c d)(a b:Int):
 dX (((((((w.setCell ⟨g,0,U⟩ (Q U)).setCell ⟨g,1,U⟩ (I J 0)).setCell ⟨g,2,U⟩ (Q U)).setCell ⟨g,3,U⟩ (Z U 0 0)).setCell ⟨g,4,U⟩ (I J a)).setCell ⟨g,5,U⟩ (I J 0)).setCell ⟨g,6,U⟩ (I J b)) g (Q U) 0 (Q U) U 0 0 a 0 b ∧
 al (fun k=>k=g) w (((((((w.setCell ⟨g,0,U⟩ (Q U)).setCell ⟨g,1,U⟩ (I J 0)).setCell ⟨g,2,U⟩ (Q U)).setCell ⟨g,3,U⟩ (Z U 0 0)).setCell ⟨g,4,U⟩ (I J a)).setCell ⟨g,5,U⟩ (I J 0)).setCell ⟨g,6,U⟩ (I J b)):=by
 have i:dX (w.setCell ⟨g,0,U⟩ (Q U)) g (Q U) e ln fo nf gG pl c d:=⟨by rw[aQ w g 0 _ _ _ h.b];rfl⟩;have j:=i.mh 0;have l:dX (((w.setCell ⟨g,0,U⟩ (Q U)).setCell ⟨g,1,U⟩ (I J 0)).setCell ⟨g,2,U⟩ (Q U)) g (Q U) 0 (Q U) fo nf gG pl c d:=⟨by rw[aQ _ g 2 _ _ _ j.b];rfl⟩;have m:=((l.ku U 0 0).B a).jD 0;refine⟨⟨by rw[aQ _ g 6 _ _ _ m.b];rfl⟩,gX g [Q U,I J 0,Q U,Z U 0 0,I J a,I J 0,I J b] 0 w⟩
theorem Vh (w:X)(S So:Nat->Prop)(g gt:Nat)(m:ae)(s:br)(c:UInt8)(t:dL)(h:dQ w S g m s)(r:iS s)(N:s.b=1∨s.b=2∨s.b=3∨s.b=4)(hO:eA w So gt t)(hd:∀k,S k->¬So k)(hes:t.b.length<=80000):
 Calls prog 314 #[Q (M ⟨g,0,U⟩),Q (M ⟨gt,0,U⟩),I .u8 c.toNat] w fun e w'=>yz w S So g gt m s c t e w':=by
 have T:=sT.f h hO hd;have hN:=Kb m N r.1 c;have u:=SU w s.b c N;cases T.b with
 | dead W v row=>exact absurd r W
 | live W v gs gl p fo gG D row inn =>
   have l:=T;have z:=aa hN;have mX:=aa row;have HL:=aa r;have d:=aa v
   have c4:=row.q;have f4:=row.a 4
   have hlt:=row.e;have B:¬So g:=hd g v.1;generalize hx:(ix s.b c).1=x at *;generalize hy:(ix s.b c).2=y at *;by_cases b:y=0
   . subst b;by_cases f:x=6
     . subst f;have a:=mX.o.B 6;have c0':=a.j;have c1':=a.y;have c2':=a.jN;have c3':=a.E;have c4':=a.q;have c5':=a.r;have c6':=a.G
       have f0':=a.a 0;have f1':=a.a 1;have f2':=a.a 2;have f3':=a.a 3;have f4':=a.a 4;have f5':=a.a 5;have f6':=a.a 6
       obtain⟨VI,FR⟩:=a.lH 6 0;have Lj:=VI;have Z6:=aa FR
       have hT:=((dX.d w g 4 (I J 6)).a FR (fun _ e _=>e)).e (S':=fun k=>S k∧k<w.heap.size) (fun k e=>by subst e;exact d.o);have i:dQ _ (fun k=>S k∧k<w.heap.size) g m uP:=.dead Ka d.o Lj;have n:=l.e i hT;go_enter func314,ntmps314;go_wp2_with fail;refine u.mono ?_;rintro e j ⟨rfl,q⟩;subst q;go_wp2_with fail;refine(zk _ _ gt t 3 ⟨#[]⟩ ⟨#[]⟩ ⟨#[]⟩ 0 n.a (by decide) (by omega)).mono ?_;rintro e w5 ⟨rfl,yT,xI⟩;have C:=(n.j yT xI).1;go_wp2;go_ret;refine .ok rfl ?_;rw[z.o];exact C
     . have t6:((x:Int)==6)=F:=by rw[aO];omega
       obtain⟨G,H⟩:=l.b.r HL.o x f;have C:=(l.e G H).q;go_enter func314,ntmps314;go_wp2_with fail;refine u.mono ?_;rintro e j ⟨rfl,q⟩;subst q;go_wp2;go_ret;refine .ok rfl ?_;rw[z.o,if_neg (fun e=>e rfl),if_neg f];exact C
   . have hx0:x≠6:=fun e=>by
      have:=Kc s.b c;rw[hx,hy] at this;exact b (this e)
     have t6:((x:Int)==6)=F:=by rw[aO];omega
     have L:=mX.o.B (x:Int);go_enter func314,ntmps314;go_wp2_with fail;refine u.mono ?_;rintro e j ⟨rfl,q⟩;subst q;have HT:al (fun k=>S k∧k<j.heap.size) j (j.setCell ⟨g,4,U⟩ (I J (x:Int))):=(dX.d j g 4 _).e (fun k e=>by subst e;exact d.o);go_wp2;go_ret;refine .fail y b (by rw[z.o,if_pos b]) rfl ?_;exact .mk _ _ _ _ _ _ _ _ _ _ L (l.a.a HT (fun k e e2=>l.c k e2.1 e.1)) (fun e=>B e.1) (fun k e=>A e.1) (HT.e (fun k e=>A e.1))
inductive Ul (w:X)(g:Nat)(fo:ai)(nf:Nat)(fs:List dR)(t:ae)(e:Ending)(w':X):Prop
 | many (h:nf=16) (he:e=Y (I J 8)) (hw:w'=w)
 | bad (h:nf≠16) (c:Nat) (hc:c≠0) (hd:(aP t).a=c) (he:e=Y (I J (c:Int))) (hB:Below w.heap.size w w')
 | ok (h:nf≠16) (hd:(aP t).a=0) (w3:X) (g3 iq:Nat) (he:e=Y (I J 0)) (hw:w'=w3.setCell ⟨g,3,U⟩ (Z (M ⟨g3,0,U⟩) (nf+1) iq)) (hO:aG w3 0 128 2 (M ⟨g3,0,U⟩) iq (nf+1) (aI (bL (fs++[((aP t).b,(aP t).c)])))) (hT:al (fun k=>au fo=M k) w w3) (hat:au fo=M g3∨w.heap.size<=g3)
theorem O9 (w:X)(g:Nat)(fo:ai)(nf gG:Nat)(D:List dR)(t:ag)(c3:w.cell? ⟨g,3,U⟩=M (Z fo nf gG))(f3:w.frozen? ⟨g,3,U⟩=F)(s:au fo≠M g)(ho:aG w 0 128 2 fo gG nf (aI (bL D)))(hn:nf<=16)(ht:t.size<=2000):
 Calls prog 339 #[Q (M ⟨g,2,U⟩),V t] w fun e w'=>Ul w g fo nf D t.data.toList e w':=by
 by_cases l:nf=16
 . have L:((nf:Int)==16)=true:=by rw[l];rfl
   go_enter func339,ntmps339;go_wp2;go_ret;exact .many l rfl rfl
 . have L:((nf:Int)==16)=F:=by rw[aO];omega
   have f:=zs t w ht;unfold qT at f;have p:=bI w _ c3;by_cases N:(aP t.data.toList).a=0
   . rw[N] at f;obtain⟨c,v⟩:∃c:ag,(⟨(aP t.data.toList).b.toArray⟩:ag)=c:=⟨_,rfl⟩;obtain⟨d,x⟩:∃d:ag,(⟨(aP t.data.toList).c.toArray⟩:ag)=d:=⟨_,rfl⟩;rw[v,x] at f;have T:Hid (aI (bL D)++[V c,V d]=aI (bL (D++[((aP t.data.toList).b,(aP t.data.toList).c)]))):=by
      unfold Hid;rw[BQ,wI,<-v,<-x];rfl
     have hK:∀W,Below w.heap.size w W->W.cell? ⟨g,3,U⟩=M (Z fo nf gG):=fun W y=>(y.cell p).trans c3;have hK2:∀W G,Below w.heap.size w W->W.grownBy G (Value.slice fo nf gG).ownBlock->G.cell? ⟨g,3,U⟩=M (Z fo nf gG)∧G.frozen? ⟨g,3,U⟩=F:=fun W G y r=>by
      rw[dI] at r;have hb:W.heap[g]? = w.heap[g]?:=y.block g p;refine⟨r.cell (hK W y) (fun e=>s e.symm),?_⟩;rw[wA (a:=⟨g,3,U⟩) ((r.block g (ml p y.size) (fun e=>s e.symm)).trans hb)];exact f3
     have HK:=hK;have z:=aa hK2
     obtain⟨i0,hi0,hz0,hz1,hz2⟩:=info_parts pv;have Hi:=hi0;have kT:=aa hz0;have kL:=aa hz1;have kU:=aa hz2
     have HN:nf+1<=maxLen∧(nf+1)*32<=140737488355328:=⟨by unfold maxLen;omega,by omega⟩;go_enter func339,ntmps339;go_wp2_with fail;refine f.mono ?_;rintro e m ⟨rfl,B⟩;have q:Below w.heap.size w (m.alloc (K #[V c,V d] 128)):=B.trans ((aq _ _).alloc B.size _);have C:Below w.heap.size w ((m.alloc (K #[V c,V d] 128)).alloc (K #[V c,V d] 128)):=q.trans ((aq _ _).alloc q.size _);have n:Below w.heap.size w ((m.alloc (K #[V c,V d] 128)).alloc (K #[V c,V d] 128)).drew:=C.trans ⟨rfl,rfl,rfl,ak _,fun _ _=>rfl⟩;have k3:=HK _ q;have j3:=HK _ C;have XP:=aG.below ho n (fun a e=>(ho.d a e).2);have VZ:∀j u,([V c,V d]:List Value)[j]? = M u->((m.alloc (K #[V c,V d] 128)).alloc (K #[V c,V d] 128)).drew.cell? (Addr.add ⟨m.heap.size+1,0,U⟩ j)=M u:=fun j u H=>by
      rw[ga,dV];show((m.alloc (K #[V c,V d] 128)).alloc (K #[V c,V d] 128)).cell? _=_;rw[World.cell?_alloc_at _ _ _ _ (by simp),mS];exact H
     have HS:=B.size;go_wp2;go_region_law
      ((refine step_append_lies _ (by rfl) _ _ _ (by rfl) 0 128 i0 (.agg #[V ⟨#[]⟩,V ⟨#[]⟩]) 2 32 underlying80 Hi kT.o kL.o kU.o (by rfl) (by decide) (Z fo nf gG) nf _ (by rfl) XP ⟨m.heap.size+1,0,U⟩ 1 1 [V c,V d] (by rfl) (by rfl) VZ (fun u H=>by simp at H;rcases H with rfl | rfl <;> rfl) (by decide) HN.1 HN.2 (ax _) (m.heap.size+2) (by simp) ?_;intro g3 iq w3 i b kr hlt3;have Av:=aa b;have sG:=aa i;have Lc:=aa kr;have q3:=(z.o _ _ n b).1;have qf:=(z.o _ _ n b).2;clear b i kr))
     all_goals
      go_wp2;go_ret;have r:=Av.o;have hA:=Lc.o
      rw[dI] at r hA;refine .ok l N w3 g3 iq rfl rfl (by rw[<-T.o];exact sG.o) ((al.d n).a (al.q (S:=fun k=>au fo=M k) r (fun k e=>e)) (fun _ e _=>e)) ?_;rcases hA with e | e
      . exact A e
      . exact R (by have:=HS;omega)
   . have tc:(((aP t.data.toList).a:Int)==0)=F:=by rw[aO];omega
     generalize hcc:(aP t.data.toList).a=cc at *;go_enter func339,ntmps339;go_wp2_with fail;refine f.mono ?_;rintro e m ⟨rfl,B⟩;have D8:=ar B ((aq _ _).alloc (ak _) (K #[V ⟨(aP t.data.toList).b.toArray⟩,V ⟨(aP t.data.toList).c.toArray⟩] 128));go_wp2;go_ret;exact .bad l cc N hcc rfl D8
inductive uG (w:X)(S So:Nat->Prop)(g gt:Nat)(m:ae)(s:br)(tx:ae)(t:dL)(e:Ending)(w':X):Prop
 | ok (he:e=Y (I J 0)) (h:mv w S So g gt m (ef s tx).1 (dA t (ef s tx).2) w')
 | fail (k:Nat) (hk:k≠0) (hN:ef s tx=jb k) (he:e=Y (I J (k:Int))) (h:vH w S So g gt t w')
theorem Pa {s:br}{p:oV}(b:kS s.e=.inr p)(a:s.f≠12):ef s []=({ s with e:=[],f:=s.f+1,b:=0,c:=2,d:=2 },[xw p]):=by
 have:=Kd (s:=s) b a;exact this
theorem Sk {s:br}{c:Nat}(a:kS s.e=.inl c):ef s []=jb c:=by
 unfold ef;rw[if_neg (fun h=>h rfl),a]
theorem Sm {s:br}{p:oV}(b:kS s.e=.inr p)(a:s.f=12):ef s []=jb 8:=by grind [kS,ef,jb]
theorem Sn (w:X)(S So:Nat->Prop)(g gt:Nat)(m:ae)(s:br)(t:dL)(h:dQ w S g m s)(hl:iS s)(h0:s.c=0)(hm:s.e.length<=16)(hsh:∀f∈s.e,f.1.length<=200∧f.2.length<=200)(hpt:s.f<=12)(hO:eA w So gt t)(hd:∀k,S k->¬So k)(h2:m.take 2=[13,10])(h3:3<=m.length)(hL:m.length<=1000)(hes:t.b.length<=80000):
 Calls prog 340 #[Q (M ⟨g,0,U⟩),Q (M ⟨gt,0,U⟩)] w fun e w'=>uG w S So g gt m s [] t e w':=by
 have hP:=sT.f h hO hd;cases hP.b with
 | dead h2 me row=>exact absurd hl h2
 | live hl2 me G gl p fo gG D row inn =>
   have v:al (fun k=>k=g) w (w.setCell ⟨g,3,U⟩ (Z U 0 0)):=dX.d w g 3 _;have r1:=row.ku U 0 0;have i0:jZ w (fun k=>(S k∧k<w.heap.size)∧k≠g) m { s with e:=[] } G gl p U 0 D:=⟨inn.d,inn.b,inn.e,inn.g,aG.f _ _ _ _,fun a e=>(by cases e)⟩;have i1:=i0.a v (fun k e=>e.2);have hV:=inn.f.a.q v (fun a e=>(inn.c a e).1.2);have hne:g≠G:=fun e=>inn.b.1.2 e.symm;have Lm:=Sg w g fo s.e.length gG row.E (row.a 3);have r:=aa (SJ (bL s.e) fo gG s.e.length _ hV (om _) (by omega) (fun q hq=>by
    unfold bL at hq;obtain⟨f,hf,rfl⟩:=jT.1 hq;have:=hsh f hf;refine⟨?_,?_⟩
    . show f.1.toArray.size<=_;rw[cN];omega
    . show f.2.toArray.size<=_;rw[cN];omega))
   rw[BG] at r;have HP:=hP;have x:=aa r1;have H:=aa i1;have y:=aa v;have z:=aa me;have HLv:=aa hl;have HH0:=aa h0
   have hlt:=row.e;have L:¬So g:=hd g me.1;have HM:m.take 2=[13,10]∧3<=m.length∧m.length<=1000:=⟨h2,h3,hL⟩;have N:∀(u:X),Below (w.setCell ⟨g,3,U⟩ (Z U 0 0)).heap.size (w.setCell ⟨g,3,U⟩ (Z U 0 0)) u->vH w S So g gt t u:=fun u hb=>by
    have hTd:=(HP.a.a y.o (fun k e e2=>by subst e2;exact L e.1)).e hb;exact .mk _ _ _ _ _ _ _ _ _ _ (x.o.jK hb) hTd (fun e=>L e.1) (fun k e=>A e.1) ((y.o.e (S':=fun k=>S k∨So k) (fun k e=>by subst e;exact A z.o.1)).a (al.d hb) (fun _ e _=>e))
   cases d:kS s.e with
   | inl k =>
     have hk:=Ke d;have T:=Sk d;rw[d] at r;unfold uO at r;simp only at r;have tc:((k:Int) != 0)=true:=by rw[cW];omega
     go_enter func340,ntmps340;go_wp2_with fail;refine Lm.mono ?_;rintro e w1 ⟨rfl,W⟩;subst W;go_wp2_with fail;refine r.o.mono ?_;rintro e n ⟨rfl,i⟩;have HF:=N _ (ar i ((aq _ _).alloc (ak _) (K #[V ⟨#[]⟩,V ⟨#[]⟩,V ⟨#[]⟩,Z U 0 0] 96)));go_wp2;go_ret;exact .fail k hk T rfl HF
   | inr c =>
     rw[d] at r;unfold uO at r;simp only at r;by_cases B:s.f=12
     . have T:=aa (Sm d B);have t12:((s.f:Int)==12)=true:=by rw[B];rfl
       go_enter func340,ntmps340;go_wp2_with fail;refine Lm.mono ?_;rintro e w1 ⟨rfl,W⟩;subst W;go_wp2_with fail;refine r.o.mono ?_;rintro e n ⟨rfl,i⟩;have j:=ar i ((aq _ _).alloc (ak _) (K #[V ⟨c.b.toArray⟩,V ⟨c.a.toArray⟩,V ⟨c.c.toArray⟩,Z U 0 0] 96));have HF:=N _ j;have c5:=(x.o.jK j).r;go_wp2;go_ret;exact .fail 8 (by decide) T rfl HF
     . have T:=aa (Pa d B);have t12:((s.f:Int)==12)=F:=by rw[aO];omega
       go_enter func340,ntmps340;go_wp2_with fail;refine Lm.mono ?_;rintro e w1 ⟨rfl,W⟩;subst W;go_wp2_with fail;refine r.o.mono ?_;rintro e n ⟨rfl,i⟩;have j:=ar i ((aq _ _).alloc (ak _) (K #[V ⟨c.b.toArray⟩,V ⟨c.a.toArray⟩,V ⟨c.c.toArray⟩,Z U 0 0] 96));have C:=bw n (K #[V ⟨c.b.toArray⟩,V ⟨c.a.toArray⟩,V ⟨c.c.toArray⟩,Z U 0 0] 96);have hw2:w.heap.size<=n.heap.size:=by have:=i.size;simpa using this
       go_upto_region 2 with fail
       generalize hW2:(n.alloc (K #[V ⟨c.b.toArray⟩,V ⟨c.a.toArray⟩,V ⟨c.c.toArray⟩,Z U 0 0] 96))=u at *;have r2:=x.o.jK j;have r3:=(r2.jD ((s.f:Int)+1)).B 0;have pW:al (fun k=>k=g) u ((u.setCell ⟨g,5,U⟩ (I J ((s.f:Int)+1))).setCell ⟨g,4,U⟩ (I J 0)):=(dX.d u g 5 _).a (dX.d _ g 4 _) (fun _ e _=>e);have i3:=(H.o.y j).a pW (fun k e=>e.2);have c5:=r2.r;have f5:=r2.a 5
       have c4:=(r2.jD ((s.f:Int)+1)).q;have f4:=(r2.jD ((s.f:Int)+1)).a 4
       have hSk:eC ((u.setCell ⟨g,5,U⟩ (I J ((s.f:Int)+1))).setCell ⟨g,4,U⟩ (I J 0)) G m 0 p:=by have:=i3.d;rw[show({ s with e:=[] }:br).c=0 from HH0.o] at this;exact this
       have HSb:=IT _ g G m p _ r3.j r3.y (r3.a 1) hne hSk HM.1 HM.2.1 (by have:=HM.2.2;omega);have HB3:=j;have ahq:=aa C;have HR3:=aa r3;have HT3:=aa pW;have HI3:=aa i3
       go_wp2_with fail;refine HSb.mono ?_;rintro e l ⟨w4,rfl,Ee,hS5,O4⟩;obtain⟨r5,t5⟩:=dQ.f (s:={ s with e:=[],f:=s.f+1,b:=0 }) (a2:=2) (S:=fun k=>S k∧k<w.heap.size) ⟨HLv.o.1,by show(0:Nat)≠6;decide⟩ z.o HR3.o (HI3.o.q rfl rfl rfl) hS5 O4;have e5:w4.setCell ⟨g,1,U⟩ (I J ((2:Nat):Int))=l:=Ee.symm;rw[e5] at r5 t5;have hgs:G<w.heap.size:=by have:=H.o.d.d;simpa using this
       have zL:∀{a b:X},al (fun k=>k=g) a b->al (fun k=>S k∧k<w.heap.size) a b:=fun hh=>hh.e (fun k e=>by subst e;exact z.o);have adN:al (fun k=>S k∧k<w.heap.size) w l:=(((zL y.o).a (al.d HB3) (fun _ e _=>e)).a (zL HT3.o) (fun _ e _=>e)).a t5 (fun _ e _=>e);have TM:=HP.e r5 adN;have q1:=HT3.o.j ahq.o (fun e=>by omega);have q2:w4.heap[n.heap.size]? = _:=(O4.block _ (bH.1 q1).1 (fun e=>by injection e with e;omega)).trans q1;have q3:l.heap[n.heap.size]? = M (K #[V ⟨c.b.toArray⟩,V ⟨c.a.toArray⟩,V ⟨c.c.toArray⟩,Z U 0 0] 96 (0,0)):=by
        rw[<-e5];exact(dX.d w4 g 1 _).j q2 (fun e=>by omega)
       have p0:l.cell? ⟨n.heap.size,0,U⟩=M (V ⟨c.b.toArray⟩):=am l _ 0 _ _ _ q3;have p1:l.cell? ⟨n.heap.size,1,U⟩=M (V ⟨c.a.toArray⟩):=am l _ 1 _ _ _ q3;have p2:l.cell? ⟨n.heap.size,2,U⟩=M (V ⟨c.c.toArray⟩):=am l _ 2 _ _ _ q3;have p3:l.cell? ⟨n.heap.size,3,U⟩=M (Z U 0 0):=am l _ 3 _ _ _ q3;have HAd:=zk l _ gt t 5 ⟨c.b.toArray⟩ ⟨c.a.toArray⟩ ⟨c.c.toArray⟩ 0 TM.a (by decide) (by omega);clear r5 t5 e5 adN  q1 q2 q3 zL Ee hS5 O4 hgs;go_wp2_with fail;refine HAd.mono ?_;rintro e w6 ⟨rfl,vZ,yX⟩;have HW:=(TM.j vZ yX).1;clear vZ yX;go_wp2;go_ret;refine .ok rfl ?_;rw[T];exact HW
theorem vH.a {w0 w w':X}{S So f j:Nat->Prop}{g gt:Nat}{l:dL}(a:∀k,f k->S k∨w0.heap.size<=k)(m:∀k,j k->So k∨w0.heap.size<=k)(n:al (fun k=>S k∨So k) w0 w)(o:vH w f j g gt l w'):vH w0 S So g gt l w':=by
 obtain⟨b,p,q,r,pl,s,t,u,v,x,y,c,d,z,B⟩:=o;have C:=n.b;refine .mk b p q r pl s t u v x y c d (fun k e=>?_) (n.a B (fun i e D=>?_))
 . rcases z k e with e | e
   . exact m k e
   . exact R (by omega)
 . rcases e with e | e
   . rcases a i e with e | e
     . exact A e
     . omega
   . rcases m i e with e | e
     . exact R e
     . omega
theorem uG.a {w0 w w':X}{S So d f:Nat->Prop}{g gt:Nat}{m:ae}{s i:br}{c:UInt8}{j:ae}{t:dL}{e:Ending}(l:cC m s c=ef i j)(a:∀k,d k->S k∨w0.heap.size<=k)(n:∀k,f k->So k∨w0.heap.size<=k)(o:al (fun k=>S k∨So k) w0 w)(h:uG w d f g gt m i j t e w'):yz w0 S So g gt m s c t e w':=by
 cases h with
 | ok b h=>exact .ok b (by rw[l];exact mv.a a n o h)
 | fail k p q b h=>exact .fail k p (l.trans q) b (vH.a a n o h)
theorem LG (w:X)(S So:Nat->Prop)(g gt:Nat)(m:ae)(s:br)(d:ae)(t:dL)(h:dQ w S g m s)(hl:iS s)(hm:s.e.length<=16)(hO:eA w So gt t)(hd:∀k,S k->¬So k)(W:d≠[])(hz:d.length<=200):
 Calls prog 339 #[Q (M ⟨g,2,U⟩),V ⟨d.toArray⟩] w fun e w'=>uG w S So g gt m s d t e w':=by
 have N:=sT.f h hO hd;cases N.b with
 | dead h2 T row=>exact absurd hl h2
 | live hl2 T gs gl p z gG D row inn =>
   have v:¬So g:=hd g T.1;refine(O9 w g z s.e.length gG s.e ⟨d.toArray⟩ row.E (row.a 3) (fun e=>?_) inn.f hm (by show d.toArray.size<=_;rw[cN];omega)).mono ?_
   . cases z with
     | none=>cases e
     | some a=>injection e with e;exact(inn.c a rfl).1.2 e
   . intro e w' hF;have B:ef s d=if s.e.length=16 then jb 8 else if (aP d).a≠0 then jb (aP d).a else ({ s with e:=s.e++[((aP d).b,(aP d).c)] },[]):=by
      unfold ef;rw[if_pos W]
     cases hF with
     | many q G hw =>
       rw[if_pos q] at B;subst hw;exact .fail 8 (by decide) B G (.mk _ _ _ _ _ _ _ _ _ _ row N.a (fun e=>v e.1) (fun k e=>A e.1) (al.r _ _))
     | bad q c hc n G hB =>
       have n:=n;rw[if_neg q,n,if_pos hc] at B;exact .fail c hc B G (.mk _ _ _ _ _ _ _ _ _ _ (row.jK hB) (N.a.e hB) (fun e=>v e.1) (fun k e=>A e.1) (al.d hB))
     | ok q n r o x G hw H C y =>
       have n:=n;rw[if_neg q,n,if_neg (fun e=>e rfl)] at B;refine .ok G ?_;rw[B];subst hw;have i:∀k,au z=M k->∃a,z=M a∧a.block=k:=fun k e=>by
        cases z with
        | none=>cases e
        | some a=>injection e with e;exact⟨a,rfl,e⟩
       have hz3:=C.b;have yA:al (fun k=>k=g) r (r.setCell ⟨g,3,U⟩ (Z (M ⟨o,0,U⟩) (s.e.length+1) x)):=dX.d r g 3 _;have hlt:=row.e;have r3:=(row.f C (fun e=>by obtain⟨a,j,l⟩:=i g e;exact(inn.c a j).1.2 l)).ku (M ⟨o,0,U⟩) (s.e.length+1) x;have hg3:o<r.heap.size:=(H.d _ rfl).2;have alc:o≠g:=fun e=>by
        rcases y with f | f
        . obtain⟨a,j,l⟩:=i o f;exact(inn.c a j).1.2 (l.trans e)
        . omega
       have u:(s.e++[((aP d).b,(aP d).c)]).length=s.e.length+1:=by rw[aF];rfl
       have i3:jZ r (fun k=>(S k∧k<w.heap.size∨w.heap.size<=k∧k<r.heap.size)∧k≠g) m { s with e:=s.e++[((aP d).b,(aP d).c)] } gs gl p (M ⟨o,0,U⟩) x (fun k=>D k∧k<w.heap.size):=by
        refine⟨inn.d.f C ?_ ?_ ?_,⟨⟨A inn.b.1.1,inn.b.1.2⟩,⟨A inn.b.2.1.1,inn.b.2.1.2⟩,fun a e=>⟨A (inn.b.2.2 a e).1,(inn.b.2.2 a e).2⟩⟩,⟨fun e=>inn.e.1 e.1,fun e=>inn.e.2.1 e.1,fun a e f=>inn.e.2.2 a e f.1⟩,?_,?_,?_⟩
        . intro e;obtain⟨a,j,l⟩:=i _ e;exact(inn.j a j).1 l
        . intro e;obtain⟨a,j,l⟩:=i _ e;exact(inn.j a j).2.1 l
        . intro b hb e;obtain⟨a,j,l⟩:=i _ e;exact(inn.j a j).2.2 b hb l
        . have:=(inn.g.a (S':=fun k=>((S k∧k<w.heap.size∨w.heap.size<=k∧k<r.heap.size)∧k≠g)∧(D k∧k<w.heap.size)) (fun k hk e=>⟨⟨A e.1.1,e.1.2⟩,e.2,hk⟩));exact this.d C (fun k e f=>by obtain⟨a,j,l⟩:=i _ f;exact(inn.c a j).2 (l▸e.2.1))
        . show aG r 0 128 2 (M ⟨o,0,U⟩) x (s.e++[((aP d).b,(aP d).c)]).length _;rw[u];exact H
        . intro a e;injection e with e;subst e;refine⟨⟨?_,alc⟩,fun f=>?_⟩
          . rcases y with f | f
            . obtain⟨a,j,l⟩:=i o f;exact A (l▸(inn.c a j).1.1)
            . exact R ⟨f,hg3⟩
          . rcases y with e3 | e3
            . obtain⟨a,j,l⟩:=i o e3;exact(inn.c a j).2 (l▸f.1)
            . have h9:o<w.heap.size:=f.2;omega
       have i4:=i3.a yA (fun k e=>e.2);have r4:dX (r.setCell ⟨g,3,U⟩ (Z (M ⟨o,0,U⟩) (s.e.length+1) x)) g (Q (M ⟨gs,0,U⟩)) (s.d:Int) (Q (M ⟨gl,0,U⟩)) (M ⟨o,0,U⟩) (s.e++[((aP d).b,(aP d).c)]).length x (s.b:Int) (s.f:Int) (s.g:Int):=by rw[u];exact r3
       have L:∀k,au z=M k->S k∧k<w.heap.size:=fun k e=>by obtain⟨a,j,l⟩:=i k e;exact l▸(inn.c a j).1.1
       refine .mk (fun k=>S k∧k<w.heap.size∨w.heap.size<=k∧k<r.heap.size) (fun k=>So k∧k<w.heap.size) (.live (s:={ s with e:=s.e++[((aP d).b,(aP d).c)] }) hl (A T) gs gl p _ x _ r4 i4) ((N.a.a C (fun k e f=>hd k (L k f).1 e.1)).a yA (fun k e f=>by subst f;exact v e.1)) (fun k e f=>?_) (fun k e=>?_) (fun k e=>A e.1) ?_
       . rcases e with e | e
         . exact hd k e.1 f.1
         . have:=f.2;omega
       . rcases e with e | e
         . exact A e.1
         . exact R e.1
       . exact(C.e (S':=fun k=>S k∨So k) (fun k e=>A (L k e).1)).a (yA.e (S':=fun k=>S k∨So k) (fun k e=>by subst e;exact A T.1)) (fun _ e _=>e)
theorem dQ.y {w f:X}{S:Nat->Prop}{g gs i:Nat}{m:ae}{s:br}{p:kp}{fo:ai}{gG:Nat}{D:Nat->Prop}{d:cw}(n:iS s)(o:S g)(b:∀k,S k->k<w.heap.size)(row:dX w g (Q (M ⟨gs,0,U⟩)) (s.d:Int) (Q (M ⟨i,0,U⟩)) fo s.e.length gG (s.b:Int) (s.f:Int) (s.g:Int))(inn:jZ w (fun k=>S k∧k≠g) m s gs i p fo gG D)
 (q:cQ f (aB (fun k=>(S k∧k≠g)∧D k) w) i d) (j:al (fun k=>(S k∧k≠g)∧D k) w f):dQ f (fun k=>S k∨w.heap.size<=k∧k<f.heap.size) g m { s with a:=d }:=by
 have r:=row.e;refine .live n (A o) gs i p fo gG (fun k=>D k∧k<w.heap.size∨w.heap.size<=k) (row.f j (fun e=>e.1.2 rfl)) ⟨inn.d.f j (fun e=>inn.e.1 e.2) (fun e=>inn.e.2.1 e.2) (fun a e c=>inn.e.2.2 a e c.2),⟨⟨A inn.b.1.1,inn.b.1.2⟩,⟨A inn.b.2.1.1,inn.b.2.1.2⟩,fun a e=>⟨A (inn.b.2.2 a e).1,(inn.b.2.2 a e).2⟩⟩,⟨?_,?_,?_⟩,q.a (fun k t e=>?_),inn.f.e j (fun a e c=>(inn.c a e).2 c.2),fun a e=>⟨⟨A (inn.c a e).1.1,(inn.c a e).1.2⟩,?_⟩⟩
 . intro e;rcases e with e | e
   . exact inn.e.1 e.1
   . have:=b _ inn.b.1.1;omega
 . intro e;rcases e with e | e
   . exact inn.e.2.1 e.1
   . have:=b _ inn.b.2.1.1;omega
 . intro a l e;rcases e with e | e
   . exact inn.e.2.2 a l e.1
   . have:=b _ (inn.b.2.2 a l).1;omega
 . rcases e with e | e
   . exact⟨⟨A e.1.1,e.1.2⟩,A ⟨e.2,b k e.1.1⟩⟩
   . exact⟨⟨R ⟨e,t⟩,by omega⟩,R e⟩
 . intro c;rcases c with c | c
   . exact(inn.c a e).2 c.1
   . have:=b _ (inn.c a e).1.1;omega
theorem Ml (w:X)(S So:Nat->Prop)(g gt:Nat)(m:ae)(s:br)(c:UInt8)(t:dL)(h:dQ w S g m s)(G:iS s)(hp:s.b=5)(H:ir m s)(hO:eA w So gt t)(hd:∀k,S k->¬So k)(L:m.take 2=[13,10])(h3:3<=m.length)(hL:m.length<=1000)(N:t.b.length<=80000):
 Calls prog 313 #[Q (M ⟨g,0,U⟩),Q (M ⟨gt,0,U⟩),I .u8 c.toNat] w fun e w'=>yz w S So g gt m s c t e w':=by
 have T:=sT.f h hO hd;have W:=J9 m hp G.1 c;cases T.b with
 | dead L me row=>exact absurd G L
 | live hl2 me gs gl p fo gG D row inn =>
   have n:=yR w _ gl s.a c inn.g H.b.c;unfold kX at n;have c2:=row.jN;have HP:=T;have q:=aa W;have mX:=aa row
   have hgo:¬So g:=hd g me.1;have r:∀a,cQ a (aB (fun k=>((S k∧k<w.heap.size)∧k≠g)∧D k) w) gl (bu s.a c)->al (fun k=>((S k∧k<w.heap.size)∧k≠g)∧D k) w a->dQ a (fun k=>(S k∧k<w.heap.size)∨w.heap.size<=k∧k<a.heap.size) g m { s with a:=bu s.a c }∧eA a (fun k=>So k∧k<w.heap.size) gt t∧al (fun k=>S k∨So k) w a:=fun a d b =>
    ⟨dQ.y G me (fun k e=>e.2) row inn d b,T.a.a b (fun k e e2=>hd k e2.1.1.1 e.1),b.e (fun k e=>A e.1.1.1)⟩
   have f:∀a:X,∀k,((S k∧k<w.heap.size)∨w.heap.size<=k∧k<a.heap.size)->¬(So k∧k<w.heap.size):=fun a k e e2=>by
    rcases e with e | e
    . exact hd k e.1 e2.1
    . omega
   have z:=H;have B:=aa G;have HPl:=aa hp;have HM:Hid (m.take 2=[13,10]∧3<=m.length∧m.length<=1000):=⟨L,h3,hL⟩
   by_cases u:(bu s.a c).a=0
   . have tc:(((bu s.a c).a:Int) != 0)=F:=by rw[u];rfl
     cases j:fW s.a c with
     | false =>
       rw[j] at n q;rw[if_neg (fun e=>e u),if_neg (by simp)] at q;generalize C:((bu s.a c).a:Int)=cd at n tc;have HCd:Hid (cd=0):=by unfold Hid;rw[<-C,u];rfl
       generalize (⟨(cY s.a c).toArray⟩:ag)=tx at *;go_enter func313,ntmps313;go_wp2_with fail;refine n.mono ?_;rintro e a ⟨rfl,d,b⟩;have i:=r a d b;go_wp2;go_ret;refine .ok (by rw[HCd.o];rfl) ?_;rw[q.o];exact .mk _ _ i.1 i.2.1 (f a) (fun k e=>e.imp (fun e=>e.1) (fun e=>e.1)) (fun k e=>A e.1) i.2.2
     | true =>
       rw[j] at n q;rw[if_neg (fun e=>e u),if_pos rfl] at q;have hsh:=(ye (c:=c) H.b).1;have sH:=DM j;rw[u] at n;by_cases x:cY s.a c=[]
       . have HB:∀a,dQ a (fun k=>(S k∧k<w.heap.size)∨w.heap.size<=k∧k<a.heap.size) g m { s with a:=bu s.a c }->eA a (fun k=>So k∧k<w.heap.size) gt t->Calls prog 340 #[Q (M ⟨g,0,U⟩),Q (M ⟨gt,0,U⟩)] a fun e w'=>uG a (fun k=>(S k∧k<w.heap.size)∨w.heap.size<=k∧k<a.heap.size) (fun k=>So k∧k<w.heap.size) g gt m { s with a:=bu s.a c } [] t e w':=fun a y uw =>
          Sn a _ _ g gt m { s with a:=bu s.a c } t y B.o (z.h (by rw[HPl.o];decide)) z.c z.e z.d uw (f a) HM.o.1 HM.o.2.1 HM.o.2.2 N
         rw[x] at n q;go_enter func313,ntmps313;go_wp2_with fail;refine n.mono ?_;rintro e a ⟨rfl,d,b⟩;have i:=r a d b;go_wp2_with fail;refine(HB a i.1 i.2.1).mono ?_;intro e w2 l;have HK:=uG.a (w0:=w) q.o (S:=S) (So:=So) (fun k e=>e.imp (fun e=>e.1) (fun e=>e.1)) (fun k e=>A e.1) i.2.2 l;obtain⟨v,hv⟩:∃v,e=Y v:=by cases l with
          | ok j h=>exact⟨_,j⟩
          | fail k hk W j h=>exact⟨_,j⟩
         subst hv;go_wp2;go_ret;exact HK
       . have ttx:((⟨(cY s.a c).toArray⟩:ag).toList==[])=F:=by rw[aO,Lib.toList_data];exact x
         have HB:∀a,dQ a (fun k=>(S k∧k<w.heap.size)∨w.heap.size<=k∧k<a.heap.size) g m { s with a:=bu s.a c }->eA a (fun k=>So k∧k<w.heap.size) gt t->Calls prog 339 #[Q (M ⟨g,2,U⟩),V ⟨(cY s.a c).toArray⟩] a fun e w'=>uG a (fun k=>(S k∧k<w.heap.size)∨w.heap.size<=k∧k<a.heap.size) (fun k=>So k∧k<w.heap.size) g gt m { s with a:=bu s.a c } (cY s.a c) t e w':=fun a y uw =>
          LG a _ _ g gt m { s with a:=bu s.a c } (cY s.a c) t y B.o z.c uw (f a) x hsh
         generalize (⟨(cY s.a c).toArray⟩:ag)=tx at *;go_enter func313,ntmps313;go_wp2_with fail;refine n.mono ?_;rintro e a ⟨rfl,d,b⟩;have i:=r a d b;go_wp2_with fail;refine(HB a i.1 i.2.1).mono ?_;intro e w2 l;have HK:=uG.a (w0:=w) q.o (S:=S) (So:=So) (fun k e=>e.imp (fun e=>e.1) (fun e=>e.1)) (fun k e=>A e.1) i.2.2 l;obtain⟨v,hv⟩:∃v,e=Y v:=by cases l with
          | ok j h=>exact⟨_,j⟩
          | fail k hk W j h=>exact⟨_,j⟩
         subst hv;go_wp2;go_ret;exact HK
   . have tc:(((bu s.a c).a:Int) != 0)=true:=by rw[cW];omega
     rw[if_pos u] at q;generalize C:(bu s.a c).a=cd at *;generalize (⟨(cY s.a c).toArray⟩:ag)=tx at *;generalize fW s.a c=en at *;go_enter func313,ntmps313;go_wp2_with fail;refine n.mono ?_;rintro e a ⟨rfl,d,b⟩;have i:=r a d b;have HR1:=mX.o.f b (fun e=>e.1.2 rfl);go_wp2;go_ret;exact .fail cd u q.o rfl (.mk _ _ _ _ _ _ _ _ _ _ HR1 i.2.1 (fun e=>hgo e.1) (fun k e=>A e.1) i.2.2)
structure wj (m:ae)(s:br):Prop where
 a:ir m s
 e:m.take 2=[13,10]
 b:5<=m.length
 c:m.length<=100
 d:s.d<=2
theorem wj.f {m:ae}{s:br}(h:wj m s)(l:ae):wj m (da m s l):=⟨h.a.r (by have:=h.b;omega) l,h.e,h.b,h.c,DP m l s h.d⟩
theorem SK (w:X)(S So:Nat->Prop)(g gt:Nat)(m:ae)(s:br)(c:UInt8)(t:dL)(h:dQ w S g m s)(n:iS s)(a:wj m s)(p:eA w So gt t)(hd:∀k,S k->¬So k)(b:t.b.length<=80000)(q:t.a.length<=80000):
 Calls prog 276 #[Q (M ⟨g,0,U⟩),Q (M ⟨gt,0,U⟩),I .u8 c.toNat] w fun e w'=>yz w S So g gt m s c t e w':=by
 have N:=h.a.1;have z:3<=m.length:=by have:=a.b;omega
 have x:m.length<=1000:=by have:=a.c;omega
 by_cases i:s.b=0
 . have j:=aa (Mk w S So g gt m s c t h n i a.a p hd x a.d b q);have B:((s.b:Int)==0)=true:=by rw[i];rfl
   go_enter func276,ntmps276;go_wp2_with fail;refine j.o.mono ?_;rintro e y ⟨rfl,d⟩;go_wp2;go_ret;exact .ok rfl d
 . have B:((s.b:Int)==0)=F:=by rw[aO];omega
   by_cases l:s.b=5
   . have j:=aa (Ml w S So g gt m s c t h n l a.a p hd a.e z x b);have C:((s.b:Int)==5)=true:=by rw[l];rfl
     go_enter func276,ntmps276;go_wp2_with fail;refine j.o.mono ?_;intro e y d;have r:=aa d;obtain⟨v,u⟩:∃v,e=Y v:=by cases d with
      | ok f h=>exact⟨_,f⟩
      | fail k D G f h=>exact⟨_,f⟩
     subst u;go_wp2;go_ret;exact r.o
   . have C:((s.b:Int)==5)=F:=by rw[aO];omega
     have H:=a.a.j;have L:=n.2;have j:=Vh w S So g gt m s c t h n (by omega) p hd b;go_enter func276,ntmps276;go_wp2_with fail;refine j.mono ?_;intro e y d;have r:=aa d;obtain⟨v,u⟩:∃v,e=Y v:=by cases d with
      | ok f h=>exact⟨_,f⟩
      | fail k D G f h=>exact⟨_,f⟩
     subst u;go_wp2;go_ret;exact r.o
structure xl (w:X)(S:Nat->Prop)(g:Nat)(m:ae)(s:br)(l:ae)(k:Nat)(wr:X):Prop where
 c:∃S' So',dQ wr S' g m (da m s (l.take k))∧eA wr So' w.heap.size (dA hY (co m s (l.take k)))∧(∀i,S' i->¬So' i)∧(∀i,S' i->S i∨w.heap.size<=i)∧(∀i,So' i->w.heap.size<=i)
 b:al S w wr
inductive AX (w:X)(S:Nat->Prop)(g:Nat)(m:ae)(s:br)(l:ae)(e:Ending)(w':X):Prop
 | mk (ao:ai) (cap n:Nat) (S' So':Nat->Prop) (he:e=Y (Z ao n cap)) (hn:n=(gK (co m s l)).length) (hR:dQ w' S' g m (da m s l)) (hO:jA w' So' 98 ao cap (gK (co m s l))) (hd:∀i,S' i->¬So' i) (hS:∀i,S' i->S i∨w.heap.size<=i) (hSo:∀i,So' i->w.heap.size<=i) (hT:al S w w')
theorem xl.d {w wr w':X}{S S' a:Nat->Prop}{g:Nat}{m:ae}{s:br}{l:ae}{k:Nat}(o:k<l.length)(f:∀i,S' i->S i∨w.heap.size<=i)(b:∀i,a i->w.heap.size<=i)(j:al S w wr)
 (h:mv wr S' a g w.heap.size m (cC m (da m s (l.take k)) l[k]).1 (dA (dA hY (co m s (l.take k))) (cC m (da m s (l.take k)) l[k]).2) w'):xl w S g m s l (k+1) w':=by
 obtain⟨p,c,q,r,t,d,u,v⟩:=h;have n:=go o;have x:=j.b;refine⟨⟨p,c,by rw[n,JI];exact q,by rw[n,JJ,DG];exact r,t,fun i e=>?_,fun i e=>?_⟩,j.a v (fun i e y=>?_)⟩
 . rcases d i e with e | e
   . exact f i e
   . exact R (by omega)
 . rcases u i e with e | e
   . exact b i e
   . omega
 . rcases e with e | e
   . rcases f i e with e | e
     . exact e
     . omega
   . have:=b i e;omega
theorem RP {w c l:X}{S So d:Nat->Prop}{g gt:Nat}{m:ae}{t:dL}{k:Nat}(s:k≠0)(o:S g)
 (a:¬d g) (p:∀i,d i->So i∨w.heap.size<=i) (b:al (fun i=>S i∨So i) w c)
 {f:X} (u:dX f g (Q U) 0 (Q U) U 0 0 0 0 (k:Int)) (q:al (fun i=>i=g) c f) (y:g<w.heap.size) (n:eA l (aB (fun i=>d i∧i<c.heap.size) f) gt (oc t (Ad k))) (r:al (fun i=>d i∧i<c.heap.size) f l) :
 mv w S So g gt m (jb k).1 (dA t (jb k).2) l:=by
 have v:=b.b;have x:=q.b;refine .mk (fun i=>i=g) _ (.dead (JM s) rfl (u.f r (fun e=>a e.1))) n (fun i e j=>?_) (fun i e=>by subst e;exact A o) (fun i e=>?_) ((b.a q (fun i e _=>by subst e;exact A o)).a r (fun i e z=>?_))
 . subst e;rcases j with j | j
   . exact a j.1
   . omega
 . rcases e with e | e
   . exact p i e.1
   . exact R (by omega)
 . rcases p i e.1 with e | e
   . exact R e
   . omega
theorem xl.a {w wr w':X}{S S' a:Nat->Prop}{g:Nat}{m:ae}{s:br}{l:ae}{k:Nat}{ao bo:ai}{cap p:Nat}(q:dQ wr S' g m (da m s (l.take k)))(hd:∀i,S' i->¬a i)(r:∀i,S' i->S i∨w.heap.size<=i)(c:∀i,a i->w.heap.size<=i)(f:al S w wr)(j:co m s l=co m s (l.take k))(t:da m s l=da m s (l.take k))
 (u:gy w' (aB (fun i=>a i∧i<wr.heap.size) wr) w.heap.size ao cap bo p ⟨fT (dA hY (co m s (l.take k))),[]⟩) (n:al (fun i=>a i∧i<wr.heap.size) wr w'):AX w S g m s l (Y (Z ao (fT (dA hY (co m s (l.take k)))).length cap)) w':=by
 have d:=(DH _ (Aj m (l.take k) s)).1;have v:=f.b;refine .mk ao cap _ (fun i=>S' i∧i<wr.heap.size) (fun i=>aB (fun i=>a i∧i<wr.heap.size) wr i) rfl (by rw[d,j]) (by rw[t];exact(q.e (fun i o e=>⟨e,o⟩)).d n (fun i e b=>hd i e.1 b.1)) (by rw[j,<-d];exact u.e.a (fun i _ e=>e.1.1)) (fun i e b=>?_) (fun i e=>r i e.1) (fun i e=>?_) (f.a n (fun i e o=>by have:=c i e.1;omega))
 . rcases b with b | b
   . exact hd i e.1 b.1
   . have:=e.2;omega
 . rcases e with e | e
   . exact c i e.1
   . omega
theorem Mm (w:X)(S:Nat->Prop)(g:Nat)(m:ae)(s:br)(l:ae)(bo:ai)(gF n:Nat)(h:dQ w S g m s)(hG:wj m s)(hB:ay w bo gF l)(ug:l≠[]->∀a,bo=M a->¬S a.block)(hn:l.length=n)(hl:n<=20000):
 Calls prog 240 #[Q (M ⟨g,0,U⟩),Z bo n gF] w fun e w'=>AX w S g m s l e w':=by
 subst hn;have hlt:=h.j;have N:Below w.heap.size w (w.alloc (K #[Z U 0 0,Z U 0 0] 312)):=(aq _ _).alloc (ak _) _;have ae6:xl w S g m s l 0 (w.alloc (K #[Z U 0 0,Z U 0 0] 312)):=⟨⟨fun k=>S k∧k<w.heap.size,fun k=>w.heap.size<=k,(h.e (fun k hk e=>⟨e,hk⟩)).B N,⟨_,_,_,_,gy.G w⟩,fun i e e2=>by have:=e.2;omega,fun i e=>A e.1,fun i e=>e⟩,al.d N⟩;have HB:=hB;have T:=aa hG;have HBo:=aa ug
 have HMe:=h.q;go_enter func240,ntmps240;go_wp2;go_loopw [11] (fun vi wr=>∃k:Nat,k<=l.length∧vi=I J k∧xl w S g m s l k wr) (fun vi _=>l.length-(intOf vi).toNat)
 case atStart=>exact⟨0,ax _,rfl,ae6⟩
 case round =>
  obtain⟨k,hk,rfl,W⟩:=hrel;obtain⟨S',f,j,BM,z,B,Rl⟩:=W.c;have C:=W.b;have htk:(l.take k).length<=20000:=by rw[bP];omega
  have nN:=J3 (by have:=T.o.b;omega) T.o.a (l.take k);have hh:=T.o.a.a;have hsh:=T.o.c;have v:eA wr (fun i=>f i∧i<wr.heap.size) w.heap.size (dA hY (co m s (l.take k))):=BM.d (fun i hi e=>⟨e,hi⟩);have x:=Fe wr _ w.heap.size _ v (by omega);have TN:Hid (∀(w':X) (ao bo:ai) (D bc:Nat),co m s l=co m s (l.take k)->da m s l=da m s (l.take k)->gy w' (aB (fun i=>f i∧i<wr.heap.size) wr) w.heap.size ao D bo bc ⟨fT (dA hY (co m s (l.take k))),[]⟩->al (fun i=>f i∧i<wr.heap.size) wr w'->AX w S g m s l (Y (Z ao (fT (dA hY (co m s (l.take k)))).length D)) w'):=fun w' ao bo D bc ho hf hR y=>xl.a j z B Rl C ho hf hR y;by_cases q:k<l.length
  . obtain⟨bb,oo,rfl,_⟩:=HB.j (by omega);have hne:l≠[]:=by intro e;subst e;simp at q
    obtain⟨b2,o2,G,hc2⟩:=(HB.e C (fun a e=>HBo.o hne a e)).j (by omega);injection G with G;injection G with hb2 ho2;subst hb2;subst ho2;have ck:=hc2 k q;have hlt':(k:Int)<l.length:=by omega
    have hcap:=HB.1;obtain⟨c4,c5,c6,fz⟩:=j.a;by_cases p:iS (da m s (l.take k))
    . have hG':=T.o.f (l.take k);have qw:=SK wr S' f g w.heap.size m _ l[k] _ j p hG' BM z (by omega) (by omega);have NM:∀w',mv wr S' f g w.heap.size m (cC m (da m s (l.take k)) l[k]).1 (dA (dA hY (co m s (l.take k))) (cC m (da m s (l.take k)) l[k]).2) w'->xl w S g m s l (k+1) w':=fun w' hw=>xl.d q B Rl C hw;have t0:(((da m s (l.take k)).g:Int) != 0)=F:=by rw[p.1];rfl
      have t6:(((da m s (l.take k)).b:Int)==6)=F:=by rw[aO];have:=p.2;omega
      have ale:=j.q;have alf:=aa j.j
      have hes:(dA hY (co m s (l.take k))).b.length<=80000:=by omega
      generalize dA hY (co m s (l.take k))=td at *;generalize da m s (l.take k)=H at *;generalize l[k]=cb at *;clear j BM z B Rl nN v hc2 p W x TN hG';go_wp2_with fail;refine qw.mono ?_;intro e w1 hTk;cases hTk with
      | ok he hW =>
        subst he;have HW:=NM w1 hW;go_wp2;go_roundw
        case rel=>exact⟨k+1,by omega,by go_num,HW⟩
        case measure=>simp[intOf];omega
      | fail kk hkk hN he W =>
        subst he;have tk:((kk:Int) != 0)=true:=by rw[cW];omega
        obtain⟨NJ,sk,ln,ah,pl,pt,cd,fo,nf,gG,c,uw,hd1,Cb,hT1⟩:=W;have q0:=c.j;have q1:=c.y;have q2:=c.jN;have q3:=c.E;have q4:=c.q;have q5:=c.r;have q6:=c.G
        have f0:=c.a 0;have f1:=c.a 1;have f2:=c.a 2;have f3:=c.a 3;have f4:=c.a 4;have f5:=c.a 5;have f6:=c.a 6
        obtain⟨VI,FR⟩:=c.lH 0 (kk:Int);have hO7:=(uw.d (S':=fun i=>NJ i∧i<w1.heap.size) (fun i hi e=>⟨e,hi⟩)).a FR (fun i e e2=>by subst e2;exact hd1 e.1);have HAd:=zk _ _ w.heap.size td 4 ⟨#[]⟩ ⟨#[]⟩ ⟨#[]⟩ (kk:Int) hO7 (by decide) (by have:=hes;omega);have Lj:=VI;have Z6:=aa FR;have HK:Hid (kk≠0∧¬NJ g∧(∀i,NJ i->f i∨wr.heap.size<=i)):=⟨hkk,hd1,Cb⟩;have HT1:=aa hT1;have HN:=aa hN
        go_wp2_with fail;refine HAd.mono ?_;rintro e L ⟨rfl,v,y⟩;have hW:=RP (m:=m) HK.o.1 ale HK.o.2.1 HK.o.2.2 HT1.o Lj Z6.o alf.o v y;have HW:=NM L (by rw[HN.o];exact hW);go_wp2;go_roundw
        case rel=>exact⟨k+1,by omega,by go_num,HW⟩
        case measure=>simp[intOf];omega
    . have hdr:=Ej (m:=m) (l.drop k) p;have d:co m s l=co m s (l.take k)∧da m s l=da m s (l.take k):=by
       constructor
       . conv=>lhs;rw[<-jn k l,Ei,hdr.1,eN]
       . conv=>lhs;rw[<-jn k l,Ag,hdr.2]
      generalize fT (dA hY (co m s (l.take k)))=fl at *;generalize hfo:da m s (l.take k)=H at *;generalize l[k]=cb at *;by_cases hc0:H.g=0
      . have t0:((H.g:Int) != 0)=F:=by rw[hc0];rfl
        have h6:H.b=6:=by
         rcases Nat.decEq H.b 6 with e | e
         . exact absurd ⟨hc0,e⟩ p
         . exact e
        have t6:((H.b:Int)==6)=true:=by rw[h6];rfl
        go_wp2_with fail;refine x.mono ?_;rintro e L ⟨jB,b,BK,r,rfl,t,y⟩;have u:=TN.o L jB BK b r d.1 d.2 t y;go_wp2;go_ret;exact u
      . have t0:((H.g:Int) != 0)=true:=by rw[cW];omega
        go_wp2_with fail;refine x.mono ?_;rintro e L ⟨jB,b,BK,r,rfl,t,y⟩;have u:=TN.o L jB BK b r d.1 d.2 t y;go_wp2;go_ret;exact u
  . obtain rfl:k=l.length:=by omega
    have d:Hid (co m s l=co m s (l.take l.length)∧da m s l=da m s (l.take l.length)):=by
     unfold Hid;rw[fD];exact⟨rfl,rfl⟩
    generalize fT (dA hY (co m s (l.take l.length)))=fl at *;go_wp2_with fail;refine x.mono ?_;rintro e L ⟨jB,b,BK,r,rfl,t,y⟩;have u:=TN.o L jB BK b r d.o.1 d.o.2 t y;go_wp2;go_ret;exact u
inductive TT (w:X)(l:ae)(e:Ending)(w':X):Prop
 | no (h:iR l=F) (he:e=Y (.tuple #[Q U,I J 5])) (hb:Below w.heap.size w w')
 | yes (h:iR l=true) (g:Nat) (he:e=Y (.tuple #[Q (M ⟨g,0,U⟩),I J 0])) (hF:dQ w' (fun k=>w.heap.size<=k) g (fK l) iw) (hb:Below w.heap.size w w')
theorem M0 (s:ag)(w:X):
 Calls prog 239 #[V s] w fun e w'=>TT w s.data.toList e w':=by
 have z:=Tk s w;have hl:=ep s;cases m:iR s.data.toList with
 | false =>
   rw[m] at z;go_enter func239,ntmps239;go_wp2_with fail;refine z.mono ?_;rintro e w1 ⟨rfl,i⟩;go_wp2;go_ret2;exact .no m rfl i
 | true =>
   rw[m] at z;obtain⟨C,n⟩:=CP m;rw[hl] at n;obtain⟨D,G,H⟩:=DQ s.data.toList C (by rw[hl];exact n);have hx:((⟨#[13,10,45,45]⟩:ag)++s).data.toList=fK s.data.toList:=by rw[my];rfl
   have q:=sq hx;go_enter func239,ntmps239;go_wp2_with fail;refine z.mono ?_;rintro e w1 ⟨rfl,i⟩;obtain⟨L,B,qL,N,r⟩:=xR (P:=prog) w1 ((⟨#[13,10,45,45]⟩:ag)++s) 9 31 5 (by rw[q];unfold maxLen;omega) underlying9 underlying31 underlying5;rw[hx] at r;rw[q] at qL;have VZ:=SL (fK s.data.toList) _ L B r.q (by omega);have t:=ar i N;have j:(fK s.data.toList).take 2=[13,10]∧5<=(fK s.data.toList).length∧(fK s.data.toList).length<=74:=⟨D,G,H⟩;have hst:(s.size:Int)<=70:=by omega
   generalize T:fK s.data.toList=mk at *;go_wp2_with fail;refine VZ.mono ?_;rintro e f ⟨g,p,rfl,W,hg1,hg2,hg3,u⟩;have d:=W;have HG:Hid (B.heap.size<=g∧B.heap.size<=p.a∧∀a,p.b=M a->B.heap.size<=a.block):=⟨hg1,hg2,hg3⟩;have HB3:=aa (ar t u)
   have Au:=u.size;go_wp2_with fail;refine(Cs f).mono ?_;rintro e b ⟨rfl,hL,l⟩;have jm:Below b.heap.size b (b.alloc (K #[Q (M ⟨g,0,U⟩),I J 0,Q (M ⟨f.heap.size,0,U⟩),Z U 0 0,I J 0,I J 0,I J 0] 310)):=(aq _ _).alloc (ak _) _;have c:dX (b.alloc (K #[Q (M ⟨g,0,U⟩),I J 0,Q (M ⟨f.heap.size,0,U⟩),Z U 0 0,I J 0,I J 0,I J 0] 310)) b.heap.size (Q (M ⟨g,0,U⟩)) 0 (Q (M ⟨f.heap.size,0,U⟩)) U 0 0 0 0 0:=⟨bw b _⟩;have hz2:=t.size;have hz3:=Au;have hz4:=l.size;have aq2:=d.d;have aq3:=d.2.2.lt;have v:jZ (b.alloc (K #[Q (M ⟨g,0,U⟩),I J 0,Q (M ⟨f.heap.size,0,U⟩),Z U 0 0,I J 0,I J 0,I J 0] 310)) (fun k=>w.heap.size<=k∧k≠b.heap.size) mk ⟨0,0,0,dv,[],0,0⟩ g f.heap.size p U 0 (fun k=>f.heap.size<=k):=by
    refine⟨(d.a l).a jm,⟨⟨by have:=HG.o.1;omega,by omega⟩,⟨by have:=HG.o.2.1;omega,by omega⟩,fun a e=>⟨by have:=HG.o.2.2 a e;omega,by have:=(d.2.1.d a e).2;omega⟩⟩,⟨by omega,by omega,fun a e=>by have:=(d.2.1.d a e).2;omega⟩,?_,aG.f _ _ _ _,fun a e=>(by cases e)⟩;have:=hL.a (S':=fun k=>(w.heap.size<=k∧k≠b.heap.size)∧f.heap.size<=k) (fun k hk e=>⟨⟨by omega,by omega⟩,e⟩);exact this.d (al.d (S:=fun _=>False) jm) (fun _ _ e=>e)
   have alh:eC (b.alloc (K #[Q (M ⟨g,0,U⟩),I J 0,Q (M ⟨f.heap.size,0,U⟩),Z U 0 0,I J 0,I J 0,I J 0] 310)) g mk 0 p:=v.d;have HSb:=IT _ b.heap.size g mk p _ c.j c.y (c.a 1) (by omega) alh j.1 (by have:=j.2.1;omega) (by have:=j.2.2;omega);have mX:=c;have ali:=aa v
   have Hf:=ar (ar HB3.o l) jm;have Hz:w.heap.size<=b.heap.size:=by show _<=_;omega
   go_wp2_with fail;refine HSb.mono ?_;rintro e w6 ⟨w5,rfl,x,y,TA⟩;obtain⟨r6,t6⟩:=dQ.f (s:=⟨0,0,0,dv,[],0,0⟩) (a2:=2) (S:=fun k=>w.heap.size<=k) ⟨rfl,by decide⟩ Hz mX ali.o y TA;have e6:w5.setCell ⟨b.heap.size,1,U⟩ (I J ((2:Nat):Int))=w6:=x.symm;rw[e6] at r6 t6;have wB:=Hf.trans (t6.below (fun k e=>e) Hf.size);clear  t6 e6 x y TA ;go_wp2;go_ret2;refine .yes m b.heap.size rfl ?_ wB;rw[T];exact r6
theorem bx.E (W:X)(a:Array Value)(n t:Nat)(b:Nat×Nat){k:Nat}(c:W.heap.size=k):bx (W.alloc (K a t b)) (M ⟨k,0,U⟩) n n a.toList:=by
 subst c;exact bx.d W a n t b
def Iy (w:X)(D:Nat->Prop)(ao:ai)(cap:Nat)(es:List az):Prop :=
 es.length<=cap∧(0<es.length->∃b o,ao=M ⟨b,o,U⟩∧∀j (hj:j<es.length),∃s,Cg w b (o+j*12) es[j] s∧dO w D s.a s.b es[j].a∧dO w D s.d s.c es[j].c)
theorem ms.e {w:X}{S:Nat->Prop}{k:Nat}{ao:ai}{cap:Nat}{es:List az}(h:ms w S k ao cap es):Iy w S ao cap es:=by
 obtain⟨f,rfl,l,_,m⟩:=h;have g:=l.a;refine⟨g.1,fun n=>?_⟩;obtain⟨b,o,rfl,p⟩:=g.e (by rw[tV];rw[ij] at n;omega);refine⟨b,o,rfl,fun j q=>?_⟩;have c:j<f.length:=by simpa using q
 refine⟨f[j].2,?_⟩;rw[dH];have a:=m _ (dG c);refine⟨⟨fun i u d=>?_,a.c.b,a.b.b,a.f.b⟩,a.b.a (fun _ _ e=>e.1),a.f.a (fun _ _ e=>e.1)⟩;have r:i<12:=(fB.1 d).1;rw[<-rP _ j c i r] at d;have:=p _ _ d;rw[fC];exact this
theorem Pc (w:X)(D:Nat->Prop)(ao:ai)(cap n:Nat)(es:List az)(hE:Iy w D ao cap es)(hn:es.length=n)(hl:n<=100000)(hL:hZ es):
 Calls prog 242 #[Z ao n cap] w fun e w'=>∃gQ a m,e=Y (Z gQ m a)∧nU w D (fU es) gQ a m w':=by
 subst hn;have HE:=hE;have HL:=aa hL
 obtain⟨i0,hi0,hz0,hz1,hz2⟩:=info_parts Rj;have Hi:=hi0;have kT:=aa hz0;have kL:=aa hz1;have kU:=aa hz2
 go_enter func242,ntmps242;go_wp2;go_loopw [3,8] (fun vo vi wr=>∃(i m:Nat) (gQ:ai) (a:Nat),i<=es.length∧vi=I J i∧vo=Z gQ m a∧nU w D (fU (es.take i)) gQ a m wr) (fun _ vi _=>es.length-(intOf vi).toNat)
 case atStart=>exact⟨0,0,U,0,ax _,rfl,rfl,nU.q w D⟩
 case round =>
  obtain⟨i,m,gQ,a,hi,rfl,rfl,hP⟩:=hrel;have HP:=aa hP;have hml:m<=100000:=by have h1:=hP.a;have y:=DK (es.take i);rw[bP] at y;omega
  by_cases B:i<es.length
  . have hlt':(i:Int)<es.length:=by omega
    obtain⟨b,o,rfl,hEs⟩:=HE.2 (by omega);obtain⟨s,hE,hD1,hD2⟩:=hEs i B;have hcap:=HE.1;have d:=fun y=>DV _ _ rfl (HL.o.j B y);have H:Hid (fU (es.take (i+1))=ge (fU (es.take i)) es[i]):=by
     unfold Hid;rw[go B,DU]
    generalize es[i]=e at *;have c:∀j u,(e.d s)[j]? = M u->wr.cell? ⟨b,o+i*12+j,U⟩=M u:=fun j u L=>(HP.o.below.cell (bI w _ (hE.a j u L))).trans (hE.a j u L);have c0:wr.cell? ⟨b,o+i*12,U⟩=M (I J e.b):=c 0 _ rfl;have c1:wr.cell? ⟨b,o+i*12+1,U⟩=M (V e.i):=c 1 _ rfl;have c2:wr.cell? ⟨b,o+i*12+2,U⟩=M (V e.j):=c 2 _ rfl;have c3:wr.cell? ⟨b,o+i*12+3,U⟩=M (I J e.m):=c 3 _ rfl;have c4:wr.cell? ⟨b,o+i*12+4,U⟩=M (Z s.e e.e.length s.f):=c 4 _ rfl;have c5:wr.cell? ⟨b,o+i*12+5,U⟩=M (I J e.l):=c 5 _ rfl;have c6:wr.cell? ⟨b,o+i*12+6,U⟩=M (Z s.a e.a.length s.b):=c 6 _ rfl;have c7:wr.cell? ⟨b,o+i*12+7,U⟩=M (V e.g):=c 7 _ rfl;have c8:wr.cell? ⟨b,o+i*12+8,U⟩=M (V e.f):=c 8 _ rfl;have c9:wr.cell? ⟨b,o+i*12+9,U⟩=M (V e.h):=c 9 _ rfl;have c10:wr.cell? ⟨b,o+i*12+10,U⟩=M (Z s.d e.c.length s.c):=c 10 _ rfl;have c11:wr.cell? ⟨b,o+i*12+11,U⟩=M (I J e.k):=c 11 _ rfl;have N:dO w D s.a s.b e.a∧dO w D s.d s.c e.c:=⟨hD1,hD2⟩;have jm:Below wr.heap.size wr (wr.alloc (K #[I J e.b,V e.i,V e.j,I J e.m,Z s.e e.e.length s.f,I J e.l,Z s.a e.a.length s.b,V e.g,V e.f,V e.h,Z s.d e.c.length s.c,I J e.k] 98)):=(aq _ _).alloc (ak _) _;have f:=HP.o.d jm;generalize e.e.length=nfl at *;obtain⟨nb,S⟩:∃nb,e.a.length=nb:=⟨_,rfl⟩;obtain⟨z,T⟩:∃z,e.c.length=z:=⟨_,rfl⟩;rw[S] at c6 f;rw[T] at c10 f;have XD:=S;have alj:=aa T
    by_cases C:e.b=5
    . have t5:(e.b==5)=true:=cM.2 C;have l:ge (fU (es.take i)) e=fU (es.take i)++[⟨e.g,e.f,e.h,e.c⟩]:=by unfold ge;rw[if_pos C]
      obtain⟨xs,hO,W⟩:=(f.d ((aq _ _).alloc (ak _) (K #[V e.g,V e.f,V e.h,Z s.d z s.c] 96))).j;have HO:=hO;have HPu:=aa W;have r:=aa (H.o.trans l)
      have yS:Hid (ma ⟨e.g,e.f,e.h,e.c⟩ ⟨s.d,s.c⟩=[V e.g,V e.f,V e.h,Z s.d z s.c]):=by unfold Hid ma;rw[alj.o]
      have Lh:w.heap.size<=wr.heap.size:=HP.o.below.size;clear C l hO W d H;generalize e.b=ek at *;go_wp2_with (at_builtin;refine fE rfl (.tmp 16) (.tmp 19) 218 rfl w.heap.size 96 i0 (.agg #[V ⟨#[]⟩,V ⟨#[]⟩,V ⟨#[]⟩,Z U 0 0]) 4 72 underlying218 Hi kT.o kL.o kU.o rfl (by decide) rfl HO rfl (bx.E _ _ 1 _ _ (by simp)) rfl (fun u L=>by simp at L;rcases L with rfl | rfl | rfl | rfl <;> rfl) (by omega) (by omega) (by rw[ch,ch];have:=Lh;omega) ?_;intro a3 c3 w3 hO3 hG3 kr;have WB:=aa (HPu.o a3 c3 w3 ⟨e.g,e.f,e.h,e.c⟩ ⟨s.d,s.c⟩ N.2 (by rw[yS.o];exact hO3) hG3);clear hO3 hG3 kr)
      go_roundw
      case rel=>exact⟨i+1,m+1,a3,c3,by omega,by go_num,rfl,by rw[r.o];exact WB.o⟩
      case measure=>simp[intOf];omega
    . have t5:(e.b==5)=F:=aO.2 C;by_cases y:e.b=2
      . have t2:(e.b==2)=true:=cM.2 y;have t:=d y;obtain⟨qs,p,G⟩:∃qs p,fU (es.take i)=qs++[p]:=by
         rcases mQ (fU (es.take i)) with e0 | ⟨q,x,e0⟩
         . rw[e0] at t;simp at t
         . exact⟨q,x,by rw[e0,lA]⟩
        have l:ge (fU (es.take i)) e=qs++[{ p with a:=e.a }]:=by
         unfold ge;rw[if_neg C,if_pos y,G,List.dropLast_concat,tH];rfl
        have r:=H.o.trans l;rw[G] at f;obtain⟨k,rfl⟩:∃k,m=k+1:=⟨m-1,by have h1:=f.a;rw[aF] at h1;simp at h1;omega⟩;obtain⟨g,rfl,⟨v,cv⟩,fv,hc1,hby⟩:=f.f;have WB:=hby e.a s.a s.b nb N.1 XD.symm;have m0:(0:Int)<=(k:Int):=by omega
        have m1:(k:Int)<(k:Int)+1:=by omega
        have m2:((k+1:Nat):Int)-1=(k:Int):=by omega
        clear C y l d H t G hby
        generalize e.b=ek at *;go_wp2;go_roundw
        case rel=>exact⟨i+1,k+1,M ⟨g,0,U⟩,a,by omega,by go_num,rfl,by rw[r];exact WB⟩
        case measure=>simp[intOf];omega
      . have t2:(e.b==2)=F:=aO.2 y;have l:ge (fU (es.take i)) e=fU (es.take i):=by unfold ge;rw[if_neg C,if_neg y]
        have r:=H.o.trans l;generalize e.b=ek at *;go_wp2;go_roundw
        case rel=>exact⟨i+1,m,gQ,a,by omega,by go_num,rfl,by rw[r];exact f⟩
        case measure=>simp[intOf];omega
  . obtain rfl:i=es.length:=by omega
    go_wp2;go_ret;refine⟨gQ,a,m,rfl,?_⟩;have:=HP.o;rw[fD] at this;exact this
inductive TU (w:X)(s l:ae)(e:Ending)(w':X):Prop
 | no (c:Nat) (hc:c≠0) (h:iR s=F∧c=5∨iR s=true∧ns (da (fK s) iw l)=c) (he:e=Y (.tuple #[Z U 0 0,I J (c:Int)])) (hb:Below w.heap.size w w')
 | yes (hm:iR s=true) (h:ns (da (fK s) iw l)=0) (w1:X) (hz:w.heap.size<=w1.heap.size) (ao:ai) (cap n:Nat) (he:e=Y (.tuple #[Z ao n cap,I J 0])) (hP:nU w1 (fun k=>w.heap.size<=k) (fU (gK (co (fK s) iw l))) ao cap n w') (hb:Below w.heap.size w w')
theorem wX {s:ae}(h:iR s=true):wj (fK s) iw:=by
 obtain⟨d,e⟩:=CP h;obtain⟨a,b,c⟩:=DQ s d e;exact⟨ir.E (by omega),a,b,by omega,ak _⟩
theorem Tl (s:ag)(l:ae)(bo:ai)(gF n:Nat)(w:X)(hB:ay w bo gF l)(hn:l.length=n)(hl:n<=20000):
 Calls prog 191 #[V s,Z bo n gF] w fun e w'=>TU w s.data.toList l e w':=by
 have G:=hB;have H:=aa hn
 go_enter func191,ntmps191;go_wp2_with fail;refine(M0 s w).mono ?_;intro e w1 v;cases v with
 | no t d f =>
   subst d;have c:=t;have j:=aa f
   go_wp2;go_ret2;exact .no 5 (by decide) (A ⟨c,rfl⟩) rfl j.o
 | yes t g d v f =>
   subst d;have hz:=f.size;have c:=t;have j:=aa f
   have ug:l≠[]->∀a,bo=M a->¬w.heap.size<=a.block:=fun x a ea=>by
    subst ea;have hp:=kH.2 x;have:=bI w _ (G.q 0 hp);rw[oB] at this;omega
   go_wp2_with fail;refine(Mm w1 _ g (fK s.data.toList) iw l bo gF n v (wX t) (G.a f) ug H.o hl).mono ?_;rintro e L ⟨ao,y,k,S',So',d,N,S,T,hd,hS,p,W⟩;subst d;have b:=j.o.trans (W.below (B:=w.heap.size) (fun k e=>e) j.o.size);have yS:=Sf L S' g _ _ S;have nN:=xx (by have:=(wX c).b;omega) l (wX c).a;have z:=Cr (co (fK s.data.toList) iw l);have hk4:k<=40000:=by have:=H.o;omega
   have C:=Pc L (fun k=>w.heap.size<=k) ao y k _ (T.f.a (fun i _ e=>ce j.o.size (p i e))).e N.symm (by omega) (Kt _ _);clear N S T hd hS p W nN z;generalize q:ns (da (fK s.data.toList) iw l)=u at *;go_wp2_with fail;refine yS.mono ?_;rintro e w3 ⟨rfl,hw⟩;subst hw;by_cases D:u=0
   . have tc:((u:Int) != 0)=F:=by rw[D];rfl
     go_wp2_with fail;refine C.mono ?_;rintro e w4 ⟨gQ,r,m,rfl,hP⟩;go_wp2;go_ret2;exact .yes c (q.trans D) w3 b.size gQ r m rfl hP (ar b hP.below)
   . have tc:((u:Int) != 0)=true:=by rw[cW];omega
     go_wp2;go_ret2;exact .no u D (R ⟨c,q⟩) rfl b
structure oM (S:Nat->Prop)(tO:Nat)(w:X)(g:Nat)(s:aA)(w':X):Prop where
 b:gY w' (aB S w) tO 92 5 g s
 c:al S w w'
theorem oM.a {S:Nat->Prop}{a g:Nat}{w b w':X}{s:aA}(c:Below w.heap.size w b)(h:oM S a b g s w'):oM S a w g s w':=by
 have d:=c.size;refine⟨h.b.d (fun k _ e=>?_),(al.d c).a h.c (fun _ e _=>e)⟩;rcases e with e | e
 . exact A e
 . exact R (by omega)
theorem S8 {s:aA}{e:aK}(h:e.b=1):(dF s e).1=(fq s e.n (gN e.c)).1:=by unfold dF;rw[if_pos h];rfl
theorem S9 {s:aA}{e:aK}(h:e.b=2):dF s e=iG s e.a (ou s e.a) e.c:=by unfold dF;rw[if_neg (by omega),if_pos h]
theorem Tb {s:aA}{e:aK}(h:e.b=3):dF s e=li s e.a e.n:=by unfold dF;rw[if_neg (by omega),if_neg (by omega),if_pos h]
theorem Tc {s:aA}{e:aK}(h:e.b=4):dF s e=lU s e.a:=by unfold dF;rw[if_neg (by omega),if_neg (by omega),if_neg (by omega),if_pos h]
theorem Td {s:aA}{e:aK}(h:e.b=5):dF s e=jP s e.a:=by unfold dF;rw[if_neg (by omega),if_neg (by omega),if_neg (by omega),if_neg (by omega),if_pos h]
theorem Tf {s:aA}{e:aK}(h:e.b=6):dF s e=lj s e.a:=by unfold dF;rw[if_neg (by omega),if_neg (by omega),if_neg (by omega),if_neg (by omega),if_neg (by omega)]
theorem Th (s:aA)(S:Nat->Prop)(g:Nat)(x:aK)(B:ai)(v C:Nat)(w:X)(h:cE w S g s)(ok:cO s)(hl:s.a<=1000000)(hT:ay w B C x.c)(hn:x.c.length=v)(hN:v<=1000000)(hk:1<=x.b∧x.b<=6):
 Calls prog 154 #[Q (M ⟨g,0,U⟩),.agg #[I J x.b,I J x.a,I J x.n,Z B v C]] w fun e w'=>e=Y (.tuple #[])∧oM S 121 w g (dF s x).1 w':=by
 have t:=(aq _ w).alloc (ak _) (K #[I J x.b,I J x.a,I J x.n,Z B v C] 223);have y:=h.a t;have G:=hT.a t;obtain⟨⟨D,x1,x2,x3⟩,_⟩:=iZ (bw w (K #[I J x.b,I J x.a,I J x.n,Z B v C] 223));obtain⟨W,z⟩:∃W,(w.alloc (K #[I J x.b,I J x.a,I J x.n,Z B v C] 223))=W:=⟨_,rfl⟩;have N:w.heap.size<W.heap.size:=by rw[<-z];simp
 rw[z] at t y G D x1 x2 x3;have T:=G.r (P:=prog) 31 9 5 underlying31 underlying5 underlying9;rw[hn] at T;have hms:(gN x.c).size<=1000000:=by rw[Hh];omega
 obtain a | a | a | a | a | a:x.b=1∨x.b=2∨x.b=3∨x.b=4∨x.b=5∨x.b=6:=by omega
 . have r:=aa (Dj s S g x.n (gN x.c) W y ok hl hms);have j:=S8 (s:=s) a;rw[show(⟨x.c.toArray⟩:ag)=gN x.c from rfl] at T;rw[a] at D z ⊢;generalize fq s x.n (gN x.c)=q at *;generalize gN x.c=m at *;go_enter func154,ntmps154;go_wp2_with fail;refine r.o.mono ?_;intro e c b;have k:oM S 121 w g (dF s x).1 c:=oM.a t (by rw[j];exact⟨b.b,b.c⟩);obtain⟨rfl,_,_⟩:=b;go_wp2;go_end0
   exact⟨rfl,k⟩
 . have j:=aa (S9 (s:=s) a);have HA:∀c,Below W.heap.size W c->Calls prog 211 #[Q (M ⟨g,0,U⟩),I J x.a,I J (ou s x.a),Z B v C] c (bG S 121 c g (iG s x.a (ou s x.a) x.c)):=fun c d=>Di s S g x.a _ B v C x.c c (y.a d) ok (G.a d) hn hN;have yS:∀c,Below W.heap.size W c->c.cell? ⟨w.heap.size,1,U⟩=M (I J x.a)∧c.cell? ⟨w.heap.size,3,U⟩=M (Z B v C):=fun c d=>⟨(d.cell (p:=⟨w.heap.size,1,U⟩) N).trans x1,(d.cell (p:=⟨w.heap.size,3,U⟩) N).trans x3⟩;cases hp:cq s.l x.a with
   | none =>
     rw[Qw hp] at HA j;rw[a] at D z ⊢;generalize iG s x.a _ x.c=q at *;go_enter func154,ntmps154;go_wp2_with fail;refine(zv s S g x.a W y ok hp).mono ?_;rintro e c ⟨rfl,d⟩;have H:=(aq _ c).alloc (ak _) (K #[I J 0,I J 0,V ⟨#[]⟩,Z U 0 0,I J 0] 92);have f:=ar d H;have y1:=yS _ f;have L:=ar t f;go_wp2_with fail;refine(HA _ f).mono ?_;intro e w4 b;have k:oM S 121 w g (dF s x).1 w4:=oM.a L (by rw[j.o];exact⟨b.b,b.c⟩);obtain⟨rfl,_,_⟩:=b;go_wp2;go_end0
     exact⟨rfl,k⟩
   | some i =>
     have hi:=lk hp;have HG:=zw s S g x.a i W y ok hp hi;have hL:ou s x.a=s.l[i].a.length:=Hd hp;rw[hL] at HA j;rw[a] at D z ⊢;generalize s.l[i]=u at *;generalize iG s x.a _ x.c=q at *;go_enter func154,ntmps154;go_wp2_with fail;refine HG.mono ?_;rintro e c ⟨bo,bc,rfl,_,d⟩;have H:=(aq _ c).alloc (ak _) (K #[I J u.b,I J u.c,V u.d,Z bo u.a.length bc,I J u.e] 92);have f:=ar d H;have r:=HA _ f;have y1:=yS _ f;have L:=ar t f;go_wp2_with fail;refine r.mono ?_;intro e w4 b;have k:oM S 121 w g (dF s x).1 w4:=oM.a L (by rw[j.o];exact⟨b.b,b.c⟩);obtain⟨rfl,_,_⟩:=b;go_wp2;go_end0
     exact⟨rfl,k⟩
 . have r:=aa (CN s S g x.a x.n W y ok);have j:=Tb (s:=s) a;rw[a] at D z ⊢;generalize li s x.a x.n=q at *;go_enter func154,ntmps154;go_wp2_with fail;refine r.o.mono ?_;intro e c b;have k:oM S 121 w g (dF s x).1 c:=oM.a t (by rw[j];exact⟨b.b,b.c⟩);obtain⟨rfl,_,_⟩:=b;go_wp2;go_end0
   exact⟨rfl,k⟩
 . have r:=aa (Fa s S g x.a W y ok);have j:=Tc (s:=s) a;rw[a] at D z ⊢;generalize lU s x.a=q at *;go_enter func154,ntmps154;go_wp2_with fail;refine r.o.mono ?_;intro e c b;have k:oM S 121 w g (dF s x).1 c:=oM.a t (by rw[j];exact⟨b.b,b.c⟩);obtain⟨rfl,_,_⟩:=b;go_wp2;go_end0
   exact⟨rfl,k⟩
 . have r:=aa (Dx s S g x.a W y ok);have j:=Td (s:=s) a;rw[a] at D z ⊢;generalize jP s x.a=q at *;go_enter func154,ntmps154;go_wp2_with fail;refine r.o.mono ?_;intro e c b;have k:oM S 121 w g (dF s x).1 c:=oM.a t (by rw[j];exact⟨b.b,b.c⟩);obtain⟨rfl,_,_⟩:=b;go_wp2;go_end0
   exact⟨rfl,k⟩
 . have r:=aa (FE s S g x.a W y ok);have j:=Tf (s:=s) a;rw[a] at D z ⊢;generalize lj s x.a=q at *;go_enter func154,ntmps154;go_wp2_with fail;refine r.o.mono ?_;intro e c b;have k:oM S 121 w g (dF s x).1 c:=oM.a t (by rw[j];exact⟨b.b,b.c⟩);obtain⟨rfl,_,_⟩:=b;go_wp2;go_end0
   exact⟨rfl,k⟩
theorem Ug {w:X}{ao:ai}{cap:Nat}{l:List aK}(h:sB w ao cap l):l.length<=cap:=by
 obtain⟨b,_,a,_⟩:=h;exact a.1
theorem Ux (e:aK):e.c.length<=(bi e).length:=by simp[bi,dU];omega
theorem Ti {b:ae}{e:aK}(h:e∈(cu b).1):e.c.length<=b.length:=by
 obtain⟨_,d,a,_⟩:=AK _ b (ak _);have c:(bi e).length<=(((cu b).1.map bi).flatten).length:=(List.sublist_flatten_of_mem (List.mem_map_of_mem h)).length_le;rw[a,bP] at c;have:=Ux e;omega
theorem Tj {b:ae}{e:aK}(h:e∈(cu b).1):1<=e.b∧e.b<=6:=by
 obtain⟨a,_⟩:=AK _ b (ak _);exact((ve e).1 (a e h)).1
theorem OW (l:List aK)(ao:ai)(cap n:Nat)(w:X)(u:sB w ao cap l)(G:l.length=n)(hN:n<=1000000)(H:∀e∈l,(1<=e.b∧e.b<=6)∧e.c.length<=1000000):
 Calls prog 105 #[Z ao n cap] w fun e w'=>∃g,e=Y (Q (M ⟨g,0,U⟩))∧cE w' (fun k=>w.heap.size<=k) g (ii fA l)∧Below w.heap.size w w':=by
 subst G;have v:=Ug u;go_enter func105,ntmps105;go_wp2_with fail;refine(FG w).mono ?_;rintro e w1 ⟨rfl,f,L⟩;have N:=f;have S:=aa L
 go_wp2;go_loopw [9] (fun t wr=>∃k:Nat,k<=l.length∧t=I J k∧cE wr (fun k=>w.heap.size<=k) w.heap.size (ii fA (l.take k))∧Below w.heap.size w wr) (fun t _=>l.length-(intOf t).toNat)
 case atStart=>exact⟨0,ax _,rfl,by rw[List.take_zero];exact N,S.o⟩
 case round =>
  obtain⟨k,hk,rfl,f,T⟩:=hrel;have b:=f;have a:=aa T
  by_cases c:k<l.length
  . obtain⟨bb,oo,q,rfl,W,hc1,hc2,hc3,i⟩:=(u.d a.o).a k c;have x:(k:Int)<l.length:=by omega
    have y:=H _ (dG c);have d:=(aq _ wr).alloc (ak _) (K #[I J l[k].b,I J l[k].a,I J l[k].n,Z q.a l[k].c.length q.b] 223);have m:cO (ii fA (l.take k)):=BY _ cO.q;have r:(ii fA (l.take k)).a<=1000000:=by
     have:=BX (l.take k) fA;rw[bP] at this;have h0:fA.a=0:=rfl;omega
    have z:=Th (ii fA (l.take k)) (fun k=>w.heap.size<=k) w.heap.size l[k] q.a l[k].c.length q.b _ (b.a d) m r (i.a d) rfl y.2 y.1;rw[<-Qs fA l k c] at z;generalize l[k]=p at *;go_wp2_with fail;refine z.mono ?_;rintro e B ⟨rfl,C⟩;have s:=a.o.size;have hsA:=d.size;have D:cE B (fun k=>w.heap.size<=k) w.heap.size (ii fA (l.take (k+1)))∧Below w.heap.size w B:=by
     refine⟨C.b.d (fun j _ e=>?_),(a.o.trans (d.mono s)).trans (C.c.below (fun j e=>e) (by omega))⟩;rcases e with e | e
     . exact e
     . show w.heap.size<=j;omega
    go_wp2;go_roundw
    case rel=>exact⟨k+1,by omega,by go_num,D.1,D.2⟩
    case measure=>simp[intOf];omega
  . obtain rfl:k=l.length:=by omega
    rw[fD] at b;go_wp2;go_ret;exact⟨_,rfl,b,a.o⟩
structure Ir (S:Nat->Prop)(w:X)(g:Nat)(s:av)(w':X):Prop where
 b:aY w' (aB S w) g s
 a:al S w w'
theorem Nb {s:av}{S:Nat->Prop}{g:Nat}{w:X}(h:aY w S g s)(ok:aN s)(a:Int):
 Calls prog 59 #[Q (M ⟨g,0,U⟩),I J a] w fun e w'=>e=Y (.tuple #[])∧Ir S w g (ie s a) w':=by
 obtain⟨H,gl,ao,ca,P,T⟩:=h;obtain⟨⟨c0,c1⟩,_⟩:=cX T.a;have i:s.b+jE a (s.a.length-s.b)=dM s a:=rfl;have hll:=QC ok.g a;have nN:=ok.b;obtain⟨hd1,j,W⟩:=Hp s a;have HC:=Mx T.b a;rw[i] at HC;have r:(s.a.take (dM s a)).length=dM s a:=by rw[bP];omega
 have HK:∀e∈(cu (s.a.take (dM s a))).1,(1<=e.b∧e.b<=6)∧e.c.length<=1000000:=fun e he=>⟨Tj he,by have:=Ti he;omega⟩;have Q5:ie s a=⟨ii fA (cu (s.a.take (dM s a))).1,(s.a.take (dM s a)).take (cu (s.a.take (dM s a))).2,(cu (s.a.take (dM s a))).2⟩:=by
  show _=_;rw[List.take_take,oC j];rfl
 have hn5:dM s a<=100000:=by omega
 generalize s.a.take (dM s a)=b at *;generalize dM s a=n at *;subst r;go_enter func59,ntmps59;go_wp2_with fail;refine HC.mono ?_;rintro e w1 ⟨rfl,t,ht1⟩;obtain⟨u,hT1⟩:=T.q t ht1;obtain⟨⟨c0',c1'⟩,_⟩:=cX u.a;have HI1:=u;have HT1:=aa hT1
 go_wp2_with fail;refine(Mw t).mono ?_;rintro e w2 ⟨jB,ca2,rfl,hB2,v⟩;have x:=HI1.d v;have HT2:al S w w2:=HT1.o.a (al.d v) (fun _ e _=>e);go_wp2_with fail;refine(Na b jB ca2 b.length w2 hB2 rfl (by omega)).mono ?_;rintro e w3 ⟨lu,l,rfl,hE3,y⟩;have Ze:=x.d y;obtain⟨⟨c0,c1⟩,_⟩:=cX Ze.a;have hgl:=x.b.f;have z:al S w w3:=HT2.a (al.d y) (fun _ e _=>e);have B:=hE3;have d:=aa Ze
 have m:Hid (∀c,lO c S g H gl ao ca P ⟨s.h,b.take (cu b).2,(cu b).2⟩->al S w c->lM c (fun k=>w2.heap.size<=k) 223 lu l (cu b).1 ->
  c.cell? ⟨g,0,U⟩=M (Q (M ⟨H,0,U⟩))∧Calls prog 105 #[Z lu (cu b).1.length l] c (fun e w'=>∃q,e=Y (Q (M ⟨q,0,U⟩))∧(w'.cell? ⟨g,0,U⟩=M (Q (M ⟨H,0,U⟩))∧w'.frozen? ⟨g,0,U⟩=F)∧Ir S w g (ie s a) (w'.setCell ⟨g,0,U⟩ (Q (M ⟨q,0,U⟩))))):=fun c f L hE4=>by
  refine⟨(cX f.a).1.1,(OW (cu b).1 lu l _ c hE4.f rfl (by omega) HK).mono ?_⟩;rintro e w5 ⟨q,rfl,hS5,C⟩;obtain⟨hr,hA,Wh⟩:=f.j C hS5 (f.b.q C) (al.r _ _) (A rfl);refine⟨q,rfl,⟨(cX hr).1.1,(cX hr).2.1⟩,?_,L.a Wh (fun _ e _=>e)⟩;rw[Q5];have hsz:=L.b;refine hA.a (fun k _ e=>?_);rcases e with e | e
  . exact A e
  . exact R (by omega)
 by_cases hcut:(cu b).2<b.length
 . have N:=aa (Dq d.o.b (cu b).2 hcut);have D:=Nat.min_eq_right j;simp only[D] at N;generalize (cu b).1=el at *;generalize (cu b).2=dn at *;go_wp2_with fail;refine N.o.mono ?_;rintro e c ⟨rfl,hL4,GV⟩;obtain⟨f,L⟩:=d.o.q hL4 GV;obtain⟨y0,p⟩:=m.o c f (z.a L (fun _ e _=>e)) (B.e GV (fun k e e2=>by subst e2;omega));go_wp2_with fail;refine p.mono ?_;rintro e w5 ⟨q,rfl,⟨z0,z1⟩,hF⟩;go_wp2;go_end0
   exact⟨rfl,hF⟩
 . have N:=aa (EW d.o.b ((cu b).2:Int) (by show ¬(_∧_<(b.length:Int));omega));have G:(cu b).2=b.length:=by omega
   have f:lO w3 S g H gl ao ca P ⟨s.h,b.take (cu b).2,(cu b).2⟩:=by
    have:=d.o;rw[G,fD];exact this
   obtain⟨y0,p⟩:=m.o w3 f z B;clear hcut j W HK Q5  m G f;generalize (cu b).1=el at *;generalize (cu b).2=dn at *;go_wp2_with fail;refine N.o.mono ?_;rintro e c ⟨rfl,hw⟩;rw[hw];clear hw;go_wp2_with fail;refine p.mono ?_;rintro e w5 ⟨q,rfl,⟨z0,z1⟩,hF⟩;clear  y0 c0 c1;go_wp2;go_end0
   exact⟨rfl,hF⟩
theorem zo (e:az)(s:cJ)(a:List Value)(h:e.d s=a):∀u∈a,u.oneCell'=true:=fun u b=>rD e s u (by rw[h];exact b)
theorem bx.B (W:X)(a:Array Value)(n t:Nat)(b:Nat×Nat){k:Nat}(c:W.heap.size=k):bx (W.alloc (K a t b)) (M ⟨k,0,U⟩) n n a.toList:=by
 subst c;exact bx.d W a n t b
structure mu (w:X)(ao:ai)(cap n:Nat)(es:List aS)(W:X):Prop where
 a:gx w #[Z ao n cap] 58 W
 c:kJ W (w.heap.size+1) 98 ao cap (es.map aS.d)
 b:n=es.length
section
variable {w W W':X} {ao:ai} {cap n:Nat} {es:List aS}
theorem mu.f (w:X):mu w U 0 0 [] (w.alloc (K #[Z U 0 0] 58)):=⟨gx.j w _ _,kJ.f _ _ _,rfl⟩
theorem mu.d (h:mu w ao cap n es W)(a:Below W.heap.size W W'):mu w ao cap n es W':=⟨h.a.d a,h.c.q a,h.b⟩
theorem mu.e (h:mu w ao cap n es W)(c:Obj):∃xs,aG (W.alloc c) (w.heap.size+1) 98 12 ao cap n xs ∧
 ∀gQ b w' (e : aS) s j, e.d.d s = j -> eI W (fun k => w.heap.size + 1 <= k ∧ au ao ≠ M k) e.d s -> aG w' (w.heap.size + 1) 98 12 gQ b (n + 1) (xs ++ j) -> (W.alloc c).grownBy w' (au ao) -> (au gQ = au ao ∨ au gQ = M (W.alloc c).heap.size) ->
   kJ w' (w.heap.size+1) 98 gQ b ((es++[e]).map aS.d)∧gx w #[Z ao n cap] 58 w'∧Below w.heap.size w w'∧mu w gQ b (n+1) (es++[e]) (w'.setCell ⟨w.heap.size,0,U⟩ (Z gQ (n+1) b)):=by
 have o:=h.b;obtain⟨v,q,r⟩:=h.c.j c;have x:(es.map aS.d).length=n:=by rw[ij];exact o.symm
 rw[x] at q r;refine⟨cB v,q,fun gQ b w' e s j y z B C l=>?_⟩;subst y;obtain⟨D,G⟩:=r gQ b w' e.d s z B C l;have H:Below W.heap.size W (W.alloc c):=(aq _ _).alloc (ak _) _;have m:=(h.a.d H).r G (fun k e=>by omega);have L:=m.q 0 (Z gQ (n+1) b);have t:=gX w.heap.size [Z gQ (n+1) b] 0 w';have i:kJ w' (w.heap.size+1) 98 gQ b ((es++[e]).map aS.d):=by rw[lB];exact D
 refine⟨i,m,m.below,⟨L,?_,by rw[aF,o];rfl⟩⟩;obtain⟨N,S,u,T⟩:=i;have hr:∀a,gQ=M a->¬a.block=w.heap.size:=fun a e k=>by have:=(u.d a e).1;omega
 refine⟨N,S,u.e t hr,fun p hp=>?_⟩;exact((T p hp).d t (fun k f g=>by omega))
end
theorem rL (w W:X)(ao:ai)(cap n c:Nat)(es:List aS)(h:mu w ao cap n es W)(D:n<=1000000):
 Calls prog 50 #[I J (c:Int),Q (M ⟨w.heap.size,0,U⟩)] W fun e w'=>∃a2 k,e=Y (.tuple #[Z a2 (n+1) k,.bool F])∧kJ w' (w.heap.size+1) 98 a2 k ((es++[aS.fail c]).map aS.d)∧Below w.heap.size w w':=by
 obtain⟨G,b,r⟩:=h.e (K #[I J 4,V ⟨#[]⟩,V ⟨#[]⟩,I J 0,Z U 0 0,I J 0,Z U 0 0,V ⟨#[]⟩,V ⟨#[]⟩,V ⟨#[]⟩,Z U 0 0,I J (c:Int)] 98);have s:=b;have t:=aa r
 have H:=h.a.a 0;have u:w.heap.size+1<=W.heap.size:=h.a.e;obtain⟨v,f,g,i,j⟩:=info_parts uB;have x:=f;have y:=aa g;have z:=aa i;have B:=aa j
 go_enter func50,ntmps50;go_wp2_with (at_builtin;refine fE rfl (.tmp 5) (.tmp 8) 58 rfl (w.heap.size+1) 98 v (.agg #[I J 0,V ⟨#[]⟩,V ⟨#[]⟩,I J 0,Z U 0 0,I J 0,Z U 0 0,V ⟨#[]⟩,V ⟨#[]⟩,V ⟨#[]⟩,Z U 0 0,I J 0]) 12 184 underlying58 x y.o z.o B.o rfl (by decide) rfl s rfl (bx.d _ _ 1 _ _) rfl (zo (aS.fail c).d ⟨U,0,U,0,U,0⟩ _ rfl) (by omega) (by omega) (by rw[ch];have:=u;omega) ?_;intro l m C b p a;have q:=aa (t.o l m C (.fail c) ⟨U,0,U,0,U,0⟩ _ rfl ⟨jz.a _ _,dO.e _ _,dO.e _ _⟩ b p a);clear b p a)
 go_ret2;exact⟨l,m,rfl,q.o.1,q.o.2.2.1⟩
def Ci (b:ae):Prop:=(∃h,aS.head h∈(et b).1∧h.d<0)->∀(l:ae) (ab:ai) (cap:Nat) (w:X),ay w ab cap l->l.length<=20000->Calls prog 55 #[Z ab l.length cap] w fun e w'=>ys w l e w'
def Cq (w:X)(b:ae)(e:Ending)(w':X):Prop:=∃a2 c2,e=Y (.tuple #[Z a2 (et b).1.length c2,.bool (et b).2])∧kJ w' (w.heap.size+1) 98 a2 c2 ((et b).1.map aS.d)∧Below w.heap.size w w'
theorem Cq.a {w:X}{b:ae}{e:Ending}{w':X}{es:List aS}{a:Bool}{a2:ai}{c n:Nat}(f:et b=(es,a))(g:n=es.length)(i:e=Y (.tuple #[Z a2 n c,.bool a]))(j:kJ w' (w.heap.size+1) 98 a2 c (es.map aS.d))(k:Below w.heap.size w w'):Cq w b e w':=by grind [et,kJ,aS.d,Cq]
structure UN (w:X)(b:ae)(p:Nat)(ao:ai)(ca n:Nat)(es:List aS)(f:Nat)(wr:X):Prop where
 a:mu w ao ca n es wr
 d:(b.drop p).length<f+1
 e:et b=(es++(fO (f+1) (b.drop p)).1,(fO (f+1) (b.drop p)).2)
 c:n<=3*p
structure Cc (wH:X)(h:cf)(fo:ai)(gG nf:Nat)(W:X):Prop where
 a:gx wH #[V ⟨h.c.toArray⟩,V ⟨h.b.toArray⟩,I J (h.e:Int),Z fo nf gG,I J 0] 82 W
 c:aG W (wH.heap.size+1) 128 2 fo gG nf (aI (bL h.a))
 b:nf=h.a.length
structure IC (w wH:X)(b:ae)(p:Nat)(ao:ai)(ca n:Nat)(es:List aS)(f f2:Nat)(h:cf)(fo:ai)(gG nf:Nat)(wr:X):Prop where
 a:Cc wH h fo gG nf wr
 d:(b.drop p).length<f2+1
 e:et b=(es++(sW f h (fY (f2+1) (b.drop p) h.a)).1,(sW f h (fY (f2+1) (b.drop p) h.a)).2)
 c:iD h
theorem Cc.d {b W c:X}{h:cf}{fo g:ai}{gG nf i:Nat}{d f:ag}(j:Cc b h fo gG nf W){l:X}(o:Below W.heap.size W l)(m:aG c (b.heap.size+1) 128 2 g i (nf+1) (aI (bL h.a)++[V d,V f]))(p:l.grownBy c (au fo)):
 gx b #[V ⟨h.c.toArray⟩,V ⟨h.b.toArray⟩,I J (h.e:Int),Z fo nf gG,I J 0] 82 c ∧
 Cc b { h with a:=h.a++[(d.data.toList,f.data.toList)] } g i (nf+1) (c.setCell ⟨b.heap.size,3,U⟩ (Z g (nf+1) i)):=by
 have n:gx b #[V ⟨h.c.toArray⟩,V ⟨h.b.toArray⟩,I J (h.e:Int),Z fo nf gG,I J 0] 82 c:=(j.a.d o).r (S:=fun k=>au fo=M k) (al.q p (fun k e=>e)) (fun k e=>by
  cases fo with
  | none=>cases e
  | some a=>injection e with e;subst e;exact(j.c.d a rfl).1)
 have q:=gX b.heap.size [Z g (nf+1) i] 3 c;refine⟨n,⟨n.q 3 _,?_,by show nf+1=(h.a++[(d.data.toList,f.data.toList)]).length;rw[aF,j.b];rfl⟩⟩;have r:=m.e q (fun a e k=>by have:=(m.d a e).1;omega);have s:aI (bL (h.a++[(d.data.toList,f.data.toList)]))=aI (bL h.a)++[V d,V f]:=by
  rw[BQ,wI];rfl
 show aG _ _ _ _ _ _ _ (aI (bL (h.a++[(d.data.toList,f.data.toList)])));rw[s];exact r
structure B8 (w w5:X)(b:ae)(f:Nat)(a3:ai)(c3 n3:Nat)(es3:List aS)(p3:Nat)(body:ae)(bo:ai)(bc:Nat)(over:Bool)(c:Nat)(wd:X):Prop where
 a:mu w a3 c3 n3 es3 wd
 d:dO wd (fun k=>w5.heap.size<=k) bo bc body
 below:Below w5.heap.size w5 wd
 e:et b=(es3++eu body++(iE f (b.drop p3) over c).1,(iE f (b.drop p3) over c).2)
theorem sA {w w5 g:X}{b:ae}{f:Nat}{l:ai}{m n:Nat}{d:List aS}{i:Nat}{body:ae}{bo:ai}{o:Nat}{j:Bool}{c:Nat}(r:mu w l m n d w5)(p:bC g w5.heap.size 5 bo o body)(q:Below w5.heap.size w5 g)(k:et b=(d++eu body++(iE f (b.drop i) j c).1,(iE f (b.drop i) j c).2)):B8 w w5 b f l m n d i body bo o j c g :=
 ⟨r.d q,⟨p.a,fun _ a e=>(p.d a e).1⟩,q,k⟩
theorem CH {w5 a:X}(h:w5.grownBy a (au U)):Below w5.heap.size w5 a:=(aq _ _).grown h (ak _) (fun q e=>by simp[au] at e)
def pC:List Nat->Code->Code
 | [],c=>c
 | 0::p,.seq x _=>pC p x
 | _::p,.seq _ y=>pC p y
 | _::p,.loop c=>pC p c
 | _::p,.block _ c=>pC p c
 | _::p,.scope c=>pC p c
 | 0::p,.cond _ x _=>pC p x
 | _::p,.cond _ _ y=>pC p y
 | _,c=>c
noncomputable def Uh:Code:=pC [1,1,1,1,1,1,1,1,1,1,1,1,1,1,1,1,1,1,1,1,1,0,1] (Tryz.f19.body.getD .skip)
theorem Nf (b:ae)(B D cap:Nat)(w w5:X)(q a u n:Nat)(k:Int)(a3:ai)(c3:Nat)(es:List aS)(h:cf)(hb:ay w (M ⟨B,D,U⟩) cap b)(h9:b.length<=20000)(hCk:Ci b)(hlo:q+a<=b.length)(wG:Below w.heap.size w w5)(hR5:mu w a3 c3 (n+1) (es++[.head { h with d:=k }]) w5)(hln:gC h=.inr k)(r:et b=(es++(pc (u+1) h (b.drop (q+a))).1,(pc (u+1) h (b.drop (q+a))).2))(Q0:Exit->Act->X->Prop)
 (x1 x2 x3 x4 x5 x7 x8 x9 x11 x12 x13 x17 x18 x19 x20 x21 x22 x23 x24 x25 x26 x27 x28 x29 x30 x31 x32 x33 x34 x35 x36 x37 x38 x39 x40 x41 x42 x43 x44 x45 x46 x47 x48 x49 x50 x51 x52 x53 x54 x55 x56 x57 x58 x59 x60 x61 x62 x63 x64 x65 x66 x67 x68 x69 x70 x71 x72 x73 x74 x75 x76 x77 x78 x79 x80 x81 x82 x83 x84 x85 x86 x87 x88 x89 x90 x91 x92 x93 x94 x95 x96 x97 x98 x99 G H L N S T aip W aiq air ais ait x112 x113 x114 x115 aiu aiv aiw aix aiy aiz aiA aiB aiC aiD aiE aiF amk aml amm amn amo amq amr ams amt amu amv amw amx amy amz amA amB amC amD amE amF x150 x151 x152 x153 amG amH amI x157 x158 x159 x160 amJ amK amL amM amN aiG x167 x168 aiH aiI aiJ aiK aiL aiM aiN aiO aiP aiQ aiR aiS aiT aiU aiV aiW aiX aiY aiZ:Value)
 (aed:∀(w':X) (y6 y8 y10 y15 y16 ai0 ai1 ai2 ai3 ai4 ai5 ai6 ai7 ai8 ai9 aja ajb ajc ajd aje ajf ajg ajh aji ajj ajk y150 y151 y152 y153 ajl ajm ajn y157 y158 y159 y160 ajo ajp ajq ajr ajs:Value),(∃(p3:Nat) (body:ae) (bo:ai) (bc:Nat) (ov:Bool) (c nb:Nat),y6=I J p3∧y10=I J (c:Int)∧y15=Z bo nb bc∧y16=.bool ov∧nb=body.length∧q+a<=p3∧(ov=true->c=0->p3<=b.length)∧B8 w w5 b (u+1) a3 c3 (n+1) (es++[.head { h with d:=k }]) p3 body bo bc ov c w')->Q0 .normal ⟨(List.toArray ((Z (M ⟨B,D,U⟩) b.length cap)::x1::x2::x3::x4::x5::(y6)::x7::(y8)::x9::(y10)::x11::x12::x13::(I J k)::(y15)::(y16)::x17::x18::x19::x20::x21::x22::x23::x24::x25::x26::x27::x28::x29::x30::x31::x32::x33::x34::x35::x36::x37::x38::x39::x40::x41::x42::x43::x44::x45::x46::x47::x48::x49::x50::x51::x52::x53::x54::x55::x56::x57::x58::x59::x60::x61::x62::x63::x64::x65::x66::x67::x68::x69::x70::x71::x72::x73::x74::x75::x76::x77::x78::x79::x80::x81::x82::x83::x84::x85::x86::x87::x88::x89::x90::x91::x92::x93::x94::x95::x96::x97::x98::x99::G::H::L::N::S::T::aip::W::aiq::air::ais::ait::x112::x113::x114::x115::aiu::aiv::aiw::aix::aiy::aiz::aiA::aiB::aiC::aiD::aiE::aiF::(.bool (decide (k≥0)))::(ai0)::(ai1)::(ai2)::(ai3)::(ai4)::(ai5)::(ai6)::(ai7)::(ai8)::(ai9)::(aja)::(ajb)::(ajc)::(ajd)::(aje)::(ajf)::(ajg)::(ajh)::(aji)::(ajj)::(ajk)::(y150)::(y151)::(y152)::(y153)::(ajl)::(ajm)::(ajn)::(y157)::(y158)::(y159)::(y160)::(ajo)::(ajp)::(ajq)::(ajr)::(ajs)::aiG::x167::x168::aiH::aiI::aiJ::aiK::aiL::aiM::aiN::aiO::aiP::aiQ::aiR::aiS::aiT::aiU::aiV::aiW::aiX::aiY::aiZ::[])),[]⟩ w') :
 Code.wp prog Uh Q0 ⟨(List.toArray ((Z (M ⟨B,D,U⟩) b.length cap)::x1::x2::x3::x4::x5::(I J ((q:Int)+a))::x7::x8::x9::(I J 0)::x11::x12::x13::(I J k)::(Z U 0 0)::(.bool true)::x17::x18::x19::x20::x21::x22::x23::x24::x25::x26::x27::x28::x29::x30::x31::x32::x33::x34::x35::x36::x37::x38::x39::x40::x41::x42::x43::x44::x45::x46::x47::x48::x49::x50::x51::x52::x53::x54::x55::x56::x57::x58::x59::x60::x61::x62::x63::x64::x65::x66::x67::x68::x69::x70::x71::x72::x73::x74::x75::x76::x77::x78::x79::x80::x81::x82::x83::x84::x85::x86::x87::x88::x89::x90::x91::x92::x93::x94::x95::x96::x97::x98::x99::G::H::L::N::S::T::aip::W::aiq::air::ais::ait::x112::x113::x114::x115::aiu::aiv::aiw::aix::aiy::aiz::aiA::aiB::aiC::aiD::aiE::aiF::(.bool (decide (k≥0)))::amk::aml::amm::amn::amo::amq::amr::ams::amt::amu::amv::amw::amx::amy::amz::amA::amB::amC::amD::amE::amF::x150::x151::x152::x153::amG::amH::amI::x157::x158::x159::x160::amJ::amK::amL::amM::amN::aiG::x167::x168::aiH::aiI::aiJ::aiK::aiL::aiM::aiN::aiO::aiP::aiQ::aiR::aiS::aiT::aiU::aiV::aiW::aiX::aiY::aiZ::[])),[]⟩ w5:=by
 have hcap:=hb.1;have GK:=aa hR5;have HKr:=yf hln;have HX:=aa aed;unfold pc at r;rw[hln] at r;simp only at r;have j:(b.drop (q+a)).length=b.length-(q+a):=bV;obtain⟨j0,hj0,hy0,hy1,hy2⟩:=info_parts il;have Hj:=aa hj0;have Jj:=aa hy0;have Jk:=aa hy1;have Jl:=aa hy2
 clear hj0 hy0 hy1 hy2   hR5 hln aed ;conv=>arg 2;whnf
 by_cases hk0:0<=k
 . obtain⟨g,rfl⟩:=Int.eq_ofNat_of_zero_le hk0;have t1:=aV (by omega);have hk4:g<=4000:=by rcases HKr with e | e <;> omega
   have v:=r;rw[if_pos hk0] at v;by_cases hen:g<=b.length-(q+a)
   . have t2:decide ((b.length:Int)-((q:Int)+a)≥g)=true:=aV (by omega);rw[if_pos (by rw[j];simpa using hen)] at v;simp only[Int.toNat_natCast,oD] at v;have x:Hid (et b=((es++[.head { h with d:=(g:Int) }])++eu ((b.drop (q+a)).take g)++(iE (u+1) (b.drop (q+a+g)) true 0).1,(iE (u+1) (b.drop (q+a+g)) true 0).2)):=by
      unfold Hid;rw[v];simp
     have y:∀i s,s=cap-(q+a)->(cap≠q+a->i=M ⟨B,D+(q+a),U⟩)->ay w5 i s (((b.drop (q+a)).take g)):=fun i s hc ha=>by
      subst hc;have:=(hb.a wG).f (gQ:=i) (q+a) (q+a+g) (by omega) (by omega) (fun e=>by rw[ha e];simp[Addr.add_lit]);rw[show q+a+g-(q+a)=g by omega] at this;exact this
     by_cases m:cap=q+a
     . obtain rfl:g=0:=by omega
       subst m;go_wp2_with (at_builtin;refine nQ rfl (.tmp 136) (.tmp 142) 31 rfl w5.heap.size 5 j0 underlying31 Hj.o Jj.o Jk.o Jl.o (l:=[]) rfl rfl (bC.e _ _ _) (l2:=(b.drop (q+a)).take 0) rfl (by rw[bP,j];omega) (y _ _ (by omega) (fun e=>absurd rfl e)) (by omega) (ak _) ?_;intro d f w6 p TA;have z:=aa p;have t:=aa TA;clear p TA)
       exact HX.o _ _ _ _ _ _ _ _ _ _ _ _ _ _ _ _ _ _ _ _ _ _ _ _ _ _ _ _ _ _ _ _ _ _ _ _ _ _ _ _ _ _ _ ⟨q+a+0,(b.drop (q+a)).take 0,d,f,true,0,0,by go_num,rfl,by simp,rfl,by simp,by omega,(fun _ _=>by omega),sA GK.o (by simpa using z.o) (CH t.o) x.o⟩
     . go_wp2_with (at_builtin;refine nQ rfl (.tmp 136) (.tmp 142) 31 rfl w5.heap.size 5 j0 underlying31 Hj.o Jj.o Jk.o Jl.o (l:=[]) rfl rfl (bC.e _ _ _) (l2:=(b.drop (q+a)).take g) rfl (by rw[bP,j];omega) (y _ _ (by omega) (fun _=>by simp)) (by omega) (ak _) ?_;intro d f w6 p TA;have z:=aa p;have t:=aa TA;clear p TA)
       exact HX.o _ _ _ _ _ _ _ _ _ _ _ _ _ _ _ _ _ _ _ _ _ _ _ _ _ _ _ _ _ _ _ _ _ _ _ _ _ _ _ _ _ _ _ ⟨q+a+g,(b.drop (q+a)).take g,d,f,true,0,g,by go_num,rfl,by simp,rfl,by rw[bP,j];omega,by omega,(fun _ _=>by omega),sA GK.o (by simpa using z.o) (CH t.o) x.o⟩
   . have t2:decide ((b.length:Int)-((q:Int)+a)≥g)=F:=aW (by omega);rw[if_neg (by rw[j];simpa using hen)] at v;have x:Hid (et b=((es++[.head { h with d:=(g:Int) }])++eu (b.drop (q+a))++(iE (u+1) (b.drop b.length) F 0).1,(iE (u+1) (b.drop b.length) F 0).2)):=by
      unfold Hid;rw[v,List.drop_length];simp
     have y:∀i s,s=cap-(q+a)->(cap≠q+a->i=M ⟨B,D+(q+a),U⟩)->ay w5 i s (b.drop (q+a)):=fun i s hc ha=>by
      subst hc;have:=(hb.a wG).f (gQ:=i) (q+a) b.length (by omega) (by omega) (fun e=>by rw[ha e];simp[Addr.add_lit]);rw[jy (by rw[j];omega)] at this;exact this
     by_cases m:cap=q+a
     . have e1:b.length=q+a:=by omega
       have e3:b.length-(q+a)=0:=by omega
       have hnil:b.drop (q+a)=[]:=lz (by omega);have ajt:=aa x.o;rw[hnil] at ajt;have HE1:=aa e1;clear e1 hnil;subst m;go_wp2;exact HX.o _ _ _ _ _ _ _ _ _ _ _ _ _ _ _ _ _ _ _ _ _ _ _ _ _ _ _ _ _ _ _ _ _ _ _ _ _ _ _ _ _ _ _ ⟨b.length,[],U,0,F,0,0,rfl,rfl,rfl,rfl,rfl,by have:=HE1.o;omega,(fun _ _=>ak _),sA GK.o (bC.e _ _ _) (aq _ _) ajt.o⟩
     . go_wp2_with (at_builtin;refine nQ rfl (.tmp 147) (.tmp 150) 31 rfl w5.heap.size 5 j0 underlying31 Hj.o Jj.o Jk.o Jl.o (l:=[]) rfl rfl (bC.e _ _ _) (l2:=b.drop (q+a)) rfl j (y _ _ (by omega) (fun _=>by simp)) (by omega) (ak _) ?_;intro d f w6 p TA;have z:=aa p;have t:=aa TA;clear p TA)
       exact HX.o _ _ _ _ _ _ _ _ _ _ _ _ _ _ _ _ _ _ _ _ _ _ _ _ _ _ _ _ _ _ _ _ _ _ _ _ _ _ _ _ _ _ _ ⟨b.length,b.drop (q+a),d,f,F,0,b.length-(q+a),rfl,rfl,by simp,rfl,j.symm,by omega,(fun _ _=>ak _),sA GK.o (by simpa using z.o) (CH t.o) x.o⟩
 . obtain rfl:k=-1:=by rcases HKr with e | e <;> omega
   have t1:decide ((-1:Int)≥0)=F:=by decide
   have v:=r;rw[if_neg hk0,oD] at v;have x:Hid (et b=((es++[.head { h with d:=-1 }])++eu (eU (b.drop (q+a))).b++(iE (u+1) (b.drop (q+a+(eU (b.drop (q+a))).a)) (eU (b.drop (q+a))).d (eU (b.drop (q+a))).c).1,(iE (u+1) (b.drop (q+a+(eU (b.drop (q+a))).a)) (eU (b.drop (q+a))).d (eU (b.drop (q+a))).c).2)):=by
    unfold Hid;rw[v];simp
   have HUs:(eU (b.drop (q+a))).d=true->(eU (b.drop (q+a))).c=0->q+a+(eU (b.drop (q+a))).a<=b.length:=fun _ _=>by
    have:=C9 (b.drop (q+a));rw[j] at this;omega
   have hus:=C9 (b.drop (q+a));rw[j] at hus;have HCh:∀i s,s=cap-(q+a)->(cap≠q+a->i=M ⟨B,D+(q+a),U⟩)->Calls prog 55 #[Z i (b.length-(q+a)) s] w5 fun e w'=>ys w5 (b.drop (q+a)) e w':=fun i s hc ha=>by
    subst hc;have:=(hb.a wG).f (gQ:=i) (q+a) b.length (by omega) (by omega) (fun e=>by rw[ha e];simp[Addr.add_lit]);rw[jy (by rw[j];omega)] at this;have h2:=hCk ⟨{ h with d:=-1 },by rw[x.o];simp,by show(-1:Int)<0;decide⟩ (b.drop (q+a)) i (cap-(q+a)) w5 this (by rw[j];omega);rw[j] at h2;exact h2
   by_cases m:cap=q+a
   . have e3:b.length-(q+a)=0:=by omega
     have XR:=HCh (M ⟨B,D,U⟩) 0 (by omega) (fun e=>absurd m e);rw[e3] at XR;unfold ys at XR;generalize eU (b.drop (q+a))=C at *;subst m;go_wp2_with fail;refine XR.mono ?_;rintro e w6 ⟨d,f,rfl,p,hb6⟩;have z:=p;have wB:=aa hb6
     go_wp2;exact HX.o _ _ _ _ _ _ _ _ _ _ _ _ _ _ _ _ _ _ _ _ _ _ _ _ _ _ _ _ _ _ _ _ _ _ _ _ _ _ _ _ _ _ _ ⟨q+a+C.a,C.b,d,f,C.d,C.c,C.b.length,by go_num,rfl,rfl,rfl,rfl,by omega,HUs,sA GK.o z wB.o x.o⟩
   . have XR:=aa (HCh (M ⟨B,D+(q+a),U⟩) (cap-(q+a)) rfl (fun _=>rfl));unfold ys at XR;generalize eU (b.drop (q+a))=C at *;go_wp2_with fail;refine XR.o.mono ?_;rintro e w6 ⟨d,f,rfl,p,hb6⟩;have z:=p;have wB:=aa hb6
     go_wp2;exact HX.o _ _ _ _ _ _ _ _ _ _ _ _ _ _ _ _ _ _ _ _ _ _ _ _ _ _ _ _ _ _ _ _ _ _ _ _ _ _ _ _ _ _ _ ⟨q+a+C.a,C.b,d,f,C.d,C.c,C.b.length,by go_num,rfl,rfl,rfl,rfl,by omega,HUs,sA GK.o z wB.o x.o⟩
theorem LR (b:ai)(cap:Nat)(w:X)(j:ay w b cap []):
 Calls prog 19 #[Z b 0 cap] w fun e w'=>∃a2 f,e=Y (.tuple #[Z a2 (et []).1.length f,.bool (et []).2])∧sJ w' a2 f ((et []).1.map aS.d)∧Below w.heap.size w w':=by
 have k:=j.2.1;have g:Below w.heap.size w (w.alloc (K #[Z U 0 0] 58)):=(aq _ _).alloc (ak _) _;have m:(w.alloc (K #[Z U 0 0] 58)).cell? ⟨w.heap.size,0,U⟩=M (Z U 0 0):=World.cell?_alloc_mark w _ _ _ 0;by_cases i:cap=0
 . subst i;go_enter func19,ntmps19;go_wp2;refine wp_loop_rounds 1 ?_;rw[rounds_succ];go_wp2_with fail;refine(FK _ _ (fun _=>rfl) _).mono ?_;rintro e l ⟨rfl,c⟩;subst c;go_wp2;(try simp only[Exit.inBlock,Exit.then]);go_ret2;exact⟨U,0,rfl,sJ.d _,g⟩
 . obtain⟨a,rfl⟩:∃a,b=M a:=by
    cases b with
    | none=>exact absurd (k rfl) i
    | some a=>exact⟨a,rfl⟩
   go_enter func19,ntmps19;go_wp2;refine wp_loop_rounds 1 ?_;rw[rounds_succ];go_wp2_with fail;refine(FK _ _ (fun e=>by cases e) _).mono ?_;rintro e l ⟨rfl,c⟩;subst c;go_wp2;(try simp only[Exit.inBlock,Exit.then]);go_ret2;exact⟨U,0,rfl,sJ.d _,g⟩
