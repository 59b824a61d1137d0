import Derived.Test.YtodmelffkfbalaaGreatDoorPk38
import Derived.Deep.RegionLaw
open Go.Value renaming int->I,slice->Z,pointer->Q
open Go.IntKind renaming i64->J
open Go.Ending renaming returned->Y
open Option renaming none->U,some->M
open Or renaming inl->A
open Go renaming World->X
set_option maxHeartbeats 2000000
open Go.Proofs.Tryz
namespace Go.Proofs.YtodmelffkfbalaaGreatDoor
open Go.RowKit
section
variable {w w':X} {base g:Nat} {b:ab} {sure:Nat} {ao:ag} {ca:Nat}
def nZ (g:Nat)(ao:ag):Nat->Prop:=fun k=>k=g∨aw ao=M k
theorem dH.H (h:dH w base g b sure ao ca){x:ab}{n:Nat}{gL:ag}{zN:Nat}{d:X}(o:bl d base 5 gL zN (b++x))(j:w.grownBy d (aw ao))(c:aw gL=aw ao∨aw gL=M w.heap.size)(p:n=(b++x).length)(q:n<=100000):
 d.heap[g]? = M (.cells #[Z ao b.length ca,I J (sure:Int)] 182 (0,0))∧dH (d.setCell ⟨g,0,U⟩ (Z gL n zN)) base g (b++x) sure gL zN∧am (nZ g ao) w (d.setCell ⟨g,0,U⟩ (Z gL n zN)):=by
 have f:M g≠aw ao:=fun e=>by
  cases ao with
  | none=>cases e
  | some a=>injection e with e;exact h.r a rfl e.symm
 have l:=(j.block g h.f f).trans h.a;have m:am (fun k=>k=g) d (d.setCell ⟨g,0,U⟩ (Z gL n zN)):=am.r _ d _ _ rfl;have i:∀a,gL=M a->¬a.block=g:=fun a e r=>by
  rcases c with c | c
  . rw[e] at c;exact f (by rw[<-c,<-r];rfl)
  . rw[e] at c;injection c with c;have:=h.f;omega
 subst p;refine⟨l,⟨aP d g 0 _ _ _ l,o.j m i,h.e,by rw[aD];have:=h.h;omega,q⟩,(am.G (S:=nZ g ao) j (fun k e=>Or.inr e)).a m (fun k e _=>A e)⟩
theorem sT (h:dH w base g b sure ao ca)(t:ag)(u n:Nat)(x:ab)(S:aB w t u x)(v:x.length=n)(y:b.length+n<=100000):Calls prog 240 #[Q (M ⟨g,0,U⟩),Z t n u] w fun e w'=>∃gL zN,e=Y (I J 0)∧dH w' base g (b++x) sure gL zN∧am (nZ g ao) w w'∧(aw gL=aw ao∨aw gL=M w.heap.size):=by
 obtain⟨⟨T,c1⟩,f0,f1⟩:=ce h.a;have W:Calls prog 270 #[Q (M ⟨g,0,U⟩),I J (n:Int)] w fun e w'=>e=Y (.bool true)∧w'=w:=by
  have:=BI h (n:Int);rw[br (by omega),br (by omega)] at this;exact this
 obtain⟨i0,f,i,j,k⟩:=info_parts gG;have Hi:=f;have lg:=aa i;have kZ:=aa j;have lq:=aa k
 have z:∀gL zN a,bl a base 5 gL zN (b++x)->w.grownBy a (aw ao)->(aw gL=aw ao∨aw gL=M w.heap.size)->a.heap[g]? = M (.cells #[Z ao b.length ca,I J (sure:Int)] 182 (0,0))∧dH (a.setCell ⟨g,0,U⟩ (Z gL (b.length+n) zN)) base g (b++x) sure gL zN∧am (nZ g ao) w (a.setCell ⟨g,0,U⟩ (Z gL (b.length+n) zN)):=fun gL zN a hO hG p=>h.H hO hG p (by rw[aD,v]) y;have HO:=h.c;have q:base<=w.heap.size:=by have:=h.e;have:=h.f;omega
 obtain⟨m,B⟩:∃m,b.length=m:=⟨_,rfl⟩;rw[B] at T y z;go_enter func240,ntmps240;go_wp2_with (first
  | (go_at_call 270;refine W.mono ?_;rintro e w2 ⟨rfl,C⟩;rw[C];clear C)
  | (at_builtin;refine sM rfl (.tmp 14) (.tmp 15) 31 rfl base 5 i0 underlying31 Hi lg.o kZ.o lq.o (l:=b) (l2:=x) rfl B HO rfl v S (by omega) q ?_;intro D G a c d r;obtain⟨H,L,N⟩:=z D G a c d r;obtain⟨⟨d0,d1⟩,e0,e1⟩:=ce H;have s:=aa (And.intro L (And.intro N r));clear c d r H L N))
 go_ret;exact⟨D,G,rfl,s.o⟩
theorem sX (h:dH w base g b sure ao ca)(c:ag)(d n:Nat)(i:¬b.length+n<=100000):Calls prog 240 #[Q (M ⟨g,0,U⟩),Z c n d] w fun e w'=>e=Y (I J 16)∧w'=w:=by
 have f:Calls prog 270 #[Q (M ⟨g,0,U⟩),I J (n:Int)] w fun e w'=>e=Y (.bool false)∧w'=w:=by
  have:=BI h (n:Int);rw[br (show(0:Int)<=n by omega),ba (by omega)] at this;exact this
 go_enter func240,ntmps240;go_wp2_with (go_at_call 270;refine f.mono ?_;rintro e j ⟨rfl,a⟩;rw[a];clear a)
 go_ret;exact⟨rfl,rfl⟩
def jv (keep:Int)(d:Nat):Nat:=min (max keep 0).toNat d
theorem L3 (h:dH w base g b sure ao ca)(a:Int):Calls prog 126 #[Q (M ⟨g,0,U⟩),I J a] w fun e w'=>e=Y (.tuple #[])∧dH w' base g (b.take (sure+jv a (b.length-sure))) (sure+jv a (b.length-sure)) ao ca∧am (fun k=>k=g) w w':=by
 obtain⟨⟨D,G⟩,H,L⟩:=ce h.a;have N:=h.h;have mH:=h.d;have hd:jv a (b.length-sure)<=b.length-sure:=by unfold jv;omega
 have f:Hid (∀W,Below w.heap.size w W->dH W base g b sure ao ca):=fun W i=>h.j i;have q:Hid ((jv a (b.length-sure):Int)=if a<0 then 0 else if (b.length:Int)-sure<a then (b.length:Int)-sure else a):=by
  unfold Hid jv;split
  . omega
  . split <;> omega
 have S:IntKind.i64.wrap ((b.length:Int)-sure)=(b.length:Int)-sure:=ja (by omega) (by omega);have T:Hid (∀W,Below w.heap.size w W->Calls prog 128 #[Q (M ⟨g,0,U⟩),I J ((sure:Int)+(jv a (b.length-sure):Int))] W fun e w'=>e=Y (.tuple #[])∧dH w' base g (b.take (sure+jv a (b.length-sure))) sure ao ca∧am (fun k=>k=g) W w'):=fun W i=>by
  have d:=f.o W i;by_cases hc:sure+jv a (b.length-sure)<b.length
  . have:=CT d (sure+jv a (b.length-sure)) hc;rw[show min sure (sure+jv a (b.length-sure))=sure by omega] at this;simpa using this
  . have e:sure+jv a (b.length-sure)=b.length:=by omega
    rw[e,eQ];refine(Er d _ (by omega)).mono fun e w' ⟨h1,z⟩=>⟨h1,by rw[z];exact d,by rw[z];exact am.B _ _⟩
 have sQ:Hid ((b.take (sure+jv a (b.length-sure))).length=sure+jv a (b.length-sure)):=by unfold Hid;rw[bU];omega
 clear h;generalize b.take (sure+jv a (b.length-sure))=B at *;generalize jv a (b.length-sure)=c at *;have hst:sure+c<=100000:=by omega
 generalize b.length=m at *;go_enter func126,ntmps126;go_upto_region 0 with fail
 go_cut [4] (fun v wd=>v=I J (c:Int)∧Below w.heap.size w wd)
 case first =>
  have s:Hid (Below w.heap.size w w.drew):=bj _ _;by_cases t:a<0
  . have e:(c:Int)=0:=by have:=q.o;rwa[if_pos t] at this
    have hk0:¬(m:Int)-sure<0:=by omega
    go_region
    all_goals
     go_wp2;go_meet;exact⟨by rw[e],s.o⟩
  . by_cases j:(m:Int)-sure<a
    . have e:(c:Int)=(m:Int)-sure:=by have:=q.o;rwa[if_neg t,if_pos j] at this
      go_region
      all_goals
       go_wp2;go_meet;exact⟨by rw[e],s.o⟩
    . have e:(c:Int)=a:=by have:=q.o;rwa[if_neg t,if_neg j] at this
      go_region
      all_goals
       go_wp2;go_meet;exact⟨by rw[e],s.o⟩
 case rest =>
  obtain⟨rfl,r⟩:=hcut;have d:=f.o wc r;obtain⟨⟨d0,d1⟩,_⟩:=ce d.a;have HC:=aa (T.o wc r);have HB:=aa r;have hwz:IntKind.i64.wrap ((sure:Int)+c)=(sure:Int)+c:=ja (by omega) (by omega);clear d r D G H L q;have Jz:Hid (∀W,dH W base g B sure ao ca->Calls prog 181 #[Q (M ⟨g,0,U⟩)] W fun e w'=>e=Y (.tuple #[])∧dH w' base g B (sure+c) ao ca∧am (fun k=>k=g) W w'):=fun W i=>by
   have:=Cf i;rw[sQ.o] at this;exact this
  go_wp2_with (first
   | (go_at_call 128;refine HC.o.mono ?_;rintro e w3 ⟨rfl,l,n⟩;have u:=aa l;have x:=aa n;clear l n)
   | (go_at_call 181;refine(Jz.o _ u.o).mono ?_;rintro e w4 ⟨rfl,p,C⟩;have y:=aa p;have XE:=aa C;clear p C))
  go_end0
  exact⟨rfl,y.o,((am.f HB.o).a x.o (fun _ e _=>e)).a XE.o (fun _ e _=>e)⟩
end
theorem dH.y {w w':X}{c g:Nat}{b:ab}{d:Nat}{ao:ag}{e:Nat}{S:Nat->Prop}(h:dH w c g b d ao e)(f:am S w w')(i:¬S g)(ha:∀a,ao=M a->¬S a.block):dH w' c g b d ao e:=⟨f.y h.a i,h.c.j f ha,h.e,h.h,h.d⟩
structure ll (w:X)(S:Nat->Prop)(g gs gl:Nat)(ao:ag)(ca:Nat)(P:Nat->Prop)(s:av):Prop where
 a:w.heap[g]? = M (.cells #[Q (M ⟨gs,0,U⟩),Q (M ⟨gl,0,U⟩)] 45 (0,0))
 d:cD w P gs s.h
 b:dH w 0 gl s.a s.b ao ca
 h:S g
 e:∀k,P k->S k∧k≠g∧¬nZ gl ao k
 c:∀k,nZ gl ao k->S k∧k≠g
def aS (w:X)(S:Nat->Prop)(g:Nat)(s:av):Prop:=∃gs gl ao ca P,ll w S g gs gl ao ca P s
section
variable {w w' w1 w2 w3:X} {S S' P P':Nat->Prop} {g gs gl:Nat} {ao:ag} {ca:Nat} {s:av}
theorem ll.B (h:ll w S g gs gl ao ca P s):∀k,nZ gl ao k->k<w.heap.size:=fun k e=>by
 rcases e with e | e
 . rw[e];exact h.b.f
 . cases ao with
   | none=>cases e
   | some a=>injection e with e;subst e;exact(h.b.c.a a rfl).2
theorem ll.j (h:ll w S g gs gl ao ca P s):g<w.heap.size:=(bO.1 h.a).1
theorem ll.G (h:ll w S g gs gl ao ca P s)(c:am S' w w')(b:∀k,S k->¬S' k):ll w' S g gs gl ao ca P s :=
 ⟨c.y h.a (b g h.h),h.d.y c (fun k e=>b k (h.e k e).1),h.b.y c (b _ (h.c gl (A rfl)).1) (fun a e=>b _ (h.c a.block (Or.inr (by rw[e];rfl))).1),h.h,h.e,h.c⟩
theorem ll.f (h:ll w S g gs gl ao ca P s)(a:Below w.heap.size w w'):ll w' S g gs gl ao ca P s:=h.G (am.f (S:=fun _=>False) a) (fun _ _ e=>e)
theorem ll.H (h:ll w S g gs gl ao ca P s)(a:∀k,k<w.heap.size->S k->S' k):ll w S' g gs gl ao ca (fun k=>P k∧k<w.heap.size) s :=
 ⟨h.a,h.d.f (fun _ b e=>⟨e,b⟩),h.b,a g h.j h.h,fun k e=>⟨a k e.2 (h.e k e.1).1,(h.e k e.1).2⟩,fun k e=>⟨a k (h.B k e) (h.c k e).1,(h.c k e).2⟩⟩
theorem aS.j (h:aS w S g s)(a:am S' w w')(b:∀k,S k->¬S' k):aS w' S g s:=by
 obtain⟨gs,gl,ao,ca,P,h⟩:=h;exact⟨gs,gl,ao,ca,P,h.G a b⟩
theorem aS.f (h:aS w S g s)(a:Below w.heap.size w w'):aS w' S g s:=h.j (am.f (S:=fun _=>False) a) (fun _ _ e=>e)
theorem aS.a (h:aS w S g s)(a:∀k,k<w.heap.size->S k->S' k):aS w S' g s:=by
 obtain⟨gs,gl,ao,ca,P,h⟩:=h;exact⟨gs,gl,ao,ca,_,h.H a⟩
theorem aS.r (h:aS w S g s):g<w.heap.size:=by
 obtain⟨gs,gl,ao,ca,P,h⟩:=h;exact h.j
end
structure du (S:Nat->Prop)(w:X)(g:Nat)(r:av×Nat)(e:Ending)(w':X):Prop where
 d:e=Y (I J (r.2:Int))
 c:aS w' (ay S w) g r.1
 b:am S w w'
section
variable {w w' w1 w2 w3:X} {S S' P P':Nat->Prop} {g gs gl:Nat} {ao:ag} {ca:Nat} {s:av}
theorem du.a {c:Nat}(h:aS w S g s)(a:Below w.heap.size w w'){r:av×Nat}(b:r=(s,c)):du S w g r (Y (I J (c:Int))) w':=by
 subst b;exact⟨rfl,(h.f a).a (fun k _ e=>A e),am.f a⟩
theorem du.f {r:av×Nat}{e:Ending}(a:Below w.heap.size w w1)(h:du S w1 g r e w'):du S w g r e w':=by
 have b:=a.size;refine⟨h.d,h.c.a (fun k _ e=>?_),(am.f a).a h.b (fun _ e _=>e)⟩;rcases e with e | e
 . exact A e
 . exact Or.inr (by omega)
theorem ll.r {b:Nat}{m:aA}{n:ab}{o:Nat}{gL:ag}{zN:Nat}(h:ll w S g gs gl ao ca P s)(p:Below w.heap.size w w1)(u:cD w1 (fun k=>w.heap.size<=k) b m)(v:dH w2 0 gl n o gL zN)(q:am (nZ gl ao) w1 w2)(j:aw gL=aw ao∨aw gL=M w1.heap.size):
 w2.heap[g]? = M (.cells #[Q (M ⟨gs,0,U⟩),Q (M ⟨gl,0,U⟩)] 45 (0,0))∧aS (w2.setCell ⟨g,0,U⟩ (Q (M ⟨b,0,U⟩))) (ay S w) g ⟨m,n,o⟩∧am S w (w2.setCell ⟨g,0,U⟩ (Q (M ⟨b,0,U⟩))):=by
 have x:=p.size;have i:=h.B;have y:=h.j;have r:=(am.f p).a q (fun _ e _=>e);have t:=r.y h.a (fun e=>(h.c g e).2 rfl);have l:am (fun k=>k=g) w2 (w2.setCell ⟨g,0,U⟩ (Q (M ⟨b,0,U⟩))):=am.r (fun k=>k=g) w2 _ _ rfl;have d:∀k,nZ gl gL k->nZ gl ao k∨k=w1.heap.size:=fun k e=>by
  rcases e with e | e
  . exact A (A e)
  . rcases j with a | a
    . exact A (Or.inr (a▸e))
    . rw[a] at e;injection e with e;exact Or.inr e.symm
 refine⟨t,⟨b,gl,gL,zN,fun k=>w.heap.size<=k∧k<w1.heap.size,?_,?_,?_,A h.h,fun k e=>⟨Or.inr e.1,by omega,fun f=>?_⟩,fun k e=>?_⟩,?_⟩
 . exact aP w2 g 0 _ _ _ t
 . exact((u.f (S':=fun k=>w.heap.size<=k∧k<w1.heap.size) (fun k z e=>⟨e,z⟩)).y q (fun k e f=>by have:=i k f;omega)).y l (fun k e f=>by subst f;omega)
 . refine v.y l (fun e=>(h.c gl (A rfl)).2 e) (fun a e f=>?_);rcases d a.block (Or.inr (by rw[e];rfl)) with c | c
   . exact(h.c _ c).2 f
   . omega
 . rcases d k f with c | c
   . have:=i k c;omega
   . omega
 . rcases d k e with c | c
   . exact⟨A (h.c k c).1,(h.c k c).2⟩
   . exact⟨Or.inr (by omega),by omega⟩
 . exact(r.j (fun k e=>(h.c k e).1)).a (l.j (fun k e=>by subst e;exact h.h)) (fun _ e _=>e)
end
theorem bH:oY aS:=⟨aS.j,aS.a⟩
def sq (t:ae):Bool:=decide (t=nY)||(decide (7<=t.size)&&decide (t.data.toList.take 7=kr.data.toList))
section
variable {s:av} {S:Nat->Prop} {g:Nat} {w:X}
theorem yo (h:aS w S g s)(n:Int):
 Calls prog 215 #[Q (M ⟨g,0,U⟩),I J n] w fun e w'=>e=Y (.bool (decide (0<=n)&&decide (n<=100000-(s.a.length:Int))))∧w'=w:=by
 obtain⟨d,f,i,j,P,a⟩:=h;obtain⟨⟨k,l⟩,_⟩:=ce a.a;have c:=BI a.b n;generalize (decide (0<=n)&&decide (n<=100000-(s.a.length:Int)))=r at *;go_enter func215,ntmps215;go_wp2_with fail;refine c.mono ?_;rintro e m ⟨rfl,b⟩;rw[b];clear b;go_wp2;go_ret;exact⟨rfl,rfl⟩
