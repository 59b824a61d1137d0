/- Small texts, one behind the other: JlB, JlC, StA, TuLw, StRm. -/
import Derived.Test.YthhklgjjnaeaoaaGreatDoorPk37
import Derived.Deep.RegionLaw
open Go.Value renaming int->I,slice->Z,pointer->Q
open Go.IntKind renaming i64->J
open Go.Ending renaming returned->Y
open Option renaming none->U,some->M
open Or renaming inl->A
open Go renaming World->X
set_option maxHeartbeats 2000000
open Go.Proofs.Tryz
namespace Go.Proofs.YthhklgjjnaeaoaaGreatDoor
open Go.RowKit
section
variable {w w':X} {base g:Nat} {b:av} {sure:Nat} {ao:ak} {ca:Nat}
def Yp (g:Nat)(ao:ak):Nat->Prop:=fun k=>k=g∨fV ao=M k
theorem je.wrote (h:je w base g b sure ao ca){x:av}{n:Nat}{gJ:ak}{BS:Nat}{d:X}(o:iA d base 5 gJ BS (b++x))(j:w.grownBy d (fV ao))(c:fV gJ=fV ao∨fV gJ=M w.heap.size)(p:n=(b++x).length)(q:n<=100000):
 d.heap[g]? = M (.cells #[Z ao b.length ca,I J (sure:Int)] 144 (0,0))∧je (d.setCell ⟨g,0,U⟩ (Z gJ n BS)) base g (b++x) sure gJ BS∧Turns (Yp g ao) w (d.setCell ⟨g,0,U⟩ (Z gJ n BS)):=by
 have f:M g≠fV ao:=fun e=>by
  cases ao with
  | none=>cases e
  | some a=>injection e with e;exact h.apart a rfl e.symm
 have l:=(j.block g h.lt f).trans h.row;have m:Turns (fun k=>k=g) d (d.setCell ⟨g,0,U⟩ (Z gJ n BS)):=Turns.setCell _ d _ _ rfl;have i:∀a,gJ=M a->¬a.block=g:=fun a e r=>by
  rcases c with c | c
  . rw[e] at c;exact f (by rw[<-c,<-r];rfl)
  . rw[e] at c;injection c with c;have:=h.lt;omega
 subst p;refine⟨l,⟨fu d g 0 _ _ _ l,o.turns m i,h.low,by rw[aV];have:=h.le;omega,q⟩,(Turns.iL (S:=Yp g ao) j (fun k e=>Or.inr e)).trans m (fun k e _=>A e)⟩
theorem mH (h:je w base g b sure ao ca)(t:ak)(u n:Nat)(x:av)(S:gN w t u x)(v:x.length=n)(y:b.length+n<=100000):Calls prog 202 #[Q (M ⟨g,0,U⟩),Z t n u] w fun e w'=>∃gJ BS,e=Y (I J 0)∧je w' base g (b++x) sure gJ BS∧Turns (Yp g ao) w w'∧(fV gJ=fV ao∨fV gJ=M w.heap.size):=by
 obtain⟨⟨T,c1⟩,f0,f1⟩:=kG h.row;have W:Calls prog 226 #[Q (M ⟨g,0,U⟩),I J (n:Int)] w fun e w'=>e=Y (.bool true)∧w'=w:=by
  have:=vR h (n:Int);rw[aI (by omega),aI (by omega)] at this;exact this
 obtain⟨i0,f,i,j,k⟩:=info_parts jJ;have Hi:=f;have kY:=H9 i;have kT:=H9 j;have kZ:=H9 k
 have z:∀gJ BS a,iA a base 5 gJ BS (b++x)->w.grownBy a (fV ao)->(fV gJ=fV ao∨fV gJ=M w.heap.size)->a.heap[g]? = M (.cells #[Z ao b.length ca,I J (sure:Int)] 144 (0,0))∧je (a.setCell ⟨g,0,U⟩ (Z gJ (b.length+n) BS)) base g (b++x) sure gJ BS∧Turns (Yp g ao) w (a.setCell ⟨g,0,U⟩ (Z gJ (b.length+n) BS)):=fun gJ BS a hO hG p=>h.wrote hO hG p (by rw[aV,v]) y;have HO:=h.own;have q:base<=w.heap.size:=by have:=h.low;have:=h.lt;omega
 obtain⟨m,B⟩:∃m,b.length=m:=⟨_,rfl⟩;rw[B] at T y z;go_enter func202,ntmps202;go_wp2_with (first
  | (go_at_call 226;refine W.mono ?_;rintro e w2 ⟨rfl,C⟩;rw[C];clear C)
  | (at_builtin;refine jP rfl (.tmp 14) (.tmp 15) 31 rfl base 5 i0 underlying31 Hi kY.o kT.o kZ.o (l:=b) (l2:=x) rfl B HO rfl v S (by omega) q ?_;intro D G a c d r;obtain⟨H,L,N⟩:=z D G a c d r;obtain⟨⟨d0,d1⟩,e0,e1⟩:=kG H;have s:=H9 (And.intro L (And.intro N r));clear c d r H L N))
 go_ret;exact⟨D,G,rfl,s.o⟩
theorem nJ (h:je w base g b sure ao ca)(c:ak)(d n:Nat)(i:¬b.length+n<=100000):Calls prog 202 #[Q (M ⟨g,0,U⟩),Z c n d] w fun e w'=>e=Y (I J 16)∧w'=w:=by
 have f:Calls prog 226 #[Q (M ⟨g,0,U⟩),I J (n:Int)] w fun e w'=>e=Y (.bool false)∧w'=w:=by
  have:=vR h (n:Int);rw[aI (show(0:Int)<=n by omega),aJ (by omega)] at this;exact this
 go_enter func202,ntmps202;go_wp2_with (go_at_call 226;refine f.mono ?_;rintro e j ⟨rfl,a⟩;rw[a];clear a)
 go_ret;exact⟨rfl,rfl⟩
def oZ (keep:Int)(d:Nat):Nat:=min (max keep 0).toNat d
theorem IC (h:je w base g b sure ao ca)(a:Int):Calls prog 104 #[Q (M ⟨g,0,U⟩),I J a] w fun e w'=>e=Y (.tuple #[])∧je w' base g (b.take (sure+oZ a (b.length-sure))) (sure+oZ a (b.length-sure)) ao ca∧Turns (fun k=>k=g) w w':=by
 obtain⟨⟨D,G⟩,H,L⟩:=kG h.row;have N:=h.le;have mO:=h.few;have hd:oZ a (b.length-sure)<=b.length-sure:=by unfold oZ;omega
 have f:Hid (∀W,Below w.heap.size w W->je W base g b sure ao ca):=fun W i=>h.stay i;have q:Hid ((oZ a (b.length-sure):Int)=if a<0 then 0 else if (b.length:Int)-sure<a then (b.length:Int)-sure else a):=by
  unfold Hid oZ;split
  . omega
  . split <;> omega
 have S:IntKind.i64.wrap ((b.length:Int)-sure)=(b.length:Int)-sure:=ko (by omega) (by omega);have T:Hid (∀W,Below w.heap.size w W->Calls prog 106 #[Q (M ⟨g,0,U⟩),I J ((sure:Int)+(oZ a (b.length-sure):Int))] W fun e w'=>e=Y (.tuple #[])∧je w' base g (b.take (sure+oZ a (b.length-sure))) sure ao ca∧Turns (fun k=>k=g) W w'):=fun W i=>by
  have d:=f.o W i;by_cases hc:sure+oZ a (b.length-sure)<b.length
  . have:=DV d (sure+oZ a (b.length-sure)) hc;rw[show min sure (sure+oZ a (b.length-sure))=sure by omega] at this;simpa using this
  . have e:sure+oZ a (b.length-sure)=b.length:=by omega
    rw[e,bN];refine(Gp d _ (by omega)).mono fun e w' ⟨h1,z⟩=>⟨h1,by rw[z];exact d,by rw[z];exact Turns.refl _ _⟩
 have qU:Hid ((b.take (sure+oZ a (b.length-sure))).length=sure+oZ a (b.length-sure)):=by unfold Hid;rw[bW];omega
 clear h;generalize b.take (sure+oZ a (b.length-sure))=B at *;generalize oZ a (b.length-sure)=c at *;have hst:sure+c<=100000:=by omega
 generalize b.length=m at *;go_enter func104,ntmps104;go_upto_region 0 with fail
 go_cut [4] (fun v wd=>v=I J (c:Int)∧Below w.heap.size w wd)
 case first =>
  have s:Hid (Below w.heap.size w w.drew):=gy _ _;by_cases t:a<0
  . have e:(c:Int)=0:=by have:=q.o;rwa[if_pos t] at this
    have hk0:¬(m:Int)-sure<0:=by omega
    go_region
    all_goals
     go_wp2;go_meet;exact⟨by rw[e],s.o⟩
  . by_cases j:(m:Int)-sure<a
    . have e:(c:Int)=(m:Int)-sure:=by have:=q.o;rwa[if_neg t,if_pos j] at this
      go_region
      all_goals
       go_wp2;go_meet;exact⟨by rw[e],s.o⟩
    . have e:(c:Int)=a:=by have:=q.o;rwa[if_neg t,if_neg j] at this
      go_region
      all_goals
       go_wp2;go_meet;exact⟨by rw[e],s.o⟩
 case rest =>
  obtain⟨rfl,r⟩:=hcut;have d:=f.o wc r;obtain⟨⟨d0,d1⟩,_⟩:=kG d.row;have HC:=H9 (T.o wc r);have HB:=H9 r;have hwz:IntKind.i64.wrap ((sure:Int)+c)=(sure:Int)+c:=ko (by omega) (by omega);clear d r D G H L q;have IE:Hid (∀W,je W base g B sure ao ca->Calls prog 150 #[Q (M ⟨g,0,U⟩)] W fun e w'=>e=Y (.tuple #[])∧je w' base g B (sure+c) ao ca∧Turns (fun k=>k=g) W w'):=fun W i=>by
   have:=Bj i;rw[qU.o] at this;exact this
  go_wp2_with (first
   | (go_at_call 106;refine HC.o.mono ?_;rintro e w3 ⟨rfl,l,n⟩;have u:=H9 l;have x:=H9 n;clear l n)
   | (go_at_call 150;refine(IE.o _ u.o).mono ?_;rintro e w4 ⟨rfl,p,C⟩;have y:=H9 p;have V6:=H9 C;clear p C))
  go_end0
  exact⟨rfl,y.o,((Turns.of_below HB.o).trans x.o (fun _ e _=>e)).trans V6.o (fun _ e _=>e)⟩
end
theorem je.turns {w w':X}{c g:Nat}{b:av}{d:Nat}{ao:ak}{e:Nat}{S:Nat->Prop}(h:je w c g b d ao e)(f:Turns S w w')(i:¬S g)(ha:∀a,ao=M a->¬S a.block):je w' c g b d ao e:=⟨f.row h.row i,h.own.turns f ha,h.low,h.le,h.few⟩
section
end
structure rW (w:X)(S:Nat->Prop)(g gs gl:Nat)(ao:ak)(ca:Nat)(P:Nat->Prop)(s:Sr.Sh):Prop where
 row:w.heap[g]? = M (.cells #[Q (M ⟨gs,0,U⟩),Q (M ⟨gl,0,U⟩)] 45 (0,0))
 sQ:gL w P gs s.h
 log:je w 0 gl s.log s.sure ao ca
 self:S g
 inP:∀k,P k->S k∧k≠g∧¬Yp gl ao k
 Ql:∀k,Yp gl ao k->S k∧k≠g
def gX (w:X)(S:Nat->Prop)(g:Nat)(s:Sr.Sh):Prop:=∃gs gl ao ca P,rW w S g gs gl ao ca P s
section
variable {w w' w1 w2 w3:X} {S S' P P':Nat->Prop} {g gs gl:Nat} {ao:ak} {ca:Nat} {s:Sr.Sh}
theorem rW.far (h:rW w S g gs gl ao ca P s):∀k,Yp gl ao k->k<w.heap.size:=fun k e=>by
 rcases e with e | e
 . rw[e];exact h.log.lt
 . cases ao with
   | none=>cases e
   | some a=>injection e with e;subst e;exact(h.log.own.block a rfl).2
theorem rW.lt (h:rW w S g gs gl ao ca P s):g<w.heap.size:=(aL.1 h.row).1
theorem rW.turns (h:rW w S g gs gl ao ca P s)(c:Turns S' w w')(b:∀k,S k->¬S' k):rW w' S g gs gl ao ca P s :=
 ⟨c.row h.row (b g h.self),h.sQ.turns c (fun k e=>b k (h.inP k e).1),h.log.turns c (b _ (h.Ql gl (A rfl)).1) (fun a e=>b _ (h.Ql a.block (Or.inr (by rw[e];rfl))).1),h.self,h.inP,h.Ql⟩
theorem rW.stay (h:rW w S g gs gl ao ca P s)(a:Below w.heap.size w w'):rW w' S g gs gl ao ca P s:=h.turns (Turns.of_below (S:=fun _=>False) a) (fun _ _ e=>e)
theorem rW.mono (h:rW w S g gs gl ao ca P s)(a:∀k,k<w.heap.size->S k->S' k):rW w S' g gs gl ao ca (fun k=>P k∧k<w.heap.size) s :=
 ⟨h.row,h.sQ.mono (fun _ b e=>⟨e,b⟩),h.log,a g h.lt h.self,fun k e=>⟨a k e.2 (h.inP k e.1).1,(h.inP k e.1).2⟩,fun k e=>⟨a k (h.far k e) (h.Ql k e).1,(h.Ql k e).2⟩⟩
theorem gX.turns (h:gX w S g s)(a:Turns S' w w')(b:∀k,S k->¬S' k):gX w' S g s:=by
 obtain⟨gs,gl,ao,ca,P,h⟩:=h;exact⟨gs,gl,ao,ca,P,h.turns a b⟩
theorem gX.stay (h:gX w S g s)(a:Below w.heap.size w w'):gX w' S g s:=h.turns (Turns.of_below (S:=fun _=>False) a) (fun _ _ e=>e)
theorem gX.mono (h:gX w S g s)(a:∀k,k<w.heap.size->S k->S' k):gX w S' g s:=by
 obtain⟨gs,gl,ao,ca,P,h⟩:=h;exact⟨gs,gl,ao,ca,_,h.mono a⟩
end
structure iw (S:Nat->Prop)(w:X)(g:Nat)(r:Sr.Sh×Nat)(e:Ending)(w':X):Prop where
 ret:e=Y (I J (r.2:Int))
 at_:gX w' (gB S w) g r.1
 turns:Turns S w w'
section
variable {w w' w1 w2 w3:X} {S S' P P':Nat->Prop} {g gs gl:Nat} {ao:ak} {ca:Nat} {s:Sr.Sh}
theorem iw.none_ {c:Nat}(h:gX w S g s)(a:Below w.heap.size w w'){r:Sr.Sh×Nat}(b:r=(s,c)):iw S w g r (Y (I J (c:Int))) w':=by
 subst b;exact⟨rfl,(h.stay a).mono (fun k _ e=>A e),Turns.of_below a⟩
theorem iw.from_ {r:Sr.Sh×Nat}{e:Ending}(a:Below w.heap.size w w1)(h:iw S w1 g r e w'):iw S w g r e w':=by
 have b:=a.size;refine⟨h.ret,h.at_.mono (fun k _ e=>?_),(Turns.of_below a).trans h.turns (fun _ e _=>e)⟩;rcases e with e | e
 . exact A e
 . exact Or.inr (by omega)
theorem rW.laid {b:Nat}{m:Sp.St}{n:av}{o:Nat}{gJ:ak}{BS:Nat}(h:rW w S g gs gl ao ca P s)(p:Below w.heap.size w w1)(u:gL w1 (fun k=>w.heap.size<=k) b m)(v:je w2 0 gl n o gJ BS)(q:Turns (Yp gl ao) w1 w2)(j:fV gJ=fV ao∨fV gJ=M w1.heap.size):
 w2.heap[g]? = M (.cells #[Q (M ⟨gs,0,U⟩),Q (M ⟨gl,0,U⟩)] 45 (0,0))∧gX (w2.setCell ⟨g,0,U⟩ (Q (M ⟨b,0,U⟩))) (gB S w) g ⟨m,n,o⟩∧Turns S w (w2.setCell ⟨g,0,U⟩ (Q (M ⟨b,0,U⟩))):=by
 have x:=p.size;have i:=h.far;have y:=h.lt;have r:=(Turns.of_below p).trans q (fun _ e _=>e);have t:=r.row h.row (fun e=>(h.Ql g e).2 rfl);have l:Turns (fun k=>k=g) w2 (w2.setCell ⟨g,0,U⟩ (Q (M ⟨b,0,U⟩))):=Turns.setCell (fun k=>k=g) w2 _ _ rfl;have d:∀k,Yp gl gJ k->Yp gl ao k∨k=w1.heap.size:=fun k e=>by
  rcases e with e | e
  . exact A (A e)
  . rcases j with a | a
    . exact A (Or.inr (a▸e))
    . rw[a] at e;injection e with e;exact Or.inr e.symm
 refine⟨t,⟨b,gl,gJ,BS,fun k=>w.heap.size<=k∧k<w1.heap.size,?_,?_,?_,A h.self,fun k e=>⟨Or.inr e.1,by omega,fun f=>?_⟩,fun k e=>?_⟩,?_⟩
 . exact fu w2 g 0 _ _ _ t
 . exact((u.mono (S':=fun k=>w.heap.size<=k∧k<w1.heap.size) (fun k z e=>⟨e,z⟩)).turns q (fun k e f=>by have:=i k f;omega)).turns l (fun k e f=>by subst f;omega)
 . refine v.turns l (fun e=>(h.Ql gl (A rfl)).2 e) (fun a e f=>?_);rcases d a.block (Or.inr (by rw[e];rfl)) with c | c
   . exact(h.Ql _ c).2 f
   . omega
 . rcases d k f with c | c
   . have:=i k c;omega
   . omega
 . rcases d k e with c | c
   . exact⟨A (h.Ql k c).1,(h.Ql k c).2⟩
   . exact⟨Or.inr (by omega),by omega⟩
 . exact(r.mono (fun k e=>(h.Ql k e).1)).trans (l.mono (fun k e=>by subst e;exact h.self)) (fun _ e _=>e)
end
theorem iy:zm gX:=⟨gX.turns,gX.mono⟩
def Tu.ours (t:ay):Bool:=decide (t=Tu.rU)||(decide (7<=t.size)&&decide (t.data.toList.take 7=Tu.kU.data.toList))
section
variable {s:Sr.Sh} {S:Nat->Prop} {g:Nat} {w:X}
theorem uE (h:gX w S g s)(n:Int):
 Calls prog 177 #[Q (M ⟨g,0,U⟩),I J n] w fun e w'=>e=Y (.bool (decide (0<=n)&&decide (n<=100000-(s.log.length:Int))))∧w'=w:=by
 obtain⟨d,f,i,j,P,a⟩:=h;obtain⟨⟨k,l⟩,_⟩:=kG a.row;have c:=vR a.log n;generalize (decide (0<=n)&&decide (n<=100000-(s.log.length:Int)))=r at *;go_enter func177,ntmps177;go_wp2_with fail
 refine c.mono ?_;rintro e m ⟨rfl,b⟩;rw[b];clear b;go_wp2;go_ret;exact⟨rfl,rfl⟩
end
end Go.Proofs.YthhklgjjnaeaoaaGreatDoor