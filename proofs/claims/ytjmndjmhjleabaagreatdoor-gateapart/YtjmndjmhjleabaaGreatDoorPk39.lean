/- Small texts, one behind the other: JrB, JrF, JlA, JlB, JlC, StA, ShA, TuN, TuLw, JrD, StRm. -/
import Derived.Test.YtjmndjmhjleabaaGreatDoorPk27
import Derived.Test.YtjmndjmhjleabaaGreatDoorPk37
import Derived.Deep.RegionLaw
open Go.Value renaming int->I,slice->Z,pointer->Q
open Go.IntKind renaming i64->J
open Go.Obj renaming cells->K
open Go.Ending renaming returned->Y
open Option renaming none->U,some->M
open Bool renaming false->F
open Or renaming inl->A
open Go renaming World->X
set_option maxHeartbeats 2000000
set_option maxRecDepth 100000
open Go.Proofs.Tryz
namespace Go.Proofs.YtjmndjmhjleabaaGreatDoor
open Go.RowKit
theorem zN (n:Int)(w:X):Calls prog 271 #[I J n] w fun e w'=>e=Y (.bool (decide (-1<=n)&&decide (n<=1073741823)))∧w'=w:=by
 by_cases a:-1<=n
 . by_cases b:n<=1073741823
   . go_enter func271,ntmps271;go_wp2;go_ret;exact⟨iA (by simp[a,b]),rfl⟩
   . have c:Hid (decide (n<=1073741823)=F):=aI b;go_enter func271,ntmps271;go_wp2;go_ret;exact⟨iA (by rw[c.o];try simp),rfl⟩
 . have d:Hid (decide (-1<=n)=F):=aI a;go_enter func271,ntmps271;go_wp2;go_ret;exact⟨iA (by rw[d.o];rfl),rfl⟩
theorem Zg (e:Jn.E):Jn.fits e=(decide (1<=e.kind)&&(decide (e.kind<=6)&&((decide (-1<=e.id)&&decide (e.id<=1073741823))&&((decide (-1<=e.n)&&decide (e.n<=1073741823))&&decide (e.text.length<=1048575))))):=by
 simp only[Jn.fits,Bool.and_assoc]
theorem R6 (x:Jn.E)(q:aj)(j r:Nat)(s:x.text.length=j)(w:X):Calls prog 238 #[.agg #[I J x.kind,I J x.id,I J x.n,Z q j r]] w fun e w'=>e=Y (.bool (Jn.fits x))∧Below w.heap.size w w':=by
 have d:=H9 (Zg x);have l:Hid (Below w.heap.size w (w.alloc (K #[I J x.kind,I J x.id,I J x.n,Z q j r] 217))):=(fI _ w).alloc (aL _) _;have c:=H9 (fun W=>zN x.id W);have g:=H9 (fun W=>zN x.n W);rw[s] at d;clear s;generalize Jn.fits x=f at *;generalize x.kind=k at *;generalize x.id=i at *;generalize x.n=n at *;generalize (decide (-1<=i)&&decide (i<=1073741823))=y at *;generalize (decide (-1<=n)&&decide (n<=1073741823))=z at *;by_cases t:1<=k
 . by_cases u:k<=6
   . cases y with
     | true =>
       cases z with
       | true =>
         by_cases v:j<=1048575
         . have p:(j:Int)<=1048575:=by omega
           go_enter func238,ntmps238;go_wp2_with (first
            | (go_at_call_of 271 i;refine(c.o _).mono ?_;rintro e m ⟨rfl,a⟩;rw[a];clear a)
            | (go_at_call_of 271 n;refine(g.o _).mono ?_;rintro e m ⟨rfl,a⟩;rw[a];clear a))
           go_ret;exact⟨iA (by rw[d.o];simp[t,u,v]),l.o⟩
         . have p:¬(j:Int)<=1048575:=by omega
           have b:Hid (f=F):=by unfold Hid;have:=d.o;rw[aI v] at this;simpa using this
           go_enter func238,ntmps238;go_wp2_with (first
            | (go_at_call_of 271 i;refine(c.o _).mono ?_;rintro e m ⟨rfl,a⟩;rw[a];clear a)
            | (go_at_call_of 271 n;refine(g.o _).mono ?_;rintro e m ⟨rfl,a⟩;rw[a];clear a))
           go_ret;exact⟨by rw[b.o];simp;omega,l.o⟩
       | false =>
         go_enter func238,ntmps238;go_wp2_with (first
          | (go_at_call_of 271 i;refine(c.o _).mono ?_;rintro e m ⟨rfl,a⟩;rw[a];clear a)
          | (go_at_call_of 271 n;refine(g.o _).mono ?_;rintro e m ⟨rfl,a⟩;rw[a];clear a))
         go_ret;exact⟨iA (by rw[d.o];simp),l.o⟩
     | false =>
       go_enter func238,ntmps238;go_wp2_with (go_at_call 271;refine(c.o _).mono ?_;rintro e m ⟨rfl,a⟩;rw[a];clear a)
       go_ret;exact⟨iA (by rw[d.o];simp),l.o⟩
   . have b:Hid (f=F):=by unfold Hid;have:=d.o;rw[aI u] at this;simpa using this
     go_enter func238,ntmps238;go_wp2;go_ret;exact⟨iA b.o.symm,l.o⟩
 . have b:Hid (f=F):=by unfold Hid;have:=d.o;rw[aI t] at this;simpa using this
   go_enter func238,ntmps238;go_wp2;go_ret;exact⟨iA b.o.symm,l.o⟩
theorem Zh {W:X}{g t:Nat}{a b c:Value}(h:W.heap[g]? = M (K #[a,b,c] t (0,0))):(W.cell? ⟨g,0,U⟩=M a∧W.cell? ⟨g,1,U⟩=M b∧W.cell? ⟨g,2,U⟩=M c)∧(W.frozen? ⟨g,0,U⟩=F∧W.frozen? ⟨g,1,U⟩=F∧W.frozen? ⟨g,2,U⟩=F) :=
 ⟨⟨fJ W g 0 _ _ _ h,fJ W g 1 _ _ _ h,fJ W g 2 _ _ _ h⟩,fK W g 0 _ _ h,fK W g 1 _ _ h,fK W g 2 _ _ h⟩
structure kP (w:X)(base g:Nat)(b:au)(sure:Nat)(ao:aj)(ca:Nat):Prop where
 row:w.heap[g]? = M (K #[Z ao b.length ca,I J (sure:Int)] 119 (0,0))
 own:iD w base 5 ao ca b
 low:base<=g
 le:sure<=b.length
 few:b.length<=100000
theorem ql {W:X}{g t:Nat}{a b:Value}(h:W.heap[g]? = M (K #[a,b] t (0,0))):(W.cell? ⟨g,0,U⟩=M a∧W.cell? ⟨g,1,U⟩=M b)∧(W.frozen? ⟨g,0,U⟩=F∧W.frozen? ⟨g,1,U⟩=F) :=
 ⟨⟨fJ W g 0 _ _ _ h,fJ W g 1 _ _ _ h⟩,fK W g 0 _ _ h,fK W g 1 _ _ h⟩
section
variable {w w':X} {base g:Nat} {b:au} {sure:Nat} {ao:aj} {ca:Nat}
theorem kP.stay (h:kP w base g b sure ao ca)(a:Below w.heap.size w w'):kP w' base g b sure ao ca:=⟨(a.block g (aK.1 h.row).1).trans h.row,h.own.stay a,h.low,h.le,h.few⟩
theorem kP.lt (h:kP w base g b sure ao ca):g<w.heap.size:=(aK.1 h.row).1
theorem ad9:(119:Nat)≠5:=by decide
theorem kP.apart (h:kP w base g b sure ao ca):∀a,ao=M a->a.block≠g:=by
 intro a e c;have:=lF h.row h.own ad9;rw[gN,e] at this;exact this (by rw[<-c];rfl)
theorem NS (w:X):Calls prog 23 #[] w fun e w'=>e=Y (Q (M ⟨w.heap.size,0,U⟩))∧kP w' w.heap.size w.heap.size [] 0 U 0∧Below w.heap.size w w':=by
 have H:Hid (kP (w.alloc (K #[Z U 0 0,I J 0] 119)) w.heap.size w.heap.size [] 0 U 0∧Below w.heap.size w (w.alloc (K #[Z U 0 0,I J 0] 119))) :=
  ⟨⟨fH w _,iD.nil _ _ _,aL _,aL _,by decide⟩,(fI _ w).alloc (aL _) _⟩
 go_enter func23,ntmps23;go_wp2;go_ret;exact⟨rfl,H.o⟩
theorem wD (h:kP w base g b sure ao ca)(n:Int):Calls prog 169 #[Q (M ⟨g,0,U⟩),I J n] w fun e w'=>e=Y (.bool (decide (0<=n)&&decide (n<=100000-(b.length:Int))))∧w'=w:=by
 obtain⟨⟨f,i⟩,_⟩:=ql h.row;have j:=h.few;have k:IntKind.i64.wrap (100000-(b.length:Int))=100000-(b.length:Int):=lY (by omega) (by omega);clear h;generalize b.length=m at *;by_cases c:0<=n
 . by_cases d:n<=100000-(m:Int)
   . have a:Hid ((decide (0<=n)&&decide (n<=100000-(m:Int)))=true):=by unfold Hid;rw[aH c,aH d];rfl
     generalize (decide (0<=n)&&decide (n<=100000-(m:Int)))=r at *;go_enter func169,ntmps169;go_wp2;go_ret;exact⟨by rw[a.o];first | rfl | simp,rfl⟩
   . have a:Hid ((decide (0<=n)&&decide (n<=100000-(m:Int)))=F):=by unfold Hid;rw[aI d];simp
     generalize (decide (0<=n)&&decide (n<=100000-(m:Int)))=r at *;go_enter func169,ntmps169;go_wp2;go_ret;exact⟨by rw[a.o];first | rfl | (simp;done) | (simp;omega),rfl⟩
 . have a:Hid ((decide (0<=n)&&decide (n<=100000-(m:Int)))=F):=by unfold Hid;rw[aI c];rfl
   generalize (decide (0<=n)&&decide (n<=100000-(m:Int)))=r at *;go_enter func169,ntmps169;go_wp2;go_ret;exact⟨by rw[a.o];first | rfl | simp,rfl⟩
theorem kP.put (h:kP w base g b sure ao ca)(n:Nat)(c:n<=b.length):kP (w.setCell ⟨g,1,U⟩ (I J (n:Int))) base g b n ao ca∧Turns (fun k=>k=g) w (w.setCell ⟨g,1,U⟩ (I J (n:Int))):=by
 have a:Turns (fun k=>k=g) w (w.setCell ⟨g,1,U⟩ (I J (n:Int))):=Turns.setCell _ w _ _ rfl;exact⟨⟨fM w g 1 _ _ _ h.row,h.own.turns a h.apart,h.low,c,h.few⟩,a⟩
theorem K9 (h:kP w base g b sure ao ca):Calls prog 163 #[Q (M ⟨g,0,U⟩)] w fun e w'=>e=Y (.tuple #[])∧kP w' base g b b.length ao ca∧Turns (fun k=>k=g) w w':=by
 obtain⟨⟨c,d⟩,f,i⟩:=ql h.row;have a:=H9 (h.put b.length (aL _));clear h;generalize b.length=m at *;go_enter func163,ntmps163;go_wp2;go_end0
 exact⟨rfl,a.o⟩
end
section
variable {w w':X} {base g:Nat} {b:au} {sure:Nat} {ao:aj} {ca:Nat}
def V7 (g:Nat)(ao:aj):Nat->Prop:=fun k=>k=g∨gK ao=M k
theorem kP.wrote (h:kP w base g b sure ao ca){x:au}{n:Nat}{gV:aj}{f:Nat}{d:X}(p:iD d base 5 gV f (b++x))(l:w.grownBy d (gK ao))(c:gK gV=gK ao∨gK gV=M w.heap.size)(q:n=(b++x).length)(r:n<=100000):
 d.heap[g]? = M (K #[Z ao b.length ca,I J (sure:Int)] 119 (0,0))∧kP (d.setCell ⟨g,0,U⟩ (Z gV n f)) base g (b++x) sure gV f∧Turns (V7 g ao) w (d.setCell ⟨g,0,U⟩ (Z gV n f)):=by
 have i:M g≠gK ao:=fun e=>by
  cases ao with
  | none=>cases e
  | some a=>injection e with e;exact h.apart a rfl e.symm
 have m:d.heap[g]? = M (K #[Z ao b.length ca,I J (sure:Int)] 119 (0,0)):=(l.block g h.lt i).trans h.row;have o:Turns (fun k=>k=g) d (d.setCell ⟨g,0,U⟩ (Z gV n f)):=Turns.setCell _ d _ _ rfl;have j:∀a,gV=M a->¬a.block=g:=fun a e s=>by
  rcases c with c | c
  . rw[e] at c;exact i (by rw[<-c,<-s];rfl)
  . rw[e] at c;injection c with c;have:=h.lt;omega
 subst q;refine⟨m,⟨fM d g 0 _ _ _ m,p.turns o j,h.low,by rw[aV];have:=h.le;omega,r⟩,(Turns.iY (S:=V7 g ao) l (fun k e=>Or.inr e)).trans o (fun k e _=>A e)⟩
theorem qF (h:kP w base g b sure ao ca)(y:aj)(z n:Nat)(x:au)(B:iG w y z x)(q:x.length=n)(C:b.length+n<=100000):Calls prog 206 #[Q (M ⟨g,0,U⟩),Z y n z] w fun e w'=>∃gV c,e=Y (I J 0)∧kP w' base g (b++x) sure gV c∧Turns (V7 g ao) w w'∧(gK gV=gK ao∨gK gV=M w.heap.size):=by
 obtain⟨⟨S,c1⟩,f0,f1⟩:=ql h.row;have T:=H9 B;have W:Hid (Calls prog 169 #[Q (M ⟨g,0,U⟩),I J (n:Int)] w fun e w'=>e=Y (.bool true)∧w'=w):=by
  have:=wD h (n:Int);rw[aH (by omega),aH (by omega)] at this;exact this
 obtain⟨i0,d,f,i,j⟩:=info_parts jN;have Hi:=H9 d;have kJ:=H9 f;have kG:=H9 i;have kK:=H9 j
 have D:Hid (∀gV c a,iD a base 5 gV c (b++x)->w.grownBy a (gK ao)->(gK gV=gK ao∨gK gV=M w.heap.size)->a.heap[g]? = M (K #[Z ao b.length ca,I J (sure:Int)] 119 (0,0))∧kP (a.setCell ⟨g,0,U⟩ (Z gV (b.length+n) c)) base g (b++x) sure gV c∧Turns (V7 g ao) w (a.setCell ⟨g,0,U⟩ (Z gV (b.length+n) c))):=fun gV c a hO hG r=>h.wrote hO hG r (by rw[aV,q]) C;have HO:=H9 h.own;have s:base<=w.heap.size:=by have:=h.low;have:=h.lt;omega
 have HN:=H9 q;obtain⟨m,t⟩:∃m,b.length=m:=⟨_,rfl⟩;have HM:=H9 t;rw[t] at S C D;clear h B q t d f i j;go_enter func206,ntmps206;go_wp2_with (first
  | (go_at_call 169;refine W.o.mono ?_;rintro e w2 ⟨rfl,G⟩;rw[G];clear G)
  | (at_builtin;refine iI rfl (.tmp 14) (.tmp 15) 31 rfl base 5 i0 underlying31 Hi.o kJ.o kG.o kK.o (l:=b) (l2:=x) rfl HM.o HO.o rfl HN.o T.o (by omega) s ?_;intro H L a k p u;obtain⟨N,O,P⟩:=D.o H L a k p u;obtain⟨⟨d0,d1⟩,e0,e1⟩:=ql N;have v:=H9 (And.intro O (And.intro P u));clear k p u N O P))
 go_ret;exact⟨H,L,rfl,v.o⟩
theorem sN (h:kP w base g b sure ao ca)(c:aj)(d n:Nat)(f:¬b.length+n<=100000):Calls prog 206 #[Q (M ⟨g,0,U⟩),Z c n d] w fun e w'=>e=Y (I J 16)∧w'=w:=by
 have i:Hid (Calls prog 169 #[Q (M ⟨g,0,U⟩),I J (n:Int)] w fun e w'=>e=Y (.bool F)∧w'=w):=by
  have:=wD h (n:Int);rw[aH (show(0:Int)<=n by omega),aI (by omega)] at this;exact this
 clear h f;go_enter func206,ntmps206;go_wp2_with (go_at_call 169;refine i.o.mono ?_;rintro e j ⟨rfl,a⟩;rw[a];clear a)
 go_ret;exact⟨rfl,rfl⟩
end
theorem kP.turns {w w':X}{c g:Nat}{b:au}{d:Nat}{ao:aj}{e:Nat}{S:Nat->Prop}(h:kP w c g b d ao e)(f:Turns S w w')(i:¬S g)(ha:∀a,ao=M a->¬S a.block):kP w' c g b d ao e:=⟨f.row h.row i,h.own.turns f ha,h.low,h.le,h.few⟩
section
end
structure uR (w:X)(S:Nat->Prop)(g gs gl:Nat)(ao:aj)(ca:Nat)(P:Nat->Prop)(s:Sr.Sh):Prop where
 row:w.heap[g]? = M (K #[Q (M ⟨gs,0,U⟩),Q (M ⟨gl,0,U⟩)] 45 (0,0))
 wE:iU w P gs s.h
 log:kP w 0 gl s.log s.sure ao ca
 self:S g
 inP:∀k,P k->S k∧k≠g∧¬V7 gl ao k
 Qs:∀k,V7 gl ao k->S k∧k≠g
def iH (w:X)(S:Nat->Prop)(g:Nat)(s:Sr.Sh):Prop:=∃gs gl ao ca P,uR w S g gs gl ao ca P s
section
variable {w w' w1 w2 w3:X} {S S' P P':Nat->Prop} {g gs gl:Nat} {ao:aj} {ca:Nat} {s:Sr.Sh}
theorem uR.far (h:uR w S g gs gl ao ca P s):∀k,V7 gl ao k->k<w.heap.size:=fun k e=>by
 rcases e with e | e
 . rw[e];exact h.log.lt
 . cases ao with
   | none=>cases e
   | some a=>injection e with e;subst e;exact(h.log.own.block a rfl).2
theorem uR.lt (h:uR w S g gs gl ao ca P s):g<w.heap.size:=(aK.1 h.row).1
theorem uR.turns (h:uR w S g gs gl ao ca P s)(c:Turns S' w w')(b:∀k,S k->¬S' k):uR w' S g gs gl ao ca P s :=
 ⟨c.row h.row (b g h.self),h.wE.turns c (fun k e=>b k (h.inP k e).1),h.log.turns c (b _ (h.Qs gl (A rfl)).1) (fun a e=>b _ (h.Qs a.block (Or.inr (by rw[e];rfl))).1),h.self,h.inP,h.Qs⟩
theorem uR.stay (h:uR w S g gs gl ao ca P s)(a:Below w.heap.size w w'):uR w' S g gs gl ao ca P s:=h.turns (Turns.of_below (S:=fun _=>False) a) (fun _ _ e=>e)
theorem uR.mono (h:uR w S g gs gl ao ca P s)(a:∀k,k<w.heap.size->S k->S' k):uR w S' g gs gl ao ca (fun k=>P k∧k<w.heap.size) s :=
 ⟨h.row,h.wE.mono (fun _ b e=>⟨e,b⟩),h.log,a g h.lt h.self,fun k e=>⟨a k e.2 (h.inP k e.1).1,(h.inP k e.1).2⟩,fun k e=>⟨a k (h.far k e) (h.Qs k e).1,(h.Qs k e).2⟩⟩
theorem iH.turns (h:iH w S g s)(a:Turns S' w w')(b:∀k,S k->¬S' k):iH w' S g s:=by
 obtain⟨gs,gl,ao,ca,P,h⟩:=h;exact⟨gs,gl,ao,ca,P,h.turns a b⟩
theorem iH.stay (h:iH w S g s)(a:Below w.heap.size w w'):iH w' S g s:=h.turns (Turns.of_below (S:=fun _=>False) a) (fun _ _ e=>e)
theorem iH.mono (h:iH w S g s)(a:∀k,k<w.heap.size->S k->S' k):iH w S' g s:=by
 obtain⟨gs,gl,ao,ca,P,h⟩:=h;exact⟨gs,gl,ao,ca,_,h.mono a⟩
end
structure jg (S:Nat->Prop)(w:X)(g:Nat)(r:Sr.Sh×Nat)(e:Ending)(w':X):Prop where
 ret:e=Y (I J (r.2:Int))
 at_:iH w' (gM S w) g r.1
 turns:Turns S w w'
section
variable {w w' w1 w2 w3:X} {S S' P P':Nat->Prop} {g gs gl:Nat} {ao:aj} {ca:Nat} {s:Sr.Sh}
theorem jg.none_ {c:Nat}(h:iH w S g s)(a:Below w.heap.size w w'){r:Sr.Sh×Nat}(b:r=(s,c)):jg S w g r (Y (I J (c:Int))) w':=by
 subst b;exact⟨rfl,(h.stay a).mono (fun k _ e=>A e),Turns.of_below a⟩
theorem jg.from_ {r:Sr.Sh×Nat}{e:Ending}(a:Below w.heap.size w w1)(h:jg S w1 g r e w'):jg S w g r e w':=by
 have b:=a.size;refine⟨h.ret,h.at_.mono (fun k _ e=>?_),(Turns.of_below a).trans h.turns (fun _ e _=>e)⟩;rcases e with e | e
 . exact A e
 . exact Or.inr (by omega)
theorem uR.laid {b:Nat}{m:Sp.St}{n:au}{o:Nat}{gV:aj}{p:Nat}(h:uR w S g gs gl ao ca P s)(q:Below w.heap.size w w1)(v:iU w1 (fun k=>w.heap.size<=k) b m)(x:kP w2 0 gl n o gV p)(r:Turns (V7 gl ao) w1 w2)(j:gK gV=gK ao∨gK gV=M w1.heap.size):
 w2.heap[g]? = M (K #[Q (M ⟨gs,0,U⟩),Q (M ⟨gl,0,U⟩)] 45 (0,0))∧iH (w2.setCell ⟨g,0,U⟩ (Q (M ⟨b,0,U⟩))) (gM S w) g ⟨m,n,o⟩∧Turns S w (w2.setCell ⟨g,0,U⟩ (Q (M ⟨b,0,U⟩))):=by
 have y:=q.size;have i:=h.far;have z:=h.lt;have t:Turns (V7 gl ao) w w2:=(Turns.of_below q).trans r (fun _ e _=>e);have u:w2.heap[g]? = M (K #[Q (M ⟨gs,0,U⟩),Q (M ⟨gl,0,U⟩)] 45 (0,0)):=t.row h.row (fun e=>(h.Qs g e).2 rfl);have l:Turns (fun k=>k=g) w2 (w2.setCell ⟨g,0,U⟩ (Q (M ⟨b,0,U⟩))):=Turns.setCell (fun k=>k=g) w2 _ _ rfl;have d:∀k,V7 gl gV k->V7 gl ao k∨k=w1.heap.size:=fun k e=>by
  rcases e with e | e
  . exact A (A e)
  . rcases j with a | a
    . exact A (Or.inr (a▸e))
    . rw[a] at e;injection e with e;exact Or.inr e.symm
 refine⟨u,⟨b,gl,gV,p,fun k=>w.heap.size<=k∧k<w1.heap.size,?_,?_,?_,A h.self,fun k e=>⟨Or.inr e.1,by omega,fun f=>?_⟩,fun k e=>?_⟩,?_⟩
 . exact fM w2 g 0 _ _ _ u
 . exact((v.mono (S':=fun k=>w.heap.size<=k∧k<w1.heap.size) (fun k B e=>⟨e,B⟩)).turns r (fun k e f=>by have:=i k f;omega)).turns l (fun k e f=>by subst f;omega)
 . refine x.turns l (fun e=>(h.Qs gl (A rfl)).2 e) (fun a e f=>?_);rcases d a.block (Or.inr (by rw[e];rfl)) with c | c
   . exact(h.Qs _ c).2 f
   . omega
 . rcases d k f with c | c
   . have:=i k c;omega
   . omega
 . rcases d k e with c | c
   . exact⟨A (h.Qs k c).1,(h.Qs k c).2⟩
   . exact⟨Or.inr (by omega),by omega⟩
 . exact(t.mono (fun k e=>(h.Qs k e).1)).trans (l.mono (fun k e=>by subst e;exact h.self)) (fun _ e _=>e)
end
section
end
section
end
theorem Tu.Yp (x c:av)(l:au)(h:c.data.toList=l):(x=c)<->(x.toList==l)=true:=by
 rw[aS,Lib.toList_data,<-h];refine⟨fun e=>by rw[e],fun e=>?_⟩;cases x;cases c;simp only at e;congr 1;exact fG.1 e
theorem Tu.eqV (v l:au):(v=l)<->((⟨v.toArray⟩:av).toList==l)=true:=by
 rw[aS,Lib.toList_data]
theorem Tu.ahE (t:av):(t.extract 0 7).toList=t.data.toList.take 7:=by
 rw[Lib.toList_data,Lib.extract_data];simp
theorem Tu.aaI (t:av):(t.extract 7 t.size).data.toList=t.data.toList.drop 7:=by
 rw[Lib.extract_data,dN];rw[bU,aN];exact aL _
theorem Tu.QB {t:av}(h:¬(7<t.size∧t.data.toList.take 7=Tu.lH.data.toList∧(Ch.number 10 9 (t.data.toList.drop 7)).2=true∧Ch.jG 8 (Ch.number 10 9 (t.data.toList.drop 7)).1.toNat=t.data.toList.drop 7))(s:Sp.St):Tu.AB s t=U:=by
 unfold Tu.AB Tu.YO;rw[if_neg h]
theorem Tu.Ws {t:av}(h:7<t.size∧t.data.toList.take 7=Tu.lH.data.toList∧(Ch.number 10 9 (t.data.toList.drop 7)).2=true∧Ch.jG 8 (Ch.number 10 9 (t.data.toList.drop 7)).1.toNat=t.data.toList.drop 7)(s:Sp.St):Tu.AB s t=match Sp.place s.l (Ch.number 10 9 (t.data.toList.drop 7)).1 with
 | none=>U
 | some i=>s.l[i]?:=by
 unfold Tu.AB Tu.YO;rw[if_pos h];rfl
theorem Ch.qJ {l:au}(h:(Ch.number 10 9 l).2=true):0<=(Ch.number 10 9 l).1∧(Ch.number 10 9 l).1<1000000000:=by
 have a:¬(l=[]∨(9:Int)<l.length):=fun e=>by unfold Ch.number at h;rw[if_pos e] at h;cases h
 have ha:l.all (Ch.xZ 10)=true:=by
  cases e:l.all (Ch.xZ 10) with
  | true=>rfl
  | false=>unfold Ch.number at h;rw[if_neg a,e] at h;cases h
 unfold Ch.number;rw[if_neg a,if_pos ha];have c:∀(l:au) (n:Int) (B:Nat),0<=n->n<10 ^ B->l.all (Ch.xZ 10)=true->0<=l.foldl (fun n b=>n*10+Ch.hex b.toNat) n∧l.foldl (fun n b=>n*10+Ch.hex b.toNat) n<10 ^ (B+l.length):=by
  intro l;induction l with
  | nil=>intro n B f g _;exact⟨f,g⟩
  | cons b t j =>
    intro n B f g d;rw[dO,cZ] at d;have i:=d.1;unfold Ch.xZ at i;rw[cZ,bQ,bQ] at i;have e:(10:Int) ^ (B+1)=10 ^ B*10:=Int.pow_succ ..;have:=j (n*10+Ch.hex b.toNat) (B+1) (by omega) (by omega) d.2;simp only[dP,aW];rw[show B+(t.length+1)=B+1+t.length by omega];exact this
 have:=c l 0 0 (by omega) (by decide) ha;refine⟨this.1,Int.lt_of_lt_of_le this.2 ?_⟩;rw[aZ];have k:l.length<=9:=by
  rcases aT 9 l.length with e | e
  . exact absurd (Or.inr (by omega)) a
  . exact e
 calc (10:Int) ^ l.length<=10 ^ 9:=by exact_mod_cast Nat.pow_le_pow_right (by decide) k
  _=1000000000:=by decide
theorem iJ:Ep iH:=⟨iH.turns,iH.mono⟩
def Tu.ours (t:av):Bool:=decide (t=Tu.sW)||(decide (7<=t.size)&&decide (t.data.toList.take 7=Tu.lH.data.toList))
def sj (x:Jn.E):au×Nat:=if Jn.fits x=true then (Jn.enc x,0) else ([],1)
def pre (x:Jn.E):Nat->au
 | 0=>[]
 | 1=>Jn.nb x.kind
 | 2=>Jn.nb x.kind++Jn.nb x.id
 | _=>Jn.head x
def qL (w:X)(x:Jn.E)(e:Ending)(w':X):Prop:=∃ao cap,e=Y (.tuple #[Z ao (sj x).1.length cap,I J ((sj x).2:Int)])∧iD w' w.heap.size 5 ao cap (sj x).1∧Below w.heap.size w w'
theorem EO {w W:X}{a b c d:Value}{t B:Nat}(e:w.heap.size<B)(h:Below B (w.alloc (K #[a,b,c,d] t)) W):W.cell? ⟨w.heap.size,0,U⟩=M a∧W.cell? ⟨w.heap.size,1,U⟩=M b∧W.cell? ⟨w.heap.size,2,U⟩=M c∧W.cell? ⟨w.heap.size,3,U⟩=M d:=by
 refine⟨?_,?_,?_,?_⟩
 . rw[h.cell (p:=⟨w.heap.size,0,U⟩) e];exact World.cell?_alloc_mark w _ _ _ 0
 . rw[h.cell (p:=⟨w.heap.size,1,U⟩) e];exact World.cell?_alloc_mark w _ _ _ 1
 . rw[h.cell (p:=⟨w.heap.size,2,U⟩) e];exact World.cell?_alloc_mark w _ _ _ 2
 . rw[h.cell (p:=⟨w.heap.size,3,U⟩) e];exact World.cell?_alloc_mark w _ _ _ 3
theorem OJ (W:X)(a b c:Value):
 (Instr.index 274 (.agg #[a,b,c]) (I J 0)).run prog W=.ok a W ∧
 (Instr.index 274 (.agg #[a,b,c]) (I J 1)).run prog W=.ok b W ∧
 (Instr.index 274 (.agg #[a,b,c]) (I J 2)).run prog W=.ok c W:=by
 refine⟨by kernel_rfl,by kernel_rfl,by kernel_rfl⟩
theorem uW (x:Jn.E)(p:aj)(c q:Nat)(w:X)(hT:iG w p q x.text)(N:x.text.length=c):
 Calls prog 205 #[.agg #[I J x.kind,I J x.id,I J x.n,Z p c q]] w fun e w'=>qL w x e w':=by
 have D:Below w.heap.size w (w.alloc (K #[I J x.kind,I J x.id,I J x.n,Z p c q] 217)):=(fI _ w).alloc (aL _) _;have O:=H9 (R6 x p c q N (w.alloc (K #[I J x.kind,I J x.id,I J x.n,Z p c q] 217)));have G:(w.alloc (K #[I J x.kind,I J x.id,I J x.n,Z p c q] 217)).heap.size=w.heap.size+1:=by simp
 have HC:Hid (∀W,Below (w.heap.size+1) (w.alloc (K #[I J x.kind,I J x.id,I J x.n,Z p c q] 217)) W->W.cell? ⟨w.heap.size,0,U⟩=M (I J x.kind)∧W.cell? ⟨w.heap.size,1,U⟩=M (I J x.id)∧W.cell? ⟨w.heap.size,2,U⟩=M (I J x.n)∧W.cell? ⟨w.heap.size,3,U⟩=M (Z p c q)):=fun W h=>EO (by omega) h;rw[G] at O;have HT:Hid (∀W,Below (w.heap.size+1) (w.alloc (K #[I J x.kind,I J x.id,I J x.n,Z p c q] 217)) W->iG W p q x.text):=fun W h=>hT.stay (D.trans (h.mono (by omega)));have P:Hid (∀W,Below (w.heap.size+1) (w.alloc (K #[I J x.kind,I J x.id,I J x.n,Z p c q] 217)) W->Below w.heap.size w W):=fun W h=>D.trans (h.mono (by omega));obtain⟨i0,S,T,hz1,hz2⟩:=info_parts jN;have Hi:=H9 S;have kJ:=H9 T;have kG:=H9 hz1;have kK:=H9 hz2
 clear hT S T hz1 hz2 D;have CK:=H9 G;clear G;cases v:Jn.fits x with
 | false =>
   rw[v] at O;have HE:Hid (sj x=([],1)):=by unfold Hid sj;rw[if_neg (by simp[v])]
   clear v;go_enter func205,ntmps205;go_wp2_with (go_at_call 238;refine O.o.mono ?_;rintro e w2 ⟨rfl,r⟩;have y:=H9 r;clear r)
   go_ret2;exact⟨U,0,by rw[HE.o];rfl,by rw[HE.o];exact iD.nil _ _ _,P.o _ y.o⟩
 | true =>
   rw[v] at O;have HE:Hid (sj x=(Jn.enc x,0)):=by unfold Hid sj;rw[if_pos v]
   obtain⟨k1,k2,k3,k4⟩:=(Jn.Dr x).1 v;have hhl:=Jn.Kk v;have hil:=Jn.xk v;rw[N] at k4;have hin:(Jn.inn x).length=(Jn.head x).length+c:=by rw[Jn.inn,aV,N]
   have ah5:Hid (Jn.enc x=Jn.num ((Jn.head x).length+c+1)++Jn.head x++x.text):=by
    unfold Hid Jn.enc;rw[hin,Jn.inn,dS]
   have HTn:=H9 N;clear v N hin;go_enter func205,ntmps205;go_upto_region 3 with (go_at_call 238;refine O.o.mono ?_;rintro e w2 ⟨rfl,r⟩;have y:=H9 r;clear r)
   have HB1:=H9 (y.o);obtain⟨c0,c1,c2,c3⟩:=HC.o _ y.o;generalize w.alloc (K #[I J x.kind,I J x.id,I J x.n,Z p c q] 217)=w1 at *;go_wp2;have HPl:Hid (∀i,(pre x i).length<=15):=fun i=>by
    have e:(Jn.head x).length=(Jn.nb x.kind).length+(Jn.nb x.id).length+(Jn.nb x.n).length:=by simp[Jn.head,Nat.add_assoc]
    match i with
    | 0=>simp[pre]
    | 1=>simp only[pre];omega
    | 2=>simp only[pre,aV];omega
    | (n+3)=>exact hhl
   go_loopw [4,18] (fun vo vi wr=>∃(i m:Nat) (g:aj) (j:Nat),i<=3∧vi=I J i∧vo=Z g m j∧iD wr (w.heap.size+1) 5 g j (pre x i)∧(pre x i).length=m∧Below (w.heap.size+1) w1 wr) (fun _ vi _=>3-(intOf vi).toNat)
   case atStart=>exact⟨0,0,U,0,by omega,rfl,rfl,iD.nil _ _ _,rfl,HB1.o⟩
   case round =>
    obtain⟨i,m,g,j,hi,rfl,rfl,hO,hL,hB⟩:=hrel;have HO:=H9 hO;have s:=H9 hB;have t:=H9 hL
    have hm:m<=15:=by have:=HPl.o i;omega
    clear hO hB hL;rcases(show i=0∨i=1∨i=2∨i=3 by omega) with rfl | rfl | rfl | rfl
    . have H:Hid (∀W g j m,iD W (w.heap.size+1) 5 g j (pre x 0)->(pre x 0).length=m->m<=15->Below (w.heap.size+1) w1 W->Calls prog 239 #[Z g m j,I J x.kind] W fun e w'=>∃u a,e=Y (Z u (m+(Jn.num (x.kind+1).toNat).length) a)∧iD w' (w.heap.size+1) 5 u a (pre x 0++Jn.num (x.kind+1).toNat)∧Below (w.heap.size+1) W w'):=fun W g j m h1 h2 h3 h4=>ng (x.kind+1).toNat (by omega) (w.heap.size+1) g j m _ W h1 h2 (by omega) (by have:=h4.size;have:=CK.o;omega) x.kind (by omega);have hx:=(OJ wr (I J x.kind) (I J x.id) (I J x.n)).1;have B:Hid (pre x 1=pre x 0++Jn.num (x.kind+1).toNat):=rfl;go_wp2_with (go_at_call 239;refine(H.o _ _ _ _ HO.o t.o hm s.o).mono ?_;rintro e w3 ⟨L,k,rfl,d,b⟩;have C:=H9 d;have f:=H9 b;clear d b)
      go_roundw
      case rel=>exact⟨1,_,L,k,by omega,rfl,rfl,by rw[B.o];exact C.o,by rw[B.o,aV,t.o],s.o.trans f.o⟩
      case measure=>first | (simp[intOf];done) | (simp[intOf];omega)
    . have H:Hid (∀W g j m,iD W (w.heap.size+1) 5 g j (pre x 1)->(pre x 1).length=m->m<=15->Below (w.heap.size+1) w1 W->Calls prog 239 #[Z g m j,I J x.id] W fun e w'=>∃u a,e=Y (Z u (m+(Jn.num (x.id+1).toNat).length) a)∧iD w' (w.heap.size+1) 5 u a (pre x 1++Jn.num (x.id+1).toNat)∧Below (w.heap.size+1) W w'):=fun W g j m h1 h2 h3 h4=>ng (x.id+1).toNat (by omega) (w.heap.size+1) g j m _ W h1 h2 (by omega) (by have:=h4.size;have:=CK.o;omega) x.id (by omega);have hx:=(OJ wr (I J x.kind) (I J x.id) (I J x.n)).2.1;have B:Hid (pre x 2=pre x 1++Jn.num (x.id+1).toNat):=rfl;go_wp2_with (go_at_call 239;refine(H.o _ _ _ _ HO.o t.o hm s.o).mono ?_;rintro e w3 ⟨L,k,rfl,d,b⟩;have C:=H9 d;have f:=H9 b;clear d b)
      go_roundw
      case rel=>exact⟨2,_,L,k,by omega,rfl,rfl,by rw[B.o];exact C.o,by rw[B.o,aV,t.o],s.o.trans f.o⟩
      case measure=>first | (simp[intOf];done) | (simp[intOf];omega)
    . have H:Hid (∀W g j m,iD W (w.heap.size+1) 5 g j (pre x 2)->(pre x 2).length=m->m<=15->Below (w.heap.size+1) w1 W->Calls prog 239 #[Z g m j,I J x.n] W fun e w'=>∃u a,e=Y (Z u (m+(Jn.num (x.n+1).toNat).length) a)∧iD w' (w.heap.size+1) 5 u a (pre x 2++Jn.num (x.n+1).toNat)∧Below (w.heap.size+1) W w'):=fun W g j m h1 h2 h3 h4=>ng (x.n+1).toNat (by omega) (w.heap.size+1) g j m _ W h1 h2 (by omega) (by have:=h4.size;have:=CK.o;omega) x.n (by omega);have hx:=(OJ wr (I J x.kind) (I J x.id) (I J x.n)).2.2;have B:Hid (pre x 3=pre x 2++Jn.num (x.n+1).toNat):=rfl;go_wp2_with (go_at_call 239;refine(H.o _ _ _ _ HO.o t.o hm s.o).mono ?_;rintro e w3 ⟨L,k,rfl,d,b⟩;have C:=H9 d;have f:=H9 b;clear d b)
      go_roundw
      case rel=>exact⟨3,_,L,k,by omega,rfl,rfl,by rw[B.o];exact C.o,by rw[B.o,aV,t.o],s.o.trans f.o⟩
      case measure=>first | (simp[intOf];done) | (simp[intOf];omega)
    . obtain⟨d0,d1,d2,d3⟩:=HC.o _ s.o;have HPh:Hid (pre x 3=Jn.head x):=rfl;rw[HPh.o] at HO t;have Zr:Hid (w.heap.size+1<=wr.heap.size):=by have:=s.o.size;have:=CK.o;unfold Hid;omega
      have H:Hid (Calls prog 239 #[Z U 0 0,I J ((m:Int)+c)] wr fun e w'=>∃u a,e=Y (Z u (Jn.num (m+c+1)).length a)∧iD w' wr.heap.size 5 u a (Jn.num (m+c+1))∧Below wr.heap.size wr w'):=by
       have:=ng (m+c+1) (by omega) wr.heap.size U 0 0 [] wr (iD.nil _ _ _) rfl (by omega) (aL _) ((m:Int)+c) (by omega);unfold Hid;simpa using this
      have hwr:IntKind.i64.wrap ((m:Int)+c)=(m:Int)+c:=lY (by omega) (by omega);have hnl:(Jn.num (m+c+1)).length<=5:=Jn.CV 4 _ (by omega);have HE2:Hid (Jn.enc x=Jn.num (m+c+1)++Jn.head x++x.text):=by unfold Hid;rw[ah5.o,t.o]
      have uw:Hid (x.text.length=c):=HTn.o;generalize Jn.num (m+c+1)=nm at *;go_wp2_with (first
       | (go_at_call 239;refine H.o.mono ?_;rintro e w3 ⟨L,k,rfl,d,b⟩;have C:=H9 d;have f:=H9 b;have HI3:=H9 (HO.o.wZ.stay b);clear d b)
       | (at_builtin;refine iX rfl (.tmp 32) (.tmp 33) 31 rfl wr.heap.size 5 i0 underlying31 Hi.o kJ.o kG.o kK.o (l:=nm) (l2:=Jn.head x) rfl rfl C.o rfl t.o HI3.o (by omega) f.o.size ?_;intro xR IB w4 hO4 hG4;have z:=f.o.trans (kD C.o hG4 f.o.size);have wu:=H9 hO4;have jJ:=H9 z;have ah8:=H9 (s.o.trans (z.mono Zr.o));obtain⟨e0,e1,e2,e3⟩:=HC.o _ (s.o.trans (z.mono Zr.o));clear hO4 hG4 z)
       | (at_builtin;refine iX rfl (.tmp 35) (.tmp 37) 31 rfl wr.heap.size 5 i0 underlying31 Hi.o kJ.o kG.o kK.o (l:=nm++Jn.head x) (l2:=x.text) rfl (by rw[aV,t.o]) wu.o rfl uw.o (HT.o _ ah8.o) (by omega) jJ.o.size ?_;intro CB ca5 w5 Ez Lu;have hb5:=jJ.o.trans (kD wu.o Lu jJ.o.size);have tF:=H9 Ez;have qX:=H9 (s.o.trans (hb5.mono Zr.o));clear Ez Lu hb5))
      go_ret2;exact⟨CB,ca5,by rw[HE.o,HE2.o,aV,aV,t.o,uw.o];rfl,by rw[HE.o,HE2.o];exact tF.o.mono (by have:=Zr.o;omega),P.o _ qX.o⟩
section
variable {s:Sr.Sh} {S:Nat->Prop} {g:Nat} {w:X}
theorem uY (h:iH w S g s)(n:Int):
 Calls prog 129 #[Q (M ⟨g,0,U⟩),I J n] w fun e w'=>e=Y (.bool (decide (0<=n)&&decide (n<=100000-(s.log.length:Int))))∧w'=w:=by
 obtain⟨d,f,i,j,P,a⟩:=h;obtain⟨⟨k,l⟩,_⟩:=ql a.row;have c:=H9 (wD a.log n);clear a;generalize (decide (0<=n)&&decide (n<=100000-(s.log.length:Int)))=r at *;go_enter func129,ntmps129;go_wp2_with fail
 refine c.o.mono ?_;rintro e m ⟨rfl,b⟩;rw[b];clear b;go_wp2;go_ret;exact⟨rfl,rfl⟩
end
end Go.Proofs.YtjmndjmhjleabaaGreatDoor