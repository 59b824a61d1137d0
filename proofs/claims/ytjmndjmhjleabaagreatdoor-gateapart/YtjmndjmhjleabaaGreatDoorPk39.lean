/- Small texts, one behind the other: JrB, JrF, JlA, JlB, JlC, StA, ShA, TuN, TuLw, JrD, StRm. -/
import Derived.Test.YtjmndjmhjleabaaGreatDoorAl
import Derived.Test.YtjmndjmhjleabaaGreatDoorAm
import Derived.Test.YtjmndjmhjleabaaGreatDoorPk9
import Derived.Test.YtjmndjmhjleabaaGreatDoorBase
import Derived.Test.YtjmndjmhjleabaaGreatDoorProg
import Derived.Deep.RegionWith
import Derived.Test.YtjmndjmhjleabaaGreatDoorPk27
import Derived.Test.YtjmndjmhjleabaaGreatDoorPk11
import Derived.Test.YtjmndjmhjleabaaGreatDoorPk15
import Derived.Test.YtjmndjmhjleabaaGreatDoorPk10
import Derived.Test.YtjmndjmhjleabaaGreatDoorPk37
import Derived.Deep.RegionLaw
import Derived.Test.YtjmndjmhjleabaaGreatDoorPk12
import Derived.Test.YtjmndjmhjleabaaGreatDoorPk24
import Derived.Test.YtjmndjmhjleabaaGreatDoorPk5
import Derived.Deep.DeepCutAuto
set_option maxHeartbeats 2000000
set_option maxRecDepth 100000
open Go.Proofs.Tryz
namespace Go.Proofs.YtjmndjmhjleabaaGreatDoor
open Go.RowKit
theorem zO (n:Int)(w:World):Calls prog 271 #[.int .i64 n] w fun e w'=>e=.returned (.bool (decide (-1<=n)&&decide (n<=1073741823)))∧w'=w:=by
 by_cases h1:-1<=n
 . by_cases h2:n<=1073741823
   . go_enter func271,ntmps271;go_wp2;go_ret;exact⟨iB (by simp[h1,h2]),rfl⟩
   . have H2:Hid (decide (n<=1073741823)=false):=aJ h2;go_enter func271,ntmps271;go_wp2;go_ret;exact⟨iB (by rw[H2.o];try simp),rfl⟩
 . have H1:Hid (decide (-1<=n)=false):=aJ h1;go_enter func271,ntmps271;go_wp2;go_ret;exact⟨iB (by rw[H1.o];rfl),rfl⟩
theorem Zh (e:Jn.E):Jn.fits e=(decide (1<=e.kind)&&(decide (e.kind<=6)&&((decide (-1<=e.id)&&decide (e.id<=1073741823))&&((decide (-1<=e.n)&&decide (e.n<=1073741823))&&decide (e.text.length<=1048575))))):=by
 simp only[Jn.fits,Bool.and_assoc]
theorem R7 (x:Jn.E)(ta:ak)(tn tc:Nat)(hn:x.text.length=tn)(w:World):Calls prog 238 #[.agg #[.int .i64 x.kind,.int .i64 x.id,.int .i64 x.n,.slice ta tn tc]] w fun e w'=>e=.returned (.bool (Jn.fits x))∧aj w w':=by
 have HF:=H9 (Zh x);have HB:Hid (aj w (w.alloc (.cells #[.int .i64 x.kind,.int .i64 x.id,.int .i64 x.n,.slice ta tn tc] 217))):=(fJ _ w).alloc (aM _) _;have HI1:=H9 (fun W=>zO x.id W);have HI2:=H9 (fun W=>zO x.n W);rw[hn] at HF;clear hn;generalize Jn.fits x=f at *;generalize x.kind=k at *;generalize x.id=i at *;generalize x.n=n at *;generalize (decide (-1<=i)&&decide (i<=1073741823))=bi at *;generalize (decide (-1<=n)&&decide (n<=1073741823))=bn at *;by_cases h1:1<=k
 . by_cases h2:k<=6
   . cases bi with
     | true =>
       cases bn with
       | true =>
         by_cases h5:tn<=1048575
         . have h5':(tn:Int)<=1048575:=by omega
           go_enter func238,ntmps238;go_wp2_with (first
            | (go_at_call_of 271 i;refine(HI1.o _).mono ?_;rintro e w2 ⟨rfl,hw⟩;rw[hw];clear hw)
            | (go_at_call_of 271 n;refine(HI2.o _).mono ?_;rintro e w2 ⟨rfl,hw⟩;rw[hw];clear hw))
           go_ret;exact⟨iB (by rw[HF.o];simp[h1,h2,h5]),HB.o⟩
         . have h5':¬(tn:Int)<=1048575:=by omega
           have HF':Hid (f=false):=by unfold Hid;have:=HF.o;rw[aJ h5] at this;simpa using this
           go_enter func238,ntmps238;go_wp2_with (first
            | (go_at_call_of 271 i;refine(HI1.o _).mono ?_;rintro e w2 ⟨rfl,hw⟩;rw[hw];clear hw)
            | (go_at_call_of 271 n;refine(HI2.o _).mono ?_;rintro e w2 ⟨rfl,hw⟩;rw[hw];clear hw))
           go_ret;exact⟨by rw[HF'.o];simp;omega,HB.o⟩
       | false =>
         go_enter func238,ntmps238;go_wp2_with (first
          | (go_at_call_of 271 i;refine(HI1.o _).mono ?_;rintro e w2 ⟨rfl,hw⟩;rw[hw];clear hw)
          | (go_at_call_of 271 n;refine(HI2.o _).mono ?_;rintro e w2 ⟨rfl,hw⟩;rw[hw];clear hw))
         go_ret;exact⟨iB (by rw[HF.o];simp),HB.o⟩
     | false =>
       go_enter func238,ntmps238;go_wp2_with (go_at_call 271;refine(HI1.o _).mono ?_;rintro e w2 ⟨rfl,hw⟩;rw[hw];clear hw)
       go_ret;exact⟨iB (by rw[HF.o];simp),HB.o⟩
   . have HF':Hid (f=false):=by unfold Hid;have:=HF.o;rw[aJ h2] at this;simpa using this
     go_enter func238,ntmps238;go_wp2;go_ret;exact⟨iB HF'.o.symm,HB.o⟩
 . have HF':Hid (f=false):=by unfold Hid;have:=HF.o;rw[aJ h1] at this;simpa using this
   go_enter func238,ntmps238;go_wp2;go_ret;exact⟨iB HF'.o.symm,HB.o⟩
theorem Zi {W:World}{g t:Nat}{c0 c1 c2:Value}(h:W.heap[g]? = some (.cells #[c0,c1,c2] t (0,0))):(W.cell? ⟨g,0,none⟩=some c0∧W.cell? ⟨g,1,none⟩=some c1∧W.cell? ⟨g,2,none⟩=some c2)∧(W.frozen? ⟨g,0,none⟩=false∧W.frozen? ⟨g,1,none⟩=false∧W.frozen? ⟨g,2,none⟩=false) :=
 ⟨⟨fK W g 0 _ _ _ h,fK W g 1 _ _ _ h,fK W g 2 _ _ _ h⟩,fM W g 0 _ _ h,fM W g 1 _ _ h,fM W g 2 _ _ h⟩
structure kQ (w:World)(base g:Nat)(b:av)(sure:Nat)(ao:ak)(ca:Nat):Prop where
 row:w.heap[g]? = some (.cells #[.slice ao b.length ca,.int .i64 (sure:Int)] 119 (0,0))
 own:iF w base 5 ao ca b
 low:base<=g
 le:sure<=b.length
 few:b.length<=100000
theorem qm {W:World}{g t:Nat}{c0 c1:Value}(h:W.heap[g]? = some (.cells #[c0,c1] t (0,0))):(W.cell? ⟨g,0,none⟩=some c0∧W.cell? ⟨g,1,none⟩=some c1)∧(W.frozen? ⟨g,0,none⟩=false∧W.frozen? ⟨g,1,none⟩=false) :=
 ⟨⟨fK W g 0 _ _ _ h,fK W g 1 _ _ _ h⟩,fM W g 0 _ _ h,fM W g 1 _ _ h⟩
section
variable {w w':World} {base g:Nat} {b:av} {sure:Nat} {ao:ak} {ca:Nat}
theorem kQ.stay (h:kQ w base g b sure ao ca)(hb:aj w w'):kQ w' base g b sure ao ca:=⟨(hb.block g (aL.1 h.row).1).trans h.row,h.own.stay hb,h.low,h.le,h.few⟩
theorem kQ.lt (h:kQ w base g b sure ao ca):g<w.heap.size:=(aL.1 h.row).1
theorem aea:(119:Nat)≠5:=by decide
theorem kQ.apart (h:kQ w base g b sure ao ca):∀a,ao=some a->a.block≠g:=by
 intro a e e2;have:=lG h.row h.own aea;rw[gP,e] at this;exact this (by rw[<-e2];rfl)
theorem NT (w:World):Calls prog 23 #[] w fun e w'=>e=.returned (.pointer (some ⟨w.heap.size,0,none⟩))∧kQ w' w.heap.size w.heap.size [] 0 none 0∧aj w w':=by
 have H:Hid (kQ (w.alloc (.cells #[.slice none 0 0,.int .i64 0] 119)) w.heap.size w.heap.size [] 0 none 0∧aj w (w.alloc (.cells #[.slice none 0 0,.int .i64 0] 119))) :=
  ⟨⟨fI w _,iF.nil _ _ _,aM _,aM _,by decide⟩,(fJ _ w).alloc (aM _) _⟩
 go_enter func23,ntmps23;go_wp2;go_ret;exact⟨rfl,H.o⟩
theorem wE (h:kQ w base g b sure ao ca)(n:Int):Calls prog 169 #[.pointer (some ⟨g,0,none⟩),.int .i64 n] w fun e w'=>e=.returned (.bool (decide (0<=n)&&decide (n<=100000-(b.length:Int))))∧w'=w:=by
 obtain⟨⟨c0,c1⟩,_⟩:=qm h.row;have nO:=h.few;have hw:IntKind.i64.wrap (100000-(b.length:Int))=100000-(b.length:Int):=lZ (by omega) (by omega);clear h;generalize b.length=m at *;by_cases h1:0<=n
 . by_cases h2:n<=100000-(m:Int)
   . have HR:Hid ((decide (0<=n)&&decide (n<=100000-(m:Int)))=true):=by unfold Hid;rw[aI h1,aI h2];rfl
     generalize (decide (0<=n)&&decide (n<=100000-(m:Int)))=r at *;go_enter func169,ntmps169;go_wp2;go_ret;exact⟨by rw[HR.o];first | rfl | simp,rfl⟩
   . have HR:Hid ((decide (0<=n)&&decide (n<=100000-(m:Int)))=false):=by unfold Hid;rw[aJ h2];simp
     generalize (decide (0<=n)&&decide (n<=100000-(m:Int)))=r at *;go_enter func169,ntmps169;go_wp2;go_ret;exact⟨by rw[HR.o];first | rfl | (simp;done) | (simp;omega),rfl⟩
 . have HR:Hid ((decide (0<=n)&&decide (n<=100000-(m:Int)))=false):=by unfold Hid;rw[aJ h1];rfl
   generalize (decide (0<=n)&&decide (n<=100000-(m:Int)))=r at *;go_enter func169,ntmps169;go_wp2;go_ret;exact⟨by rw[HR.o];first | rfl | simp,rfl⟩
theorem kQ.put (h:kQ w base g b sure ao ca)(n:Nat)(hn:n<=b.length):kQ (w.setCell ⟨g,1,none⟩ (.int .i64 (n:Int))) base g b n ao ca∧Turns (fun k=>k=g) w (w.setCell ⟨g,1,none⟩ (.int .i64 (n:Int))):=by
 have ht:Turns (fun k=>k=g) w (w.setCell ⟨g,1,none⟩ (.int .i64 (n:Int))):=Turns.setCell _ w _ _ rfl;exact⟨⟨fO w g 1 _ _ _ h.row,h.own.turns ht h.apart,h.low,hn,h.few⟩,ht⟩
theorem La (h:kQ w base g b sure ao ca):Calls prog 163 #[.pointer (some ⟨g,0,none⟩)] w fun e w'=>e=.returned (.tuple #[])∧kQ w' base g b b.length ao ca∧Turns (fun k=>k=g) w w':=by
 obtain⟨⟨c0,c1⟩,f0,f1⟩:=qm h.row;have HP:=H9 (h.put b.length (aM _));clear h;generalize b.length=m at *;go_enter func163,ntmps163;go_wp2;go_end0
 exact⟨rfl,HP.o⟩
end
section
variable {w w':World} {base g:Nat} {b:av} {sure:Nat} {ao:ak} {ca:Nat}
def V8 (g:Nat)(ao:ak):Nat->Prop:=fun k=>k=g∨gL ao=some k
theorem kQ.wrote (h:kQ w base g b sure ao ca){x:av}{n:Nat}{gW:ak}{MX:Nat}{w3:World}(hO:iF w3 base 5 gW MX (b++x))(hG:w.grownBy w3 (gL ao))(hat:gL gW=gL ao∨gL gW=some w.heap.size)(hn:n=(b++x).length)(hf:n<=100000):
 w3.heap[g]? = some (.cells #[.slice ao b.length ca,.int .i64 (sure:Int)] 119 (0,0))∧kQ (w3.setCell ⟨g,0,none⟩ (.slice gW n MX)) base g (b++x) sure gW MX∧Turns (V8 g ao) w (w3.setCell ⟨g,0,none⟩ (.slice gW n MX)):=by
 have hne:some g≠gL ao:=fun e=>by
  cases ao with
  | none=>cases e
  | some a=>injection e with e;exact h.apart a rfl e.symm
 have hr:w3.heap[g]? = some (.cells #[.slice ao b.length ca,.int .i64 (sure:Int)] 119 (0,0)):=(hG.block g h.lt hne).trans h.row;have ht:Turns (fun k=>k=g) w3 (w3.setCell ⟨g,0,none⟩ (.slice gW n MX)):=Turns.setCell _ w3 _ _ rfl;have hne':∀a,gW=some a->¬a.block=g:=fun a e e2=>by
  rcases hat with hat | hat
  . rw[e] at hat;exact hne (by rw[<-hat,<-e2];rfl)
  . rw[e] at hat;injection hat with hat;have:=h.lt;omega
 subst hn;refine⟨hr,⟨fO w3 g 0 _ _ _ hr,hO.turns ht hne',h.low,by rw[aW];have:=h.le;omega,hf⟩,(Turns.iZ (S:=V8 g ao) hG (fun k e=>Or.inr e)).trans ht (fun k e _=>Or.inl e)⟩
theorem qG (h:kQ w base g b sure ao ca)(xo:ak)(xc n:Nat)(x:av)(hx:iH w xo xc x)(hn:x.length=n)(hf:b.length+n<=100000):Calls prog 206 #[.pointer (some ⟨g,0,none⟩),.slice xo n xc] w fun e w'=>∃gW MX,e=.returned (.int .i64 0)∧kQ w' base g (b++x) sure gW MX∧Turns (V8 g ao) w w'∧(gL gW=gL ao∨gL gW=some w.heap.size):=by
 obtain⟨⟨c0,c1⟩,f0,f1⟩:=qm h.row;have HX:=H9 hx;have HR:Hid (Calls prog 169 #[.pointer (some ⟨g,0,none⟩),.int .i64 (n:Int)] w fun e w'=>e=.returned (.bool true)∧w'=w):=by
  have:=wE h (n:Int);rw[aI (by omega),aI (by omega)] at this;exact this
 obtain⟨i0,hi0,hz0,hz1,hz2⟩:=info_parts jO;have Hi:=H9 hi0;have kK:=H9 hz0;have kH:=H9 hz1;have kL:=H9 hz2
 have HW:Hid (∀gW MX w3,iF w3 base 5 gW MX (b++x)->w.grownBy w3 (gL ao)->(gL gW=gL ao∨gL gW=some w.heap.size)->w3.heap[g]? = some (.cells #[.slice ao b.length ca,.int .i64 (sure:Int)] 119 (0,0))∧kQ (w3.setCell ⟨g,0,none⟩ (.slice gW (b.length+n) MX)) base g (b++x) sure gW MX∧Turns (V8 g ao) w (w3.setCell ⟨g,0,none⟩ (.slice gW (b.length+n) MX))):=fun gW MX w3 hO hG hat=>h.wrote hO hG hat (by rw[aW,hn]) hf;have HO:=H9 h.own;have hbs:base<=w.heap.size:=by have:=h.low;have:=h.lt;omega
 have HN:=H9 hn;obtain⟨m,hm⟩:∃m,b.length=m:=⟨_,rfl⟩;have HM:=H9 hm;rw[hm] at c0 hf HW;clear h hx hn hm hi0 hz0 hz1 hz2;go_enter func206,ntmps206;go_wp2_with (first
  | (go_at_call 169;refine HR.o.mono ?_;rintro e w2 ⟨rfl,hw⟩;rw[hw];clear hw)
  | (at_builtin;refine iJ rfl (.tmp 14) (.tmp 15) 31 rfl base 5 i0 underlying31 Hi.o kK.o kH.o kL.o (l:=b) (l2:=x) rfl HM.o HO.o rfl HN.o HX.o (by omega) hbs ?_;intro a3 c3 w3 hO3 hG3 kC;obtain⟨r3,l3,t3⟩:=HW.o a3 c3 w3 hO3 hG3 kC;obtain⟨⟨d0,d1⟩,e0,e1⟩:=qm r3;have HL3:=H9 (And.intro l3 (And.intro t3 kC));clear hO3 hG3 kC r3 l3 t3))
 go_ret;exact⟨a3,c3,rfl,HL3.o⟩
theorem sO (h:kQ w base g b sure ao ca)(xo:ak)(xc n:Nat)(hf:¬b.length+n<=100000):Calls prog 206 #[.pointer (some ⟨g,0,none⟩),.slice xo n xc] w fun e w'=>e=.returned (.int .i64 16)∧w'=w:=by
 have HR:Hid (Calls prog 169 #[.pointer (some ⟨g,0,none⟩),.int .i64 (n:Int)] w fun e w'=>e=.returned (.bool false)∧w'=w):=by
  have:=wE h (n:Int);rw[aI (show(0:Int)<=n by omega),aJ (by omega)] at this;exact this
 clear h hf;go_enter func206,ntmps206;go_wp2_with (go_at_call 169;refine HR.o.mono ?_;rintro e w2 ⟨rfl,hw⟩;rw[hw];clear hw)
 go_ret;exact⟨rfl,rfl⟩
end
theorem kQ.turns {w w':World}{base g:Nat}{b:av}{sure:Nat}{ao:ak}{ca:Nat}{S:Nat->Prop}(h:kQ w base g b sure ao ca)(ht:Turns S w w')(hg:¬S g)(ha:∀a,ao=some a->¬S a.block):kQ w' base g b sure ao ca:=⟨ht.row h.row hg,h.own.turns ht ha,h.low,h.le,h.few⟩
section
end
structure uS (w:World)(S:Nat->Prop)(g gs gl:Nat)(ao:ak)(ca:Nat)(P:Nat->Prop)(s:Sr.Sh):Prop where
 row:w.heap[g]? = some (.cells #[.pointer (some ⟨gs,0,none⟩),.pointer (some ⟨gl,0,none⟩)] 45 (0,0))
 wG:iV w P gs s.h
 log:kQ w 0 gl s.log s.sure ao ca
 self:S g
 inP:∀k,P k->S k∧k≠g∧¬V8 gl ao k
 Qt:∀k,V8 gl ao k->S k∧k≠g
def iI (w:World)(S:Nat->Prop)(g:Nat)(s:Sr.Sh):Prop:=∃gs gl ao ca P,uS w S g gs gl ao ca P s
section
variable {w w' w1 w2 w3:World} {S S' P P':Nat->Prop} {g gs gl:Nat} {ao:ak} {ca:Nat} {s:Sr.Sh}
theorem uS.far (h:uS w S g gs gl ao ca P s):∀k,V8 gl ao k->k<w.heap.size:=fun k e=>by
 rcases e with e | e
 . rw[e];exact h.log.lt
 . cases ao with
   | none=>cases e
   | some a=>injection e with e;subst e;exact(h.log.own.block a rfl).2
theorem uS.lt (h:uS w S g gs gl ao ca P s):g<w.heap.size:=(aL.1 h.row).1
theorem uS.turns (h:uS w S g gs gl ao ca P s)(ht:Turns S' w w')(hs:∀k,S k->¬S' k):uS w' S g gs gl ao ca P s :=
 ⟨ht.row h.row (hs g h.self),h.wG.turns ht (fun k e=>hs k (h.inP k e).1),h.log.turns ht (hs _ (h.Qt gl (Or.inl rfl)).1) (fun a e=>hs _ (h.Qt a.block (Or.inr (by rw[e];rfl))).1),h.self,h.inP,h.Qt⟩
theorem uS.stay (h:uS w S g gs gl ao ca P s)(hb:aj w w'):uS w' S g gs gl ao ca P s:=h.turns (Turns.of_below (S:=fun _=>False) hb) (fun _ _ e=>e)
theorem uS.mono (h:uS w S g gs gl ao ca P s)(hs:∀k,k<w.heap.size->S k->S' k):uS w S' g gs gl ao ca (fun k=>P k∧k<w.heap.size) s :=
 ⟨h.row,h.wG.mono (fun _ hk e=>⟨e,hk⟩),h.log,hs g h.lt h.self,fun k e=>⟨hs k e.2 (h.inP k e.1).1,(h.inP k e.1).2⟩,fun k e=>⟨hs k (h.far k e) (h.Qt k e).1,(h.Qt k e).2⟩⟩
theorem iI.turns (h:iI w S g s)(ht:Turns S' w w')(hs:∀k,S k->¬S' k):iI w' S g s:=by
 obtain⟨gs,gl,ao,ca,P,h⟩:=h;exact⟨gs,gl,ao,ca,P,h.turns ht hs⟩
theorem iI.stay (h:iI w S g s)(hb:aj w w'):iI w' S g s:=h.turns (Turns.of_below (S:=fun _=>False) hb) (fun _ _ e=>e)
theorem iI.mono (h:iI w S g s)(hs:∀k,k<w.heap.size->S k->S' k):iI w S' g s:=by
 obtain⟨gs,gl,ao,ca,P,h⟩:=h;exact⟨gs,gl,ao,ca,_,h.mono hs⟩
end
structure jh (S:Nat->Prop)(w:World)(g:Nat)(r:Sr.Sh×Nat)(e:Ending)(w':World):Prop where
 ret:e=.returned (.int .i64 (r.2:Int))
 at_:iI w' (gN S w) g r.1
 turns:Turns S w w'
section
variable {w w' w1 w2 w3:World} {S S' P P':Nat->Prop} {g gs gl:Nat} {ao:ak} {ca:Nat} {s:Sr.Sh}
theorem jh.none_ {c:Nat}(h:iI w S g s)(hb:aj w w'){r:Sr.Sh×Nat}(hr:r=(s,c)):jh S w g r (.returned (.int .i64 (c:Int))) w':=by
 subst hr;exact⟨rfl,(h.stay hb).mono (fun k _ e=>Or.inl e),Turns.of_below hb⟩
theorem jh.from_ {r:Sr.Sh×Nat}{e:Ending}(hb:aj w w1)(h:jh S w1 g r e w'):jh S w g r e w':=by
 have hsz:=hb.size;refine⟨h.ret,h.at_.mono (fun k _ e=>?_),(Turns.of_below hb).trans h.turns (fun _ e _=>e)⟩;rcases e with e | e
 . exact Or.inl e
 . exact Or.inr (by omega)
theorem uS.laid {gs':Nat}{s':Sp.St}{V9:av}{Lb:Nat}{gW:ak}{MX:Nat}(h:uS w S g gs gl ao ca P s)(hb:aj w w1)(hS:iV w1 (fun k=>w.heap.size<=k) gs' s')(hL:kQ w2 0 gl V9 Lb gW MX)(ht:Turns (V8 gl ao) w1 w2)(hat:gL gW=gL ao∨gL gW=some w1.heap.size):
 w2.heap[g]? = some (.cells #[.pointer (some ⟨gs,0,none⟩),.pointer (some ⟨gl,0,none⟩)] 45 (0,0))∧iI (w2.setCell ⟨g,0,none⟩ (.pointer (some ⟨gs',0,none⟩))) (gN S w) g ⟨s',V9,Lb⟩∧Turns S w (w2.setCell ⟨g,0,none⟩ (.pointer (some ⟨gs',0,none⟩))):=by
 have hsz:=hb.size;have aeb:=h.far;have hlt:=h.lt;have jV:Turns (V8 gl ao) w w2:=(Turns.of_below hb).trans ht (fun _ e _=>e);have hr:w2.heap[g]? = some (.cells #[.pointer (some ⟨gs,0,none⟩),.pointer (some ⟨gl,0,none⟩)] 45 (0,0)):=jV.row h.row (fun e=>(h.Qt g e).2 rfl);have hg:Turns (fun k=>k=g) w2 (w2.setCell ⟨g,0,none⟩ (.pointer (some ⟨gs',0,none⟩))):=Turns.setCell (fun k=>k=g) w2 _ _ rfl;have hL':∀k,V8 gl gW k->V8 gl ao k∨k=w1.heap.size:=fun k e=>by
  rcases e with e | e
  . exact Or.inl (Or.inl e)
  . rcases hat with a | a
    . exact Or.inl (Or.inr (a▸e))
    . rw[a] at e;injection e with e;exact Or.inr e.symm
 refine⟨hr,⟨gs',gl,gW,MX,fun k=>w.heap.size<=k∧k<w1.heap.size,?_,?_,?_,Or.inl h.self,fun k e=>⟨Or.inr e.1,by omega,fun e2=>?_⟩,fun k e=>?_⟩,?_⟩
 . exact fO w2 g 0 _ _ _ hr
 . exact((hS.mono (S':=fun k=>w.heap.size<=k∧k<w1.heap.size) (fun k hk e=>⟨e,hk⟩)).turns ht (fun k e e2=>by have:=aeb k e2;omega)).turns hg (fun k e e2=>by subst e2;omega)
 . refine hL.turns hg (fun e=>(h.Qt gl (Or.inl rfl)).2 e) (fun a e e2=>?_);rcases hL' a.block (Or.inr (by rw[e];rfl)) with e3 | e3
   . exact(h.Qt _ e3).2 e2
   . omega
 . rcases hL' k e2 with e3 | e3
   . have:=aeb k e3;omega
   . omega
 . rcases hL' k e with e3 | e3
   . exact⟨Or.inl (h.Qt k e3).1,(h.Qt k e3).2⟩
   . exact⟨Or.inr (by omega),by omega⟩
 . exact(jV.mono (fun k e=>(h.Qt k e).1)).trans (hg.mono (fun k e=>by subst e;exact h.self)) (fun _ e _=>e)
end
section
end
section
end
theorem Tu.Yq (x c:ay)(l:av)(h:c.data.toList=l):(x=c)<->(x.toList==l)=true:=by
 rw[aT,Lib.toList_data,<-h];refine⟨fun e=>by rw[e],fun e=>?_⟩;cases x;cases c;simp only at e;congr 1;exact fH.1 e
theorem Tu.eqV (v l:av):(v=l)<->((⟨v.toArray⟩:ay).toList==l)=true:=by
 rw[aT,Lib.toList_data]
theorem Tu.ahF (t:ay):(t.extract 0 7).toList=t.data.toList.take 7:=by
 rw[Lib.toList_data,Lib.extract_data];simp
theorem Tu.aaJ (t:ay):(t.extract 7 t.size).data.toList=t.data.toList.drop 7:=by
 rw[Lib.extract_data,dO];rw[bV,aO];exact aM _
theorem Tu.QC {t:ay}(h:¬(7<t.size∧t.data.toList.take 7=Tu.lI.data.toList∧(Ch.number 10 9 (t.data.toList.drop 7)).2=true∧Ch.jH 8 (Ch.number 10 9 (t.data.toList.drop 7)).1.toNat=t.data.toList.drop 7))(s:Sp.St):Tu.AJ s t=none:=by
 unfold Tu.AJ Tu.YP;rw[if_neg h]
theorem Tu.Wt {t:ay}(h:7<t.size∧t.data.toList.take 7=Tu.lI.data.toList∧(Ch.number 10 9 (t.data.toList.drop 7)).2=true∧Ch.jH 8 (Ch.number 10 9 (t.data.toList.drop 7)).1.toNat=t.data.toList.drop 7)(s:Sp.St):Tu.AJ s t=match Sp.place s.l (Ch.number 10 9 (t.data.toList.drop 7)).1 with
 | none=>none
 | some i=>s.l[i]?:=by
 unfold Tu.AJ Tu.YP;rw[if_pos h];rfl
theorem Ch.qK {l:av}(h:(Ch.number 10 9 l).2=true):0<=(Ch.number 10 9 l).1∧(Ch.number 10 9 l).1<1000000000:=by
 have hl:¬(l=[]∨(9:Int)<l.length):=fun e=>by unfold Ch.number at h;rw[if_pos e] at h;cases h
 have ha:l.all (Ch.yc 10)=true:=by
  cases e:l.all (Ch.yc 10) with
  | true=>rfl
  | false=>unfold Ch.number at h;rw[if_neg hl,e] at h;cases h
 unfold Ch.number;rw[if_neg hl,if_pos ha];have key:∀(l:av) (n:Int) (B:Nat),0<=n->n<10 ^ B->l.all (Ch.yc 10)=true->0<=l.foldl (fun n b=>n*10+Ch.hex b.toNat) n∧l.foldl (fun n b=>n*10+Ch.hex b.toNat) n<10 ^ (B+l.length):=by
  intro l;induction l with
  | nil=>intro n B h0 h1 _;exact⟨h0,h1⟩
  | cons b t ih =>
    intro n B h0 h1 hd;rw[dP,dh] at hd;have hb:=hd.1;unfold Ch.yc at hb;rw[dh,bR,bR] at hb;have e:(10:Int) ^ (B+1)=10 ^ B*10:=Int.pow_succ ..;have:=ih (n*10+Ch.hex b.toNat) (B+1) (by omega) (by omega) hd.2;simp only[dQ,aX];rw[show B+(t.length+1)=B+1+t.length by omega];exact this
 have:=key l 0 0 (by omega) (by decide) ha;refine⟨this.1,Int.lt_of_lt_of_le this.2 ?_⟩;rw[bq];have h9:l.length<=9:=by
  rcases aU 9 l.length with e | e
  . exact absurd (Or.inr (by omega)) hl
  . exact e
 calc (10:Int) ^ l.length<=10 ^ 9:=by exact_mod_cast Nat.pow_le_pow_right (by decide) h9
  _=1000000000:=by decide
theorem iK:Er iI:=⟨iI.turns,iI.mono⟩
def Tu.ours (t:ay):Bool:=decide (t=Tu.sZ)||(decide (7<=t.size)&&decide (t.data.toList.take 7=Tu.lI.data.toList))
def su (x:Jn.E):av×Nat:=if Jn.fits x=true then (Jn.enc x,0) else ([],1)
def pre (x:Jn.E):Nat->av
 | 0=>[]
 | 1=>Jn.nb x.kind
 | 2=>Jn.nb x.kind++Jn.nb x.id
 | _=>Jn.head x
def qM (w:World)(x:Jn.E)(e:Ending)(w':World):Prop:=∃ao cap,e=.returned (.tuple #[.slice ao (su x).1.length cap,.int .i64 ((su x).2:Int)])∧iF w' w.heap.size 5 ao cap (su x).1∧aj w w'
theorem EP {w W:World}{a b c d:Value}{t B:Nat}(hB:w.heap.size<B)(h:Below B (w.alloc (.cells #[a,b,c,d] t)) W):W.cell? ⟨w.heap.size,0,none⟩=some a∧W.cell? ⟨w.heap.size,1,none⟩=some b∧W.cell? ⟨w.heap.size,2,none⟩=some c∧W.cell? ⟨w.heap.size,3,none⟩=some d:=by
 refine⟨?_,?_,?_,?_⟩
 . rw[h.cell (p:=⟨w.heap.size,0,none⟩) hB];exact World.cell?_alloc_mark w _ _ _ 0
 . rw[h.cell (p:=⟨w.heap.size,1,none⟩) hB];exact World.cell?_alloc_mark w _ _ _ 1
 . rw[h.cell (p:=⟨w.heap.size,2,none⟩) hB];exact World.cell?_alloc_mark w _ _ _ 2
 . rw[h.cell (p:=⟨w.heap.size,3,none⟩) hB];exact World.cell?_alloc_mark w _ _ _ 3
theorem OL (W:World)(a b c:Value):
 (Instr.index 274 (.agg #[a,b,c]) (.int .i64 0)).run prog W=.ok a W ∧
 (Instr.index 274 (.agg #[a,b,c]) (.int .i64 1)).run prog W=.ok b W ∧
 (Instr.index 274 (.agg #[a,b,c]) (.int .i64 2)).run prog W=.ok c W:=by
 refine⟨by kernel_rfl,by kernel_rfl,by kernel_rfl⟩
theorem uX (x:Jn.E)(ta:ak)(tn tc:Nat)(w:World)(hT:iH w ta tc x.text)(hn:x.text.length=tn):
 Calls prog 205 #[.agg #[.int .i64 x.kind,.int .i64 x.id,.int .i64 x.n,.slice ta tn tc]] w fun e w'=>qM w x e w':=by
 have hb1:aj w (w.alloc (.cells #[.int .i64 x.kind,.int .i64 x.id,.int .i64 x.n,.slice ta tn tc] 217)):=(fJ _ w).alloc (aM _) _;have HF:=H9 (R7 x ta tn tc hn (w.alloc (.cells #[.int .i64 x.kind,.int .i64 x.id,.int .i64 x.n,.slice ta tn tc] 217)));have hsz:(w.alloc (.cells #[.int .i64 x.kind,.int .i64 x.id,.int .i64 x.n,.slice ta tn tc] 217)).heap.size=w.heap.size+1:=by simp
 have HC:Hid (∀W,Below (w.heap.size+1) (w.alloc (.cells #[.int .i64 x.kind,.int .i64 x.id,.int .i64 x.n,.slice ta tn tc] 217)) W->W.cell? ⟨w.heap.size,0,none⟩=some (.int .i64 x.kind)∧W.cell? ⟨w.heap.size,1,none⟩=some (.int .i64 x.id)∧W.cell? ⟨w.heap.size,2,none⟩=some (.int .i64 x.n)∧W.cell? ⟨w.heap.size,3,none⟩=some (.slice ta tn tc)):=fun W h=>EP (by omega) h;rw[hsz] at HF;have HT:Hid (∀W,Below (w.heap.size+1) (w.alloc (.cells #[.int .i64 x.kind,.int .i64 x.id,.int .i64 x.n,.slice ta tn tc] 217)) W->iH W ta tc x.text):=fun W h=>hT.stay (hb1.trans (h.mono (by omega)));have HB0:Hid (∀W,Below (w.heap.size+1) (w.alloc (.cells #[.int .i64 x.kind,.int .i64 x.id,.int .i64 x.n,.slice ta tn tc] 217)) W->aj w W):=fun W h=>hb1.trans (h.mono (by omega));obtain⟨i0,hi0,hz0,hz1,hz2⟩:=info_parts jO;have Hi:=H9 hi0;have kK:=H9 hz0;have kH:=H9 hz1;have kL:=H9 hz2
 clear hT hi0 hz0 hz1 hz2 hb1;have CO:=H9 hsz;clear hsz;cases hf:Jn.fits x with
 | false =>
   rw[hf] at HF;have HE:Hid (su x=([],1)):=by unfold Hid su;rw[if_neg (by simp[hf])]
   clear hf;go_enter func205,ntmps205;go_wp2_with (go_at_call 238;refine HF.o.mono ?_;rintro e w2 ⟨rfl,hb2⟩;have HB2:=H9 hb2;clear hb2)
   go_ret2;exact⟨none,0,by rw[HE.o];rfl,by rw[HE.o];exact iF.nil _ _ _,HB0.o _ HB2.o⟩
 | true =>
   rw[hf] at HF;have HE:Hid (su x=(Jn.enc x,0)):=by unfold Hid su;rw[if_pos hf]
   obtain⟨k1,k2,k3,k4⟩:=(Jn.Dt x).1 hf;have hhl:=Jn.Kl hf;have hil:=Jn.xq hf;rw[hn] at k4;have hin:(Jn.inn x).length=(Jn.head x).length+tn:=by rw[Jn.inn,aW,hn]
   have ah6:Hid (Jn.enc x=Jn.num ((Jn.head x).length+tn+1)++Jn.head x++x.text):=by
    unfold Hid Jn.enc;rw[hin,Jn.inn,dU]
   have HTn:=H9 hn;clear hf hn hin;go_enter func205,ntmps205;go_upto_region 3 with (go_at_call 238;refine HF.o.mono ?_;rintro e w2 ⟨rfl,hb2⟩;have HB2:=H9 hb2;clear hb2)
   have HB1:=H9 (HB2.o);obtain⟨c0,c1,c2,c3⟩:=HC.o _ HB2.o;generalize w.alloc (.cells #[.int .i64 x.kind,.int .i64 x.id,.int .i64 x.n,.slice ta tn tc] 217)=w1 at *;go_wp2;have HPl:Hid (∀i,(pre x i).length<=15):=fun i=>by
    have e:(Jn.head x).length=(Jn.nb x.kind).length+(Jn.nb x.id).length+(Jn.nb x.n).length:=by simp[Jn.head,bL]
    match i with
    | 0=>simp[pre]
    | 1=>simp only[pre];omega
    | 2=>simp only[pre,aW];omega
    | (n+3)=>exact hhl
   go_loopw [4,18] (fun vo vi wr=>∃(i m:Nat) (ao:ak) (ca:Nat),i<=3∧vi=.int .i64 i∧vo=.slice ao m ca∧iF wr (w.heap.size+1) 5 ao ca (pre x i)∧(pre x i).length=m∧Below (w.heap.size+1) w1 wr) (fun _ vi _=>3-(intOf vi).toNat)
   case atStart=>exact⟨0,0,none,0,by omega,rfl,rfl,iF.nil _ _ _,rfl,HB1.o⟩
   case round =>
    obtain⟨i,m,ao,ca,hi,rfl,rfl,hO,hL,hB⟩:=hrel;have HO:=H9 hO;have HB:=H9 hB;have HL:=H9 hL
    have hm:m<=15:=by have:=HPl.o i;omega
    clear hO hB hL;rcases(show i=0∨i=1∨i=2∨i=3 by omega) with rfl | rfl | rfl | rfl
    . have HN:Hid (∀W ao ca m,iF W (w.heap.size+1) 5 ao ca (pre x 0)->(pre x 0).length=m->m<=15->Below (w.heap.size+1) w1 W->Calls prog 239 #[.slice ao m ca,.int .i64 x.kind] W fun e w'=>∃gW cap',e=.returned (.slice gW (m+(Jn.num (x.kind+1).toNat).length) cap')∧iF w' (w.heap.size+1) 5 gW cap' (pre x 0++Jn.num (x.kind+1).toNat)∧Below (w.heap.size+1) W w'):=fun W ao ca m h1 h2 h3 h4=>nk (x.kind+1).toNat (by omega) (w.heap.size+1) ao ca m _ W h1 h2 (by omega) (by have:=h4.size;have:=CO.o;omega) x.kind (by omega);have hx:=(OL wr (.int .i64 x.kind) (.int .i64 x.id) (.int .i64 x.n)).1;have HP:Hid (pre x 1=pre x 0++Jn.num (x.kind+1).toNat):=rfl;go_wp2_with (go_at_call 239;refine(HN.o _ _ _ _ HO.o HL.o hm HB.o).mono ?_;rintro e w3 ⟨jQ,ca3,rfl,hO3,hb3⟩;have oD:=H9 hO3;have HB3:=H9 hb3;clear hO3 hb3)
      go_roundw
      case rel=>exact⟨1,_,jQ,ca3,by omega,rfl,rfl,by rw[HP.o];exact oD.o,by rw[HP.o,aW,HL.o],HB.o.trans HB3.o⟩
      case measure=>first | (simp[intOf];done) | (simp[intOf];omega)
    . have HN:Hid (∀W ao ca m,iF W (w.heap.size+1) 5 ao ca (pre x 1)->(pre x 1).length=m->m<=15->Below (w.heap.size+1) w1 W->Calls prog 239 #[.slice ao m ca,.int .i64 x.id] W fun e w'=>∃gW cap',e=.returned (.slice gW (m+(Jn.num (x.id+1).toNat).length) cap')∧iF w' (w.heap.size+1) 5 gW cap' (pre x 1++Jn.num (x.id+1).toNat)∧Below (w.heap.size+1) W w'):=fun W ao ca m h1 h2 h3 h4=>nk (x.id+1).toNat (by omega) (w.heap.size+1) ao ca m _ W h1 h2 (by omega) (by have:=h4.size;have:=CO.o;omega) x.id (by omega);have hx:=(OL wr (.int .i64 x.kind) (.int .i64 x.id) (.int .i64 x.n)).2.1;have HP:Hid (pre x 2=pre x 1++Jn.num (x.id+1).toNat):=rfl;go_wp2_with (go_at_call 239;refine(HN.o _ _ _ _ HO.o HL.o hm HB.o).mono ?_;rintro e w3 ⟨jQ,ca3,rfl,hO3,hb3⟩;have oD:=H9 hO3;have HB3:=H9 hb3;clear hO3 hb3)
      go_roundw
      case rel=>exact⟨2,_,jQ,ca3,by omega,rfl,rfl,by rw[HP.o];exact oD.o,by rw[HP.o,aW,HL.o],HB.o.trans HB3.o⟩
      case measure=>first | (simp[intOf];done) | (simp[intOf];omega)
    . have HN:Hid (∀W ao ca m,iF W (w.heap.size+1) 5 ao ca (pre x 2)->(pre x 2).length=m->m<=15->Below (w.heap.size+1) w1 W->Calls prog 239 #[.slice ao m ca,.int .i64 x.n] W fun e w'=>∃gW cap',e=.returned (.slice gW (m+(Jn.num (x.n+1).toNat).length) cap')∧iF w' (w.heap.size+1) 5 gW cap' (pre x 2++Jn.num (x.n+1).toNat)∧Below (w.heap.size+1) W w'):=fun W ao ca m h1 h2 h3 h4=>nk (x.n+1).toNat (by omega) (w.heap.size+1) ao ca m _ W h1 h2 (by omega) (by have:=h4.size;have:=CO.o;omega) x.n (by omega);have hx:=(OL wr (.int .i64 x.kind) (.int .i64 x.id) (.int .i64 x.n)).2.2;have HP:Hid (pre x 3=pre x 2++Jn.num (x.n+1).toNat):=rfl;go_wp2_with (go_at_call 239;refine(HN.o _ _ _ _ HO.o HL.o hm HB.o).mono ?_;rintro e w3 ⟨jQ,ca3,rfl,hO3,hb3⟩;have oD:=H9 hO3;have HB3:=H9 hb3;clear hO3 hb3)
      go_roundw
      case rel=>exact⟨3,_,jQ,ca3,by omega,rfl,rfl,by rw[HP.o];exact oD.o,by rw[HP.o,aW,HL.o],HB.o.trans HB3.o⟩
      case measure=>first | (simp[intOf];done) | (simp[intOf];omega)
    . obtain⟨d0,d1,d2,d3⟩:=HC.o _ HB.o;have HPh:Hid (pre x 3=Jn.head x):=rfl;rw[HPh.o] at HO HL;have Zt:Hid (w.heap.size+1<=wr.heap.size):=by have:=HB.o.size;have:=CO.o;unfold Hid;omega
      have HN:Hid (Calls prog 239 #[.slice none 0 0,.int .i64 ((m:Int)+tn)] wr fun e w'=>∃gW cap',e=.returned (.slice gW (Jn.num (m+tn+1)).length cap')∧iF w' wr.heap.size 5 gW cap' (Jn.num (m+tn+1))∧aj wr w'):=by
       have:=nk (m+tn+1) (by omega) wr.heap.size none 0 0 [] wr (iF.nil _ _ _) rfl (by omega) (aM _) ((m:Int)+tn) (by omega);unfold Hid;simpa using this
      have hwr:IntKind.i64.wrap ((m:Int)+tn)=(m:Int)+tn:=lZ (by omega) (by omega);have hnl:(Jn.num (m+tn+1)).length<=5:=Jn.CW 4 _ (by omega);have HE2:Hid (Jn.enc x=Jn.num (m+tn+1)++Jn.head x++x.text):=by unfold Hid;rw[ah6.o,HL.o]
      have uy:Hid (x.text.length=tn):=HTn.o;generalize Jn.num (m+tn+1)=nm at *;go_wp2_with (first
       | (go_at_call 239;refine HN.o.mono ?_;rintro e w3 ⟨jQ,ca3,rfl,hO3,hb3⟩;have oD:=H9 hO3;have HB3:=H9 hb3;have HI3:=H9 (HO.o.xg.stay hb3);clear hO3 hb3)
       | (at_builtin;refine iY rfl (.tmp 32) (.tmp 33) 31 rfl wr.heap.size 5 i0 underlying31 Hi.o kK.o kH.o kL.o (l:=nm) (l2:=Jn.head x) rfl rfl oD.o rfl HL.o HI3.o (by omega) HB3.o.size ?_;intro xS IC w4 hO4 hG4;have hb4:=HB3.o.trans (kE oD.o hG4 HB3.o.size);have wz:=H9 hO4;have jK:=H9 hb4;have ah9:=H9 (HB.o.trans (hb4.mono Zt.o));obtain⟨e0,e1,e2,e3⟩:=HC.o _ (HB.o.trans (hb4.mono Zt.o));clear hO4 hG4 hb4)
       | (at_builtin;refine iY rfl (.tmp 35) (.tmp 37) 31 rfl wr.heap.size 5 i0 underlying31 Hi.o kK.o kH.o kL.o (l:=nm++Jn.head x) (l2:=x.text) rfl (by rw[aW,HL.o]) wz.o rfl uy.o (HT.o _ ah9.o) (by omega) jK.o.size ?_;intro CF ca5 w5 EA Lv;have hb5:=jK.o.trans (kE wz.o Lv jK.o.size);have tH:=H9 EA;have qY:=H9 (HB.o.trans (hb5.mono Zt.o));clear EA Lv hb5))
      go_ret2;exact⟨CF,ca5,by rw[HE.o,HE2.o,aW,aW,HL.o,uy.o];rfl,by rw[HE.o,HE2.o];exact tH.o.mono (by have:=Zt.o;omega),HB0.o _ qY.o⟩
section
variable {s:Sr.Sh} {S:Nat->Prop} {g:Nat} {w:World}
theorem uZ (h:iI w S g s)(n:Int):
 Calls prog 129 #[.pointer (some ⟨g,0,none⟩),.int .i64 n] w fun e w'=>e=.returned (.bool (decide (0<=n)&&decide (n<=100000-(s.log.length:Int))))∧w'=w:=by
 obtain⟨gs,gl,ao,ca,P,hI⟩:=h;obtain⟨⟨c0,c1⟩,_⟩:=qm hI.row;have HR:=H9 (wE hI.log n);clear hI;generalize (decide (0<=n)&&decide (n<=100000-(s.log.length:Int)))=r at *;go_enter func129,ntmps129;go_wp2_with fail
 refine HR.o.mono ?_;rintro e w1 ⟨rfl,hw⟩;rw[hw];clear hw;go_wp2;go_ret;exact⟨rfl,rfl⟩
end
end Go.Proofs.YtjmndjmhjleabaaGreatDoor