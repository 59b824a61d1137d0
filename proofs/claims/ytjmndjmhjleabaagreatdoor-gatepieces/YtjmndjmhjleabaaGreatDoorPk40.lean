/- Small texts, one behind the other: JlB, JlC, StA, TuLw, StRm. -/
import Derived.Test.YtjmndjmhjleabaaGreatDoorPk39
import Derived.Deep.RegionLaw
import Derived.Test.YtjmndjmhjleabaaGreatDoorPk14
import Derived.Test.YtjmndjmhjleabaaGreatDoorPk36
import Derived.Test.YtjmndjmhjleabaaGreatDoorPk10
set_option maxHeartbeats 1000000
open Go.Proofs.Tryz
namespace Go.Proofs.YtjmndjmhjleabaaGreatDoor
open Go.RowKit
section
variable {w w':World} {base g:Nat} {b:List UInt8} {sure:Nat} {ao:Option Addr} {ca:Nat}
def OB (g:Nat)(ao:Option Addr):Nat->Prop:=fun k=>k=g∨au ao=some k
theorem dR.wrote (h:dR w base g b sure ao ca){x:List UInt8}{n:Nat}{aD:Option Addr}{FP:Nat}{w3:World}(hO:aT w3 base 5 aD FP (b++x))(hG:w.grownBy w3 (au ao))(hat:au aD=au ao∨au aD=some w.heap.size)(hn:n=(b++x).length)(hf:n<=100000):
 w3.heap[g]? = some (.cells #[.slice ao b.length ca,.int .i64 (sure:Int)] 119 (0,0))∧dR (w3.setCell ⟨g,0,none⟩ (.slice aD n FP)) base g (b++x) sure aD FP∧Turns (OB g ao) w (w3.setCell ⟨g,0,none⟩ (.slice aD n FP)):=by
 have hne:some g≠au ao:=fun e=>by
  cases ao with
  | none=>cases e
  | some a=>injection e with e;exact h.apart a rfl e.symm
 have hr:w3.heap[g]? = some (.cells #[.slice ao b.length ca,.int .i64 (sure:Int)] 119 (0,0)):=(hG.block g h.lt hne).trans h.row;have ht:Turns (fun k=>k=g) w3 (w3.setCell ⟨g,0,none⟩ (.slice aD n FP)):=Turns.setCell _ w3 _ _ rfl;have hne':∀a,aD=some a->¬a.block=g:=fun a e e2=>by
  rcases hat with hat | hat
  . rw[e] at hat;exact hne (by rw[<-hat,<-e2];rfl)
  . rw[e] at hat;injection hat with hat;have:=h.lt;omega
 subst hn;refine⟨hr,⟨heap_setCell_same w3 g 0 _ _ _ hr,hO.turns ht hne',h.low,by rw[List.length_append];have:=h.le;omega,hf⟩,(Turns.bI (S:=OB g ao) hG (fun k e=>Or.inr e)).trans ht (fun k e _=>Or.inl e)⟩
theorem jS (h:dR w base g b sure ao ca)(xo:Option Addr)(xc n:Nat)(x:List UInt8)(hx:aU w xo xc x)(hn:x.length=n)(hf:b.length+n<=100000):Calls prog 206 #[.pointer (some ⟨g,0,none⟩),.slice xo n xc] w fun e w'=>∃aD FP,e=.returned (.int .i64 0)∧dR w' base g (b++x) sure aD FP∧Turns (OB g ao) w w'∧(au aD=au ao∨au aD=some w.heap.size):=by
 obtain⟨⟨c0,c1⟩,f0,f1⟩:=jO h.row;have HX:=H9 hx;have HR:Hid (Calls prog 169 #[.pointer (some ⟨g,0,none⟩),.int .i64 (n:Int)] w fun e w'=>e=.returned (.bool true)∧w'=w):=by
  have:=ou h (n:Int);rw[decide_eq_true (by omega),decide_eq_true (by omega)] at this;exact this
 obtain⟨i0,hi0,hz0,hz1,hz2⟩:=info_parts dQ;have Hi:=H9 hi0;have gQ:=H9 hz0;have gK:=H9 hz1;have gT:=H9 hz2
 have HW:Hid (∀aD FP w3,aT w3 base 5 aD FP (b++x)->w.grownBy w3 (au ao)->(au aD=au ao∨au aD=some w.heap.size)->w3.heap[g]? = some (.cells #[.slice ao b.length ca,.int .i64 (sure:Int)] 119 (0,0))∧dR (w3.setCell ⟨g,0,none⟩ (.slice aD (b.length+n) FP)) base g (b++x) sure aD FP∧Turns (OB g ao) w (w3.setCell ⟨g,0,none⟩ (.slice aD (b.length+n) FP))):=fun aD FP w3 hO hG hat=>h.wrote hO hG hat (by rw[List.length_append,hn]) hf;have HO:=H9 h.own;have hbs:base<=w.heap.size:=by have:=h.low;have:=h.lt;omega
 have HN:=H9 hn;obtain⟨m,hm⟩:∃m,b.length=m:=⟨_,rfl⟩;have HM:=H9 hm;rw[hm] at c0 hf HW;clear h hx hn hm hi0 hz0 hz1 hz2;go_enter func206,ntmps206;go_wp2_with (first
  | (go_at_call 169;refine HR.o.mono ?_;rintro e w2 ⟨rfl,hw⟩;rw[hw];clear hw)
  | (at_builtin;refine dF rfl (.tmp 14) (.tmp 15) 31 rfl base 5 i0 underlying31 Hi.o gQ.o gK.o gT.o (l:=b) (l2:=x) rfl HM.o HO.o rfl HN.o HX.o (by omega) hbs ?_;intro a3 c3 w3 hO3 hG3 dJ;obtain⟨r3,l3,t3⟩:=HW.o a3 c3 w3 hO3 hG3 dJ;obtain⟨⟨d0,d1⟩,e0,e1⟩:=jO r3;have HL3:=H9 (And.intro l3 (And.intro t3 dJ));clear hO3 hG3 dJ r3 l3 t3))
 go_ret;exact⟨a3,c3,rfl,HL3.o⟩
theorem lH (h:dR w base g b sure ao ca)(xo:Option Addr)(xc n:Nat)(hf:¬b.length+n<=100000):Calls prog 206 #[.pointer (some ⟨g,0,none⟩),.slice xo n xc] w fun e w'=>e=.returned (.int .i64 16)∧w'=w:=by
 have HR:Hid (Calls prog 169 #[.pointer (some ⟨g,0,none⟩),.int .i64 (n:Int)] w fun e w'=>e=.returned (.bool false)∧w'=w):=by
  have:=ou h (n:Int);rw[decide_eq_true (show(0:Int)<=n by omega),decide_eq_false (by omega)] at this;exact this
 clear h hf;go_enter func206,ntmps206;go_wp2_with (go_at_call 169;refine HR.o.mono ?_;rintro e w2 ⟨rfl,hw⟩;rw[hw];clear hw)
 go_ret;exact⟨rfl,rfl⟩
end
theorem dR.turns {w w':World}{base g:Nat}{b:List UInt8}{sure:Nat}{ao:Option Addr}{ca:Nat}{S:Nat->Prop}(h:dR w base g b sure ao ca)(ht:Turns S w w')(hg:¬S g)(ha:∀a,ao=some a->¬S a.block):dR w' base g b sure ao ca:=⟨ht.row h.row hg,h.own.turns ht ha,h.low,h.le,h.few⟩
section
end
structure nu (w:World)(S:Nat->Prop)(g gs gl:Nat)(ao:Option Addr)(ca:Nat)(P:Nat->Prop)(s:Sr.Sh):Prop where
 row:w.heap[g]? = some (.cells #[.pointer (some ⟨gs,0,none⟩),.pointer (some ⟨gl,0,none⟩)] 45 (0,0))
 ow:bq w P gs s.h
 log:dR w 0 gl s.log s.sure ao ca
 self:S g
 Wh:∀k,P k->S k∧k≠g∧¬OB gl ao k
 Jy:∀k,OB gl ao k->S k∧k≠g
def aN (w:World)(S:Nat->Prop)(g:Nat)(s:Sr.Sh):Prop:=∃gs gl ao ca P,nu w S g gs gl ao ca P s
section
variable {w w' w1 w2 w3:World} {S S' P P':Nat->Prop} {g gs gl:Nat} {ao:Option Addr} {ca:Nat} {s:Sr.Sh}
theorem nu.far (h:nu w S g gs gl ao ca P s):∀k,OB gl ao k->k<w.heap.size:=fun k e=>by
 rcases e with e | e
 . rw[e];exact h.log.lt
 . cases ao with
   | none=>cases e
   | some a=>injection e with e;subst e;exact(h.log.own.block a rfl).2
theorem nu.lt (h:nu w S g gs gl ao ca P s):g<w.heap.size:=(Array.getElem?_eq_some_iff.1 h.row).1
theorem nu.turns (h:nu w S g gs gl ao ca P s)(ht:Turns S' w w')(hs:∀k,S k->¬S' k):nu w' S g gs gl ao ca P s :=
 ⟨ht.row h.row (hs g h.self),h.ow.turns ht (fun k e=>hs k (h.Wh k e).1),h.log.turns ht (hs _ (h.Jy gl (Or.inl rfl)).1) (fun a e=>hs _ (h.Jy a.block (Or.inr (by rw[e];rfl))).1),h.self,h.Wh,h.Jy⟩
theorem nu.stay (h:nu w S g gs gl ao ca P s)(hb:Below w.heap.size w w'):nu w' S g gs gl ao ca P s:=h.turns (Turns.of_below (S:=fun _=>False) hb) (fun _ _ e=>e)
theorem nu.mono (h:nu w S g gs gl ao ca P s)(hs:∀k,k<w.heap.size->S k->S' k):nu w S' g gs gl ao ca (fun k=>P k∧k<w.heap.size) s :=
 ⟨h.row,h.ow.mono (fun _ hk e=>⟨e,hk⟩),h.log,hs g h.lt h.self,fun k e=>⟨hs k e.2 (h.Wh k e.1).1,(h.Wh k e.1).2⟩,fun k e=>⟨hs k (h.far k e) (h.Jy k e).1,(h.Jy k e).2⟩⟩
theorem aN.turns (h:aN w S g s)(ht:Turns S' w w')(hs:∀k,S k->¬S' k):aN w' S g s:=by
 obtain⟨gs,gl,ao,ca,P,h⟩:=h;exact⟨gs,gl,ao,ca,P,h.turns ht hs⟩
theorem aN.stay (h:aN w S g s)(hb:Below w.heap.size w w'):aN w' S g s:=h.turns (Turns.of_below (S:=fun _=>False) hb) (fun _ _ e=>e)
theorem aN.mono (h:aN w S g s)(hs:∀k,k<w.heap.size->S k->S' k):aN w S' g s:=by
 obtain⟨gs,gl,ao,ca,P,h⟩:=h;exact⟨gs,gl,ao,ca,_,h.mono hs⟩
end
structure bL (S:Nat->Prop)(w:World)(g:Nat)(r:Sr.Sh×Nat)(e:Ending)(w':World):Prop where
 ret:e=.returned (.int .i64 (r.2:Int))
 at_:aN w' (av S w) g r.1
 turns:Turns S w w'
section
variable {w w' w1 w2 w3:World} {S S' P P':Nat->Prop} {g gs gl:Nat} {ao:Option Addr} {ca:Nat} {s:Sr.Sh}
theorem bL.none_ {c:Nat}(h:aN w S g s)(hb:Below w.heap.size w w'){r:Sr.Sh×Nat}(hr:r=(s,c)):bL S w g r (.returned (.int .i64 (c:Int))) w':=by
 subst hr;exact⟨rfl,(h.stay hb).mono (fun k _ e=>Or.inl e),Turns.of_below hb⟩
theorem bL.from_ {r:Sr.Sh×Nat}{e:Ending}(hb:Below w.heap.size w w1)(h:bL S w1 g r e w'):bL S w g r e w':=by
 have hsz:=hb.size;refine⟨h.ret,h.at_.mono (fun k _ e=>?_),(Turns.of_below hb).trans h.turns (fun _ e _=>e)⟩;rcases e with e | e
 . exact Or.inl e
 . exact Or.inr (by omega)
theorem nu.laid {gs':Nat}{s':Sp.St}{OC:List UInt8}{Ei:Nat}{aD:Option Addr}{FP:Nat}(h:nu w S g gs gl ao ca P s)(hb:Below w.heap.size w w1)(hS:bq w1 (fun k=>w.heap.size<=k) gs' s')(hL:dR w2 0 gl OC Ei aD FP)(ht:Turns (OB gl ao) w1 w2)(hat:au aD=au ao∨au aD=some w1.heap.size):
 w2.heap[g]? = some (.cells #[.pointer (some ⟨gs,0,none⟩),.pointer (some ⟨gl,0,none⟩)] 45 (0,0))∧aN (w2.setCell ⟨g,0,none⟩ (.pointer (some ⟨gs',0,none⟩))) (av S w) g ⟨s',OC,Ei⟩∧Turns S w (w2.setCell ⟨g,0,none⟩ (.pointer (some ⟨gs',0,none⟩))):=by
 have hsz:=hb.size;have Xf:=h.far;have hlt:=h.lt;have dx:Turns (OB gl ao) w w2:=(Turns.of_below hb).trans ht (fun _ e _=>e);have hr:w2.heap[g]? = some (.cells #[.pointer (some ⟨gs,0,none⟩),.pointer (some ⟨gl,0,none⟩)] 45 (0,0)):=dx.row h.row (fun e=>(h.Jy g e).2 rfl);have hg:Turns (fun k=>k=g) w2 (w2.setCell ⟨g,0,none⟩ (.pointer (some ⟨gs',0,none⟩))):=Turns.setCell (fun k=>k=g) w2 _ _ rfl;have hL':∀k,OB gl aD k->OB gl ao k∨k=w1.heap.size:=fun k e=>by
  rcases e with e | e
  . exact Or.inl (Or.inl e)
  . rcases hat with a | a
    . exact Or.inl (Or.inr (a▸e))
    . rw[a] at e;injection e with e;exact Or.inr e.symm
 refine⟨hr,⟨gs',gl,aD,FP,fun k=>w.heap.size<=k∧k<w1.heap.size,?_,?_,?_,Or.inl h.self,fun k e=>⟨Or.inr e.1,by omega,fun e2=>?_⟩,fun k e=>?_⟩,?_⟩
 . exact heap_setCell_same w2 g 0 _ _ _ hr
 . exact((hS.mono (S':=fun k=>w.heap.size<=k∧k<w1.heap.size) (fun k hk e=>⟨e,hk⟩)).turns ht (fun k e e2=>by have:=Xf k e2;omega)).turns hg (fun k e e2=>by subst e2;omega)
 . refine hL.turns hg (fun e=>(h.Jy gl (Or.inl rfl)).2 e) (fun a e e2=>?_);rcases hL' a.block (Or.inr (by rw[e];rfl)) with e3 | e3
   . exact(h.Jy _ e3).2 e2
   . omega
 . rcases hL' k e2 with e3 | e3
   . have:=Xf k e3;omega
   . omega
 . rcases hL' k e with e3 | e3
   . exact⟨Or.inl (h.Jy k e3).1,(h.Jy k e3).2⟩
   . exact⟨Or.inr (by omega),by omega⟩
 . exact(dx.mono (fun k e=>(h.Jy k e).1)).trans (hg.mono (fun k e=>by subst e;exact h.self)) (fun _ e _=>e)
end
theorem aQ:yA aN:=⟨aN.turns,aN.mono⟩
def Tu.ours (t:ByteArray):Bool:=decide (t=Tu.lS)||(decide (7<=t.size)&&decide (t.data.toList.take 7=Tu.fD.data.toList))
section
variable {s:Sr.Sh} {S:Nat->Prop} {g:Nat} {w:World}
theorem nH (h:aN w S g s)(n:Int):
 Calls prog 129 #[.pointer (some ⟨g,0,none⟩),.int .i64 n] w fun e w'=>e=.returned (.bool (decide (0<=n)&&decide (n<=100000-(s.log.length:Int))))∧w'=w:=by
 obtain⟨gs,gl,ao,ca,P,hI⟩:=h;obtain⟨⟨c0,c1⟩,_⟩:=jO hI.row;have HR:=H9 (ou hI.log n);clear hI;generalize (decide (0<=n)&&decide (n<=100000-(s.log.length:Int)))=r at *;go_enter func129,ntmps129;go_wp2_with fail
 refine HR.o.mono ?_;rintro e w1 ⟨rfl,hw⟩;rw[hw];clear hw;go_wp2;go_ret;exact⟨rfl,rfl⟩
end
end Go.Proofs.YtjmndjmhjleabaaGreatDoor