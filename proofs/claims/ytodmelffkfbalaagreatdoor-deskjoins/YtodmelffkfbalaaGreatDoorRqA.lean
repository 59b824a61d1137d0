import Derived.Test.YtodmelffkfbalaaGreatDoorPk29
open Go.Value renaming int->I,pointer->Q
open Go.IntKind renaming i64->J
open Go.Obj renaming cells->K
open Option renaming none->U,some->M
open Go renaming World->X
set_option maxHeartbeats 400000
open Go.Proofs.Tryz
namespace Go.Proofs.YtodmelffkfbalaaGreatDoor
open Go.RowKit
structure ct (w:X)(g:Nat)(lp hp:Value)(wh:Bool)(bd:Value)(code:Int):Prop where
 b:w.heap[g]? = M (K #[lp,hp,.bool wh,bd,I J code] 203 (0,0))
section
variable {w w':X} {g:Nat} {lp hp bd:Value} {wh:Bool} {code:Int}
theorem ct.B (h:ct w g lp hp wh bd code):g<w.heap.size:=(bO.1 h.b).1
theorem ct.jK (h:ct w g lp hp wh bd code):w.cell? ⟨g,0,U⟩=M lp:=aq w g 0 _ _ _ h.b
theorem ct.r (h:ct w g lp hp wh bd code):w.cell? ⟨g,1,U⟩=M hp:=aq w g 1 _ _ _ h.b
theorem ct.G (h:ct w g lp hp wh bd code):w.cell? ⟨g,2,U⟩=M (.bool wh):=aq w g 2 _ _ _ h.b
theorem ct.y (h:ct w g lp hp wh bd code):w.cell? ⟨g,3,U⟩=M bd:=aq w g 3 _ _ _ h.b
theorem ct.lH (h:ct w g lp hp wh bd code):w.cell? ⟨g,4,U⟩=M (I J code):=aq w g 4 _ _ _ h.b
theorem ct.j (h:ct w g lp hp wh bd code)(j:Nat):w.frozen? ⟨g,j,U⟩=false:=aN w g j _ _ h.b
theorem ct.a (h:ct w g lp hp wh bd code)(a:Below w.heap.size w w'):ct w' g lp hp wh bd code:=⟨(a.block g h.B).trans h.b⟩
theorem ct.f {S:Nat->Prop}(h:ct w g lp hp wh bd code)(a:am S w w')(b:¬S g):ct w' g lp hp wh bd code:=⟨a.y h.b b⟩
theorem ct.mI (h:ct w g lp hp wh bd code)(v:Value):ct (w.setCell ⟨g,0,U⟩ v) g v hp wh bd code:=⟨by rw[aP w g 0 _ _ _ h.b];rfl⟩
theorem ct.jY (h:ct w g lp hp wh bd code)(v:Value):ct (w.setCell ⟨g,1,U⟩ v) g lp v wh bd code:=⟨by rw[aP w g 1 _ _ _ h.b];rfl⟩
theorem ct.kU (h:ct w g lp hp wh bd code)(v:Bool):ct (w.setCell ⟨g,2,U⟩ (.bool v)) g lp hp v bd code:=⟨by rw[aP w g 2 _ _ _ h.b];rfl⟩
theorem ct.H (h:ct w g lp hp wh bd code)(v:Value):ct (w.setCell ⟨g,3,U⟩ v) g lp hp wh v code:=⟨by rw[aP w g 3 _ _ _ h.b];rfl⟩
theorem ct.nD (h:ct w g lp hp wh bd code)(v:Int):ct (w.setCell ⟨g,4,U⟩ (I J v)) g lp hp wh bd v:=⟨by rw[aP w g 4 _ _ _ h.b];rfl⟩
end
def fV (w:X)(S:Nat->Prop)(gh:Nat)(h:dg):Prop :=
 ∃fo gy, w.heap[gh]? = M (K #[.string ⟨h.e.toArray⟩, .string ⟨h.b.toArray⟩, I J (h.d : Int), .slice fo h.a.length gy, I J h.c] 82 (0, 0)) ∧
   aK w 0 148 2 fo gy h.a.length (aI (co h.a))∧S gh∧∀a,fo=M a->S a.block
theorem fV.a {w:X}{S S':Nat->Prop}{b:Nat}{h:dg}(k:fV w S b h)(c:∀k,k<w.heap.size->S k->S' k):fV w S' b h:=by
 obtain⟨g,i,d,f,j,l⟩:=k;exact⟨g,i,d,f,c b (bO.1 d).1 j,fun a e=>c _ (f.f a e).2 (l a e)⟩
theorem fV.j {w w':X}{S S':Nat->Prop}{b:Nat}{h:dg}(k:fV w S b h)(c:am S' w w')(d:∀k,S k->¬S' k):fV w' S b h:=by
 obtain⟨i,j,l,m,f,g⟩:=k;exact⟨i,j,c.y l (d b f),m.j c (fun a e=>d _ (g a e)),f,g⟩
theorem fV.f {w w':X}{S:Nat->Prop}{a:Nat}{h:dg}(k:fV w S a h)(b:Below w.heap.size w w'):fV w' S a h:=k.j (am.f (S:=fun _=>False) b) (fun _ _ e=>e)
theorem yC {w:X}{b:Nat}{c:Array Value}{fo:ag}{gy n:Nat}{xs:List Value}(d:w.heap[b]? = M (K c 82 (0,0)))(f:aK w 0 148 2 fo gy n xs):∀a,fo=M a->a.block≠b:=by
 intro a e g;have:=gH d f (by decide);rw[dq,e] at this;exact this (by simp[aw,g])
theorem fV.r {w:X}{S:Nat->Prop}{b:Nat}{h:dg}(k:fV w S b h)(n:Int):fV (w.setCell ⟨b,4,U⟩ (I J n)) S b { h with c:=n }∧am S w (w.setCell ⟨b,4,U⟩ (I J n)):=by
 obtain⟨g,j,c,d,f,l⟩:=k;refine⟨⟨g,j,?_,d.j (am.r (fun i=>i=b) w _ _ rfl) (fun a e=>yC c d a e),f,l⟩,am.r S w _ _ f⟩;rw[aP w b 4 _ _ _ c];rfl
inductive nH (w:X)(C:Nat->Prop)(s:bN):Value->Value->Value->Int->Prop
 | dead (c:Nat) (hc:c≠0) (h:s.a=4):nH w C s (Q U) (Q U) .nilIface (c:Int)
 | Kn (gl:Nat) (h:s.a=0) (L:cP w C gl s.b):nH w C s (Q (M ⟨gl,0,U⟩)) (Q U) .nilIface 0
 | NJ (gl gh:Nat) (D:Nat->Prop) (h:s.a=1) (L:cP w (fun k=>C k∧¬D k) gl s.b) (H:fV w (fun k=>C k∧D k) gh s.c):nH w C s (Q (M ⟨gl,0,U⟩)) (Q (M ⟨gh,0,U⟩)) .nilIface 0
 | at2 (gl gb:Nat) (h:s.a=2) (L:cP w (fun k=>C k∧k≠gb) gl s.b) (hb:C gb) (B:w.heap[gb]? = M (K #[I J (s.e:Int)] 289 (0,0))):nH w C s (Q (M ⟨gl,0,U⟩)) (Q U) (.iface 287 (Q (M ⟨gb,0,U⟩))) 0
 | at3 (gl gb:Nat) (D:Nat->Prop) (h:s.a=3) (L:cP w (fun k=>C k∧¬D k) gl s.b) (B:ju w (fun k=>C k∧D k) gb s.d):nH w C s (Q (M ⟨gl,0,U⟩)) (Q U) (.iface 285 (Q (M ⟨gb,0,U⟩))) 0
theorem nH.a {w:X}{C g:Nat->Prop}{s:bN}{i j bd:Value}{code:Int}(h:nH w C s i j bd code)(b:∀k,k<w.heap.size->C k->g k):nH w g s i j bd code:=by
 cases h with
 | dead c l h=>exact .dead c l h
 | Kn d h L=>exact .Kn d h (L.a b)
 | NJ d m D h L H=>exact .NJ d m D h (L.a (fun k a e=>⟨b k a e.1,e.2⟩)) (H.a (fun k a e=>⟨b k a e.1,e.2⟩))
 | at2 d f h L n B=>exact .at2 d f h (L.a (fun k a e=>⟨b k a e.1,e.2⟩)) (b f (bO.1 B).1 n) B
 | at3 d f D h L B=>exact .at3 d f D h (L.a (fun k a e=>⟨b k a e.1,e.2⟩)) (B.a (fun k a e=>⟨b k a e.1,e.2⟩))
theorem nH.f {w w':X}{C S':Nat->Prop}{s:bN}{g i bd:Value}{code:Int}(h:nH w C s g i bd code)(a:am S' w w')(b:∀k,C k->¬S' k):nH w' C s g i bd code:=by
 cases h with
 | dead c l h=>exact .dead c l h
 | Kn d h L=>exact .Kn d h (L.f a b)
 | NJ d m D h L H=>exact .NJ d m D h (L.f a (fun k e=>b k e.1)) (H.j a (fun k e=>b k e.1))
 | at2 d f h L j B=>exact .at2 d f h (L.f a (fun k e=>b k e.1)) j (a.y B (b f j))
 | at3 d f D h L B=>exact .at3 d f D h (L.f a (fun k e=>b k e.1)) (B.j a (fun k e=>b k e.1))
def dM (w:X)(S:Nat->Prop)(g:Nat)(s:bN):Prop :=
 S g∧∃lp hp bd code,ct w g lp hp false bd code∧nH w (fun k=>S k∧k≠g) s lp hp bd code
theorem dM.j {w:X}{S:Nat->Prop}{g:Nat}{s:bN}(h:dM w S g s):g<w.heap.size:=by
 obtain⟨_,_,_,_,_,a,_⟩:=h;exact a.B
theorem dM.a {w:X}{S S':Nat->Prop}{g:Nat}{s:bN}(h:dM w S g s)(a:∀k,k<w.heap.size->S k->S' k):dM w S' g s:=by
 obtain⟨c,d,f,bd,code,b,i⟩:=h;exact⟨a g b.B c,d,f,bd,code,b,i.a (fun k j e=>⟨a k j e.1,e.2⟩)⟩
theorem dM.f {w w':X}{S S':Nat->Prop}{g:Nat}{s:bN}(h:dM w S g s)(a:am S' w w')(b:∀k,S k->¬S' k):dM w' S g s:=by
 obtain⟨c,d,f,bd,code,i,j⟩:=h;exact⟨c,d,f,bd,code,i.f a (b g c),j.f a (fun k e=>b k e.1)⟩
theorem M1 (w:X):
 Calls prog 94 #[] w fun e w'=>∃g,e=.returned (Q (M ⟨g,0,U⟩))∧dM w' (fun k=>w.heap.size<=k) g pC∧Below w.heap.size w w':=by
 go_enter func94,ntmps94;go_wp2_with fail;refine(BF w).mono ?_;rintro e a ⟨rfl,j,l⟩;have f:=j;have i:=aa l
 go_wp2;go_ret;have b:=i.o.size;have m:=f.B;have c:Below a.heap.size a (a.alloc (K #[Q (M ⟨w.heap.size,0,U⟩),Q U,.bool false,.nilIface,I J 0] 203)):=(ar _ _).alloc (ak _) _;have d:=(f.a (S':=fun k=>w.heap.size<=k∧k≠a.heap.size) (fun k n e=>⟨e,by omega⟩)).f (am.f (S:=fun _=>False) c) (fun _ _ e=>e);exact⟨a.heap.size,rfl,⟨b,_,_,_,_,⟨aX a _⟩,.Kn w.heap.size rfl d⟩,i.o.trans ((ar _ _).alloc b _)⟩
theorem EW (w:X)(S:Nat->Prop)(g:Nat)(s:bN)(h:dM w S g s):
 Calls prog 56 #[Q (M ⟨g,0,U⟩)] w fun e w'=>e=.returned (.bool (decide (s.a=4)))∧w'=w:=by
 obtain⟨_,j,k,bd,code,b,d⟩:=h;have l:=b.lH;have f:(code != 0)=decide (s.a=4):=by
  cases d with
  | dead c m h=>rw[br h,di];omega
  | Kn a h L=>rw[ba (by omega)];rfl
  | NJ a n D h L H=>rw[ba (by omega)];rfl
  | at2 a i h L o B=>rw[ba (by omega)];rfl
  | at3 a i D h L B=>rw[ba (by omega)];rfl
 generalize decide (s.a=4)=p at f ⊢;go_enter func56,ntmps56;go_wp2;go_ret;exact⟨rfl,rfl⟩
