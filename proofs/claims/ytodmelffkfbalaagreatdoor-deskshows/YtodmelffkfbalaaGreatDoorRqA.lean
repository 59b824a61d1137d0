import Derived.Test.YtodmelffkfbalaaGreatDoorPk30
open Go.Value renaming int->I,pointer->Q
open Go.IntKind renaming i64->J
open Go.Obj renaming cells->K
open Option renaming none->U,some->M
open Go renaming World->X
set_option maxHeartbeats 400000
open Go.Proofs.Tryz
namespace Go.Proofs.YtodmelffkfbalaaGreatDoor
open Go.RowKit
structure cl (w:X)(g:Nat)(lp hp:Value)(wh:Bool)(bd:Value)(code:Int):Prop where
 b:w.heap[g]? = M (K #[lp,hp,.bool wh,bd,I J code] 203 (0,0))
section
variable {w w':X} {g:Nat} {lp hp bd:Value} {wh:Bool} {code:Int}
theorem cl.r (h:cl w g lp hp wh bd code):g<w.heap.size:=(bM.1 h.b).1
theorem cl.E (h:cl w g lp hp wh bd code):w.cell? ⟨g,0,U⟩=M lp:=aq w g 0 _ _ _ h.b
theorem cl.j (h:cl w g lp hp wh bd code):w.cell? ⟨g,1,U⟩=M hp:=aq w g 1 _ _ _ h.b
theorem cl.y (h:cl w g lp hp wh bd code):w.cell? ⟨g,2,U⟩=M (.bool wh):=aq w g 2 _ _ _ h.b
theorem cl.q (h:cl w g lp hp wh bd code):w.cell? ⟨g,3,U⟩=M bd:=aq w g 3 _ _ _ h.b
theorem cl.jZ (h:cl w g lp hp wh bd code):w.cell? ⟨g,4,U⟩=M (I J code):=aq w g 4 _ _ _ h.b
theorem cl.f (h:cl w g lp hp wh bd code)(j:Nat):w.frozen? ⟨g,j,U⟩=false:=aP w g j _ _ h.b
theorem cl.a (h:cl w g lp hp wh bd code)(a:Below w.heap.size w w'):cl w' g lp hp wh bd code:=⟨(a.block g h.r).trans h.b⟩
theorem cl.e {S:Nat->Prop}(h:cl w g lp hp wh bd code)(a:ak S w w')(b:¬S g):cl w' g lp hp wh bd code:=⟨a.q h.b b⟩
theorem cl.lG (h:cl w g lp hp wh bd code)(v:Value):cl (w.setCell ⟨g,0,U⟩ v) g v hp wh bd code:=⟨by rw[aR w g 0 _ _ _ h.b];rfl⟩
theorem cl.G (h:cl w g lp hp wh bd code)(v:Value):cl (w.setCell ⟨g,1,U⟩ v) g lp v wh bd code:=⟨by rw[aR w g 1 _ _ _ h.b];rfl⟩
theorem cl.jL (h:cl w g lp hp wh bd code)(v:Bool):cl (w.setCell ⟨g,2,U⟩ (.bool v)) g lp hp v bd code:=⟨by rw[aR w g 2 _ _ _ h.b];rfl⟩
theorem cl.B (h:cl w g lp hp wh bd code)(v:Value):cl (w.setCell ⟨g,3,U⟩ v) g lp hp wh v code:=⟨by rw[aR w g 3 _ _ _ h.b];rfl⟩
theorem cl.lH (h:cl w g lp hp wh bd code)(v:Int):cl (w.setCell ⟨g,4,U⟩ (I J v)) g lp hp wh bd v:=⟨by rw[aR w g 4 _ _ _ h.b];rfl⟩
end
def fU (w:X)(S:Nat->Prop)(gh:Nat)(h:df):Prop :=
 ∃fo fZ, w.heap[gh]? = M (K #[.string ⟨h.e.toArray⟩, .string ⟨h.b.toArray⟩, I J (h.d : Int), .slice fo h.a.length fZ, I J h.c] 82 (0, 0)) ∧
   aL w 0 148 2 fo fZ h.a.length (aJ (cf h.a))∧S gh∧∀a,fo=M a->S a.block
theorem fU.a {w:X}{S S':Nat->Prop}{b:Nat}{h:df}(k:fU w S b h)(c:∀k,k<w.heap.size->S k->S' k):fU w S' b h:=by
 obtain⟨g,i,d,f,j,l⟩:=k;exact⟨g,i,d,f,c b (bM.1 d).1 j,fun a e=>c _ (f.e a e).2 (l a e)⟩
theorem fU.f {w w':X}{S S':Nat->Prop}{b:Nat}{h:df}(k:fU w S b h)(c:ak S' w w')(d:∀k,S k->¬S' k):fU w' S b h:=by
 obtain⟨i,j,l,m,f,g⟩:=k;exact⟨i,j,c.q l (d b f),m.f c (fun a e=>d _ (g a e)),f,g⟩
theorem fU.e {w w':X}{S:Nat->Prop}{a:Nat}{h:df}(k:fU w S a h)(b:Below w.heap.size w w'):fU w' S a h:=k.f (ak.e (S:=fun _=>False) b) (fun _ _ e=>e)
theorem yC {w:X}{b:Nat}{c:Array Value}{fo:ag}{fZ n:Nat}{xs:List Value}(d:w.heap[b]? = M (K c 82 (0,0)))(f:aL w 0 148 2 fo fZ n xs):∀a,fo=M a->a.block≠b:=by
 intro a e g;have:=gG d f (by decide);rw[dp,e] at this;exact this (by simp[aw,g])
theorem fU.j {w:X}{S:Nat->Prop}{b:Nat}{h:df}(k:fU w S b h)(n:Int):fU (w.setCell ⟨b,4,U⟩ (I J n)) S b { h with c:=n }∧ak S w (w.setCell ⟨b,4,U⟩ (I J n)):=by
 obtain⟨g,j,c,d,f,l⟩:=k;refine⟨⟨g,j,?_,d.f (ak.j (fun i=>i=b) w _ _ rfl) (fun a e=>yC c d a e),f,l⟩,ak.j S w _ _ f⟩;rw[aR w b 4 _ _ _ c];rfl
inductive nN (w:X)(C:Nat->Prop)(s:bL):Value->Value->Value->Int->Prop
 | dead (c:Nat) (hc:c≠0) (h:s.a=4):nN w C s (Q U) (Q U) .nilIface (c:Int)
 | Kj (gl:Nat) (h:s.a=0) (L:cN w C gl s.b):nN w C s (Q (M ⟨gl,0,U⟩)) (Q U) .nilIface 0
 | Nz (gl gh:Nat) (D:Nat->Prop) (h:s.a=1) (L:cN w (fun k=>C k∧¬D k) gl s.b) (H:fU w (fun k=>C k∧D k) gh s.c):nN w C s (Q (M ⟨gl,0,U⟩)) (Q (M ⟨gh,0,U⟩)) .nilIface 0
 | at2 (gl gb:Nat) (h:s.a=2) (L:cN w (fun k=>C k∧k≠gb) gl s.b) (hb:C gb) (B:w.heap[gb]? = M (K #[I J (s.e:Int)] 289 (0,0))):nN w C s (Q (M ⟨gl,0,U⟩)) (Q U) (.iface 287 (Q (M ⟨gb,0,U⟩))) 0
 | at3 (gl gb:Nat) (D:Nat->Prop) (h:s.a=3) (L:cN w (fun k=>C k∧¬D k) gl s.b) (B:jv w (fun k=>C k∧D k) gb s.d):nN w C s (Q (M ⟨gl,0,U⟩)) (Q U) (.iface 285 (Q (M ⟨gb,0,U⟩))) 0
theorem nN.a {w:X}{C g:Nat->Prop}{s:bL}{i j bd:Value}{code:Int}(h:nN w C s i j bd code)(b:∀k,k<w.heap.size->C k->g k):nN w g s i j bd code:=by
 cases h with
 | dead c l h=>exact .dead c l h
 | Kj d h L=>exact .Kj d h (L.a b)
 | Nz d m D h L H=>exact .Nz d m D h (L.a (fun k a e=>⟨b k a e.1,e.2⟩)) (H.a (fun k a e=>⟨b k a e.1,e.2⟩))
 | at2 d f h L n B=>exact .at2 d f h (L.a (fun k a e=>⟨b k a e.1,e.2⟩)) (b f (bM.1 B).1 n) B
 | at3 d f D h L B=>exact .at3 d f D h (L.a (fun k a e=>⟨b k a e.1,e.2⟩)) (B.a (fun k a e=>⟨b k a e.1,e.2⟩))
theorem nN.e {w w':X}{C S':Nat->Prop}{s:bL}{g i bd:Value}{code:Int}(h:nN w C s g i bd code)(a:ak S' w w')(b:∀k,C k->¬S' k):nN w' C s g i bd code:=by
 cases h with
 | dead c l h=>exact .dead c l h
 | Kj d h L=>exact .Kj d h (L.e a b)
 | Nz d m D h L H=>exact .Nz d m D h (L.e a (fun k e=>b k e.1)) (H.f a (fun k e=>b k e.1))
 | at2 d f h L j B=>exact .at2 d f h (L.e a (fun k e=>b k e.1)) j (a.q B (b f j))
 | at3 d f D h L B=>exact .at3 d f D h (L.e a (fun k e=>b k e.1)) (B.f a (fun k e=>b k e.1))
def dN (w:X)(S:Nat->Prop)(g:Nat)(s:bL):Prop :=
 S g∧∃lp hp bd code,cl w g lp hp false bd code∧nN w (fun k=>S k∧k≠g) s lp hp bd code
theorem dN.f {w:X}{S:Nat->Prop}{g:Nat}{s:bL}(h:dN w S g s):g<w.heap.size:=by
 obtain⟨_,_,_,_,_,a,_⟩:=h;exact a.r
theorem dN.a {w:X}{S S':Nat->Prop}{g:Nat}{s:bL}(h:dN w S g s)(a:∀k,k<w.heap.size->S k->S' k):dN w S' g s:=by
 obtain⟨c,d,f,bd,code,b,i⟩:=h;exact⟨a g b.r c,d,f,bd,code,b,i.a (fun k j e=>⟨a k j e.1,e.2⟩)⟩
theorem dN.e {w w':X}{S S':Nat->Prop}{g:Nat}{s:bL}(h:dN w S g s)(a:ak S' w w')(b:∀k,S k->¬S' k):dN w' S g s:=by
 obtain⟨c,d,f,bd,code,i,j⟩:=h;exact⟨c,d,f,bd,code,i.e a (b g c),j.e a (fun k e=>b k e.1)⟩
theorem Nb (w:X):
 Calls prog 94 #[] w fun e w'=>∃g,e=.returned (Q (M ⟨g,0,U⟩))∧dN w' (fun k=>w.heap.size<=k) g pJ∧Below w.heap.size w w':=by
 go_enter func94,ntmps94;go_wp2_with fail;refine(BF w).mono ?_;rintro e a ⟨rfl,j,l⟩;have f:=j;have i:=aa l
 go_wp2;go_ret;have b:=i.o.size;have m:=f.r;have c:Below a.heap.size a (a.alloc (K #[Q (M ⟨w.heap.size,0,U⟩),Q U,.bool false,.nilIface,I J 0] 203)):=(ar _ _).alloc (am _) _;have d:=(f.a (S':=fun k=>w.heap.size<=k∧k≠a.heap.size) (fun k n e=>⟨e,by omega⟩)).e (ak.e (S:=fun _=>False) c) (fun _ _ e=>e);exact⟨a.heap.size,rfl,⟨b,_,_,_,_,⟨be a _⟩,.Kj w.heap.size rfl d⟩,i.o.trans ((ar _ _).alloc b _)⟩
theorem E1 (w:X)(S:Nat->Prop)(g:Nat)(s:bL)(h:dN w S g s):
 Calls prog 56 #[Q (M ⟨g,0,U⟩)] w fun e w'=>e=.returned (.bool (decide (s.a=4)))∧w'=w:=by
 obtain⟨_,j,k,bd,code,b,d⟩:=h;have l:=b.jZ;have f:(code != 0)=decide (s.a=4):=by
  cases d with
  | dead c m h=>rw[bq h,dh];omega
  | Kj a h L=>rw[aX (by omega)];rfl
  | Nz a n D h L H=>rw[aX (by omega)];rfl
  | at2 a i h L o B=>rw[aX (by omega)];rfl
  | at3 a i D h L B=>rw[aX (by omega)];rfl
 generalize decide (s.a=4)=p at f ⊢;go_enter func56,ntmps56;go_wp2;go_ret;exact⟨rfl,rfl⟩
