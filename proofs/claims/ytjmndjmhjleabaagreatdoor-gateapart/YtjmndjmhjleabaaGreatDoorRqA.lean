/- A reader of requests as it lies in memory; New, Dead walked. -/
import Derived.Test.YtjmndjmhjleabaaGreatDoorPk32
open Go.Value renaming int->I,pointer->Q
open Go.IntKind renaming i64->J
open Go.Obj renaming cells->K
open Option renaming none->U,some->M
open Go renaming World->X
set_option maxHeartbeats 400000
open Go.Proofs.Tryz
namespace Go.Proofs.YtjmndjmhjleabaaGreatDoor
open Go.RowKit
structure jf (w:X)(g:Nat)(lp hp:Value)(wh:Bool)(bd:Value)(code:Int):Prop where
 row:w.heap[g]? = M (K #[lp,hp,.bool wh,bd,I J code] 143 (0,0))
section
variable {w w':X} {g:Nat} {lp hp bd:Value} {wh:Bool} {code:Int}
theorem jf.lt (h:jf w g lp hp wh bd code):g<w.heap.size:=(aK.1 h.row).1
theorem jf.c0 (h:jf w g lp hp wh bd code):w.cell? ⟨g,0,U⟩=M lp:=fJ w g 0 _ _ _ h.row
theorem jf.c1 (h:jf w g lp hp wh bd code):w.cell? ⟨g,1,U⟩=M hp:=fJ w g 1 _ _ _ h.row
theorem jf.c2 (h:jf w g lp hp wh bd code):w.cell? ⟨g,2,U⟩=M (.bool wh):=fJ w g 2 _ _ _ h.row
theorem jf.c3 (h:jf w g lp hp wh bd code):w.cell? ⟨g,3,U⟩=M bd:=fJ w g 3 _ _ _ h.row
theorem jf.c4 (h:jf w g lp hp wh bd code):w.cell? ⟨g,4,U⟩=M (I J code):=fJ w g 4 _ _ _ h.row
theorem jf.fz (h:jf w g lp hp wh bd code)(j:Nat):w.frozen? ⟨g,j,U⟩=false:=fK w g j _ _ h.row
theorem jf.stay (h:jf w g lp hp wh bd code)(a:Below w.heap.size w w'):jf w' g lp hp wh bd code:=⟨(a.block g h.lt).trans h.row⟩
theorem jf.turns {S:Nat->Prop}(h:jf w g lp hp wh bd code)(a:Turns S w w')(b:¬S g):jf w' g lp hp wh bd code:=⟨a.row h.row b⟩
theorem jf.s0 (h:jf w g lp hp wh bd code)(v:Value):jf (w.setCell ⟨g,0,U⟩ v) g v hp wh bd code:=⟨by rw[fM w g 0 _ _ _ h.row];rfl⟩
theorem jf.s1 (h:jf w g lp hp wh bd code)(v:Value):jf (w.setCell ⟨g,1,U⟩ v) g lp v wh bd code:=⟨by rw[fM w g 1 _ _ _ h.row];rfl⟩
theorem jf.s2 (h:jf w g lp hp wh bd code)(v:Bool):jf (w.setCell ⟨g,2,U⟩ (.bool v)) g lp hp v bd code:=⟨by rw[fM w g 2 _ _ _ h.row];rfl⟩
theorem jf.s3 (h:jf w g lp hp wh bd code)(v:Value):jf (w.setCell ⟨g,3,U⟩ v) g lp hp wh v code:=⟨by rw[fM w g 3 _ _ _ h.row];rfl⟩
theorem jf.s4 (h:jf w g lp hp wh bd code)(v:Int):jf (w.setCell ⟨g,4,U⟩ (I J v)) g lp hp wh bd v:=⟨by rw[fM w g 4 _ _ _ h.row];rfl⟩
end
def jF (w:X)(S:Nat->Prop)(gh:Nat)(h:Rq.Hd):Prop :=
 ∃fo gL, w.heap[gh]? = M (K #[.string ⟨h.method.toArray⟩, .string ⟨h.target.toArray⟩, I J (h.minor : Int), .slice fo h.fields.length gL, I J h.length] 68 (0, 0)) ∧
   gU w 0 111 2 fo gL h.fields.length (gT (Rq.nu h.fields))∧S gh∧∀a,fo=M a->S a.block
theorem jF.mono {w:X}{S S':Nat->Prop}{b:Nat}{h:Rq.Hd}(k:jF w S b h)(c:∀k,k<w.heap.size->S k->S' k):jF w S' b h:=by
 obtain⟨g,i,d,f,j,l⟩:=k;exact⟨g,i,d,f,c b (aK.1 d).1 j,fun a e=>c _ (f.block a e).2 (l a e)⟩
theorem jF.turns {w w':X}{S S':Nat->Prop}{b:Nat}{h:Rq.Hd}(k:jF w S b h)(c:Turns S' w w')(d:∀k,S k->¬S' k):jF w' S b h:=by
 obtain⟨i,j,l,m,f,g⟩:=k;exact⟨i,j,c.row l (d b f),m.turns c (fun a e=>d _ (g a e)),f,g⟩
theorem jF.stay {w w':X}{S:Nat->Prop}{a:Nat}{h:Rq.Hd}(k:jF w S a h)(b:Below w.heap.size w w'):jF w' S a h:=k.turns (Turns.of_below (S:=fun _=>False) b) (fun _ _ e=>e)
theorem AU {w:X}{b:Nat}{c:Array Value}{fo:aj}{gL n:Nat}{xs:List Value}(d:w.heap[b]? = M (K c 68 (0,0)))(f:gU w 0 111 2 fo gL n xs):∀a,fo=M a->a.block≠b:=by
 intro a e g;have:=lF d f (by decide);rw[gN,e] at this;exact this (by simp[gK,g])
theorem jF.len {w:X}{S:Nat->Prop}{b:Nat}{h:Rq.Hd}(k:jF w S b h)(n:Int):jF (w.setCell ⟨b,4,U⟩ (I J n)) S b { h with length:=n }∧Turns S w (w.setCell ⟨b,4,U⟩ (I J n)):=by
 obtain⟨g,j,c,d,f,l⟩:=k;refine⟨⟨g,j,?_,d.turns (Turns.setCell (fun i=>i=b) w _ _ rfl) (fun a e=>AU c d a e),f,l⟩,Turns.setCell S w _ _ f⟩;rw[fM w b 4 _ _ _ c];rfl
inductive Cy (w:X)(C:Nat->Prop)(s:Rq.St):Value->Value->Value->Int->Prop
 | dead (c:Nat) (hc:c≠0) (h:s.ph=4):Cy w C s (Q U) (Q U) .nilIface (c:Int)
 | Jo (gl:Nat) (h:s.ph=0) (L:iy w C gl s.ln):Cy w C s (Q (M ⟨gl,0,U⟩)) (Q U) .nilIface 0
 | K5 (gl gh:Nat) (D:Nat->Prop) (h:s.ph=1) (L:iy w (fun k=>C k∧¬D k) gl s.ln) (H:jF w (fun k=>C k∧D k) gh s.hd):Cy w C s (Q (M ⟨gl,0,U⟩)) (Q (M ⟨gh,0,U⟩)) .nilIface 0
 | at2 (gl gb:Nat) (h:s.ph=2) (L:iy w (fun k=>C k∧k≠gb) gl s.ln) (hb:C gb) (B:w.heap[gb]? = M (K #[I J (s.left:Int)] 208 (0,0))):Cy w C s (Q (M ⟨gl,0,U⟩)) (Q U) (.iface 206 (Q (M ⟨gb,0,U⟩))) 0
 | at3 (gl gb:Nat) (D:Nat->Prop) (h:s.ph=3) (L:iy w (fun k=>C k∧¬D k) gl s.ln) (B:pU w (fun k=>C k∧D k) gb s.ck):Cy w C s (Q (M ⟨gl,0,U⟩)) (Q U) (.iface 204 (Q (M ⟨gb,0,U⟩))) 0
theorem Cy.mono {w:X}{C g:Nat->Prop}{s:Rq.St}{i j bd:Value}{code:Int}(h:Cy w C s i j bd code)(b:∀k,k<w.heap.size->C k->g k):Cy w g s i j bd code:=by
 cases h with
 | dead c l h=>exact .dead c l h
 | Jo d h L=>exact .Jo d h (L.mono b)
 | K5 d m D h L H=>exact .K5 d m D h (L.mono (fun k a e=>⟨b k a e.1,e.2⟩)) (H.mono (fun k a e=>⟨b k a e.1,e.2⟩))
 | at2 d f h L n B=>exact .at2 d f h (L.mono (fun k a e=>⟨b k a e.1,e.2⟩)) (b f (aK.1 B).1 n) B
 | at3 d f D h L B=>exact .at3 d f D h (L.mono (fun k a e=>⟨b k a e.1,e.2⟩)) (B.mono (fun k a e=>⟨b k a e.1,e.2⟩))
theorem Cy.turns {w w':X}{C S':Nat->Prop}{s:Rq.St}{g i bd:Value}{code:Int}(h:Cy w C s g i bd code)(a:Turns S' w w')(b:∀k,C k->¬S' k):Cy w' C s g i bd code:=by
 cases h with
 | dead c l h=>exact .dead c l h
 | Jo d h L=>exact .Jo d h (L.turns a b)
 | K5 d m D h L H=>exact .K5 d m D h (L.turns a (fun k e=>b k e.1)) (H.turns a (fun k e=>b k e.1))
 | at2 d f h L j B=>exact .at2 d f h (L.turns a (fun k e=>b k e.1)) j (a.row B (b f j))
 | at3 d f D h L B=>exact .at3 d f D h (L.turns a (fun k e=>b k e.1)) (B.turns a (fun k e=>b k e.1))
def jH (w:X)(S:Nat->Prop)(g:Nat)(s:Rq.St):Prop :=
 S g∧∃lp hp bd code,jf w g lp hp false bd code∧Cy w (fun k=>S k∧k≠g) s lp hp bd code
theorem jH.lt {w:X}{S:Nat->Prop}{g:Nat}{s:Rq.St}(h:jH w S g s):g<w.heap.size:=by
 obtain⟨_,_,_,_,_,a,_⟩:=h;exact a.lt
theorem jH.mono {w:X}{S S':Nat->Prop}{g:Nat}{s:Rq.St}(h:jH w S g s)(a:∀k,k<w.heap.size->S k->S' k):jH w S' g s:=by
 obtain⟨c,d,f,bd,code,b,i⟩:=h;exact⟨a g b.lt c,d,f,bd,code,b,i.mono (fun k j e=>⟨a k j e.1,e.2⟩)⟩
theorem jH.turns {w w':X}{S S':Nat->Prop}{g:Nat}{s:Rq.St}(h:jH w S g s)(a:Turns S' w w')(b:∀k,S k->¬S' k):jH w' S g s:=by
 obtain⟨c,d,f,bd,code,i,j⟩:=h;exact⟨c,d,f,bd,code,i.turns a (b g c),j.turns a (fun k e=>b k e.1)⟩
theorem NQ (w:X):
 Calls prog 48 #[] w fun e w'=>∃g,e=.returned (Q (M ⟨g,0,U⟩))∧jH w' (fun k=>w.heap.size<=k) g Rq.start∧Below w.heap.size w w':=by
 go_enter func48,ntmps48;go_wp2_with fail
 refine(uN w).mono ?_;rintro e a ⟨rfl,f,i⟩;have j:=H9 f;have l:=H9 i
 clear f i;go_wp2;go_ret;have b:=l.o.size;have m:=j.o.lt;have c:Below a.heap.size a (a.alloc (K #[Q (M ⟨w.heap.size,0,U⟩),Q U,.bool false,.nilIface,I J 0] 143)):=(fI _ _).alloc (aL _) _;have d:=(j.o.mono (S':=fun k=>w.heap.size<=k∧k≠a.heap.size) (fun k n e=>⟨e,by omega⟩)).turns (Turns.of_below (S:=fun _=>False) c) (fun _ _ e=>e);exact⟨a.heap.size,rfl,⟨b,_,_,_,_,⟨fH a _⟩,.Jo w.heap.size rfl d⟩,l.o.trans ((fI _ _).alloc b _)⟩
theorem Eb (w:X)(S:Nat->Prop)(g:Nat)(s:Rq.St)(h:jH w S g s):
 Calls prog 33 #[Q (M ⟨g,0,U⟩)] w fun e w'=>e=.returned (.bool (decide (s.ph=4)))∧w'=w:=by
 obtain⟨_,j,k,bd,code,b,d⟩:=h;have l:=b.c4;have f:(code != 0)=decide (s.ph=4):=by
  cases d with
  | dead c m h=>rw[aH h,cO];omega
  | Jo a h L=>rw[aI (by omega)];rfl
  | K5 a n D h L H=>rw[aI (by omega)];rfl
  | at2 a i h L o B=>rw[aI (by omega)];rfl
  | at3 a i D h L B=>rw[aI (by omega)];rfl
 generalize decide (s.ph=4)=p at f ⊢;clear b d;go_enter func33,ntmps33;go_wp2;go_ret;exact⟨rfl,rfl⟩
end Go.Proofs.YtjmndjmhjleabaaGreatDoor