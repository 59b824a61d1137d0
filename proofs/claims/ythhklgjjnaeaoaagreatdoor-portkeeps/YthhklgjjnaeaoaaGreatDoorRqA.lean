/- A reader of requests as it lies in memory; New, Dead walked. -/
import Derived.Test.YthhklgjjnaeaoaaGreatDoorPk29
open Go.Value renaming int->I,pointer->Q
open Go.IntKind renaming i64->J
open Go.Obj renaming cells->K
open Option renaming none->U,some->M
open Go renaming World->X
set_option maxHeartbeats 400000
open Go.Proofs.Tryz
namespace Go.Proofs.YthhklgjjnaeaoaaGreatDoor
open Go.RowKit
structure iW (w:X)(g:Nat)(lp hp:Value)(wh:Bool)(bd:Value)(code:Int):Prop where
 row:w.heap[g]? = M (K #[lp,hp,.bool wh,bd,I J code] 167 (0,0))
section
variable {w w':X} {g:Nat} {lp hp bd:Value} {wh:Bool} {code:Int}
theorem iW.lt (h:iW w g lp hp wh bd code):g<w.heap.size:=(aL.1 h.row).1
theorem iW.c0 (h:iW w g lp hp wh bd code):w.cell? ⟨g,0,U⟩=M lp:=eZ w g 0 _ _ _ h.row
theorem iW.c1 (h:iW w g lp hp wh bd code):w.cell? ⟨g,1,U⟩=M hp:=eZ w g 1 _ _ _ h.row
theorem iW.c2 (h:iW w g lp hp wh bd code):w.cell? ⟨g,2,U⟩=M (.bool wh):=eZ w g 2 _ _ _ h.row
theorem iW.c3 (h:iW w g lp hp wh bd code):w.cell? ⟨g,3,U⟩=M bd:=eZ w g 3 _ _ _ h.row
theorem iW.c4 (h:iW w g lp hp wh bd code):w.cell? ⟨g,4,U⟩=M (I J code):=eZ w g 4 _ _ _ h.row
theorem iW.fz (h:iW w g lp hp wh bd code)(j:Nat):w.frozen? ⟨g,j,U⟩=false:=fq w g j _ _ h.row
theorem iW.stay (h:iW w g lp hp wh bd code)(a:Below w.heap.size w w'):iW w' g lp hp wh bd code:=⟨(a.block g h.lt).trans h.row⟩
theorem iW.turns {S:Nat->Prop}(h:iW w g lp hp wh bd code)(a:Turns S w w')(b:¬S g):iW w' g lp hp wh bd code:=⟨a.row h.row b⟩
theorem iW.s0 (h:iW w g lp hp wh bd code)(v:Value):iW (w.setCell ⟨g,0,U⟩ v) g v hp wh bd code:=⟨by rw[fu w g 0 _ _ _ h.row];rfl⟩
theorem iW.s1 (h:iW w g lp hp wh bd code)(v:Value):iW (w.setCell ⟨g,1,U⟩ v) g lp v wh bd code:=⟨by rw[fu w g 1 _ _ _ h.row];rfl⟩
theorem iW.s2 (h:iW w g lp hp wh bd code)(v:Bool):iW (w.setCell ⟨g,2,U⟩ (.bool v)) g lp hp v bd code:=⟨by rw[fu w g 2 _ _ _ h.row];rfl⟩
theorem iW.s3 (h:iW w g lp hp wh bd code)(v:Value):iW (w.setCell ⟨g,3,U⟩ v) g lp hp wh v code:=⟨by rw[fu w g 3 _ _ _ h.row];rfl⟩
theorem iW.s4 (h:iW w g lp hp wh bd code)(v:Int):iW (w.setCell ⟨g,4,U⟩ (I J v)) g lp hp wh bd v:=⟨by rw[fu w g 4 _ _ _ h.row];rfl⟩
end
def jr (w:X)(S:Nat->Prop)(gh:Nat)(h:Rq.Hd):Prop :=
 ∃fo fZ, w.heap[gh]? = M (K #[.string ⟨h.method.toArray⟩, .string ⟨h.target.toArray⟩, I J (h.minor : Int), .slice fo h.fields.length fZ, I J h.length] 82 (0, 0)) ∧
   gH w 0 131 2 fo fZ h.fields.length (gG (Rq.nu h.fields))∧S gh∧∀a,fo=M a->S a.block
theorem jr.mono {w:X}{S S':Nat->Prop}{b:Nat}{h:Rq.Hd}(k:jr w S b h)(c:∀k,k<w.heap.size->S k->S' k):jr w S' b h:=by
 obtain⟨g,i,d,f,j,l⟩:=k;exact⟨g,i,d,f,c b (aL.1 d).1 j,fun a e=>c _ (f.block a e).2 (l a e)⟩
theorem jr.turns {w w':X}{S S':Nat->Prop}{b:Nat}{h:Rq.Hd}(k:jr w S b h)(c:Turns S' w w')(d:∀k,S k->¬S' k):jr w' S b h:=by
 obtain⟨i,j,l,m,f,g⟩:=k;exact⟨i,j,c.row l (d b f),m.turns c (fun a e=>d _ (g a e)),f,g⟩
theorem jr.stay {w w':X}{S:Nat->Prop}{a:Nat}{h:Rq.Hd}(k:jr w S a h)(b:Below w.heap.size w w'):jr w' S a h:=k.turns (Turns.of_below (S:=fun _=>False) b) (fun _ _ e=>e)
theorem Aa {w:X}{b:Nat}{c:Array Value}{fo:ak}{fZ n:Nat}{xs:List Value}(d:w.heap[b]? = M (K c 82 (0,0)))(f:gH w 0 131 2 fo fZ n xs):∀a,fo=M a->a.block≠b:=by
 intro a e g;have:=kP d f (by decide);rw[gD,e] at this;exact this (by simp[fV,g])
theorem jr.len {w:X}{S:Nat->Prop}{b:Nat}{h:Rq.Hd}(k:jr w S b h)(n:Int):jr (w.setCell ⟨b,4,U⟩ (I J n)) S b { h with length:=n }∧Turns S w (w.setCell ⟨b,4,U⟩ (I J n)):=by
 obtain⟨g,j,c,d,f,l⟩:=k;refine⟨⟨g,j,?_,d.turns (Turns.setCell (fun i=>i=b) w _ _ rfl) (fun a e=>Aa c d a e),f,l⟩,Turns.setCell S w _ _ f⟩;rw[fu w b 4 _ _ _ c];rfl
inductive BR (w:X)(C:Nat->Prop)(s:Rq.St):Value->Value->Value->Int->Prop
 | dead (c:Nat) (hc:c≠0) (h:s.ph=4):BR w C s (Q U) (Q U) .nilIface (c:Int)
 | Jz (gl:Nat) (h:s.ph=0) (L:gW w C gl s.ln):BR w C s (Q (M ⟨gl,0,U⟩)) (Q U) .nilIface 0
 | MC (gl gh:Nat) (D:Nat->Prop) (h:s.ph=1) (L:gW w (fun k=>C k∧¬D k) gl s.ln) (H:jr w (fun k=>C k∧D k) gh s.hd):BR w C s (Q (M ⟨gl,0,U⟩)) (Q (M ⟨gh,0,U⟩)) .nilIface 0
 | at2 (gl gb:Nat) (h:s.ph=2) (L:gW w (fun k=>C k∧k≠gb) gl s.ln) (hb:C gb) (B:w.heap[gb]? = M (K #[I J (s.left:Int)] 246 (0,0))):BR w C s (Q (M ⟨gl,0,U⟩)) (Q U) (.iface 244 (Q (M ⟨gb,0,U⟩))) 0
 | at3 (gl gb:Nat) (D:Nat->Prop) (h:s.ph=3) (L:gW w (fun k=>C k∧¬D k) gl s.ln) (B:oW w (fun k=>C k∧D k) gb s.ck):BR w C s (Q (M ⟨gl,0,U⟩)) (Q U) (.iface 242 (Q (M ⟨gb,0,U⟩))) 0
theorem BR.mono {w:X}{C g:Nat->Prop}{s:Rq.St}{i j bd:Value}{code:Int}(h:BR w C s i j bd code)(b:∀k,k<w.heap.size->C k->g k):BR w g s i j bd code:=by
 cases h with
 | dead c l h=>exact .dead c l h
 | Jz d h L=>exact .Jz d h (L.mono b)
 | MC d m D h L H=>exact .MC d m D h (L.mono (fun k a e=>⟨b k a e.1,e.2⟩)) (H.mono (fun k a e=>⟨b k a e.1,e.2⟩))
 | at2 d f h L n B=>exact .at2 d f h (L.mono (fun k a e=>⟨b k a e.1,e.2⟩)) (b f (aL.1 B).1 n) B
 | at3 d f D h L B=>exact .at3 d f D h (L.mono (fun k a e=>⟨b k a e.1,e.2⟩)) (B.mono (fun k a e=>⟨b k a e.1,e.2⟩))
theorem BR.turns {w w':X}{C S':Nat->Prop}{s:Rq.St}{g i bd:Value}{code:Int}(h:BR w C s g i bd code)(a:Turns S' w w')(b:∀k,C k->¬S' k):BR w' C s g i bd code:=by
 cases h with
 | dead c l h=>exact .dead c l h
 | Jz d h L=>exact .Jz d h (L.turns a b)
 | MC d m D h L H=>exact .MC d m D h (L.turns a (fun k e=>b k e.1)) (H.turns a (fun k e=>b k e.1))
 | at2 d f h L j B=>exact .at2 d f h (L.turns a (fun k e=>b k e.1)) j (a.row B (b f j))
 | at3 d f D h L B=>exact .at3 d f D h (L.turns a (fun k e=>b k e.1)) (B.turns a (fun k e=>b k e.1))
def jq (w:X)(S:Nat->Prop)(g:Nat)(s:Rq.St):Prop :=
 S g∧∃lp hp bd code,iW w g lp hp false bd code∧BR w (fun k=>S k∧k≠g) s lp hp bd code
theorem jq.lt {w:X}{S:Nat->Prop}{g:Nat}{s:Rq.St}(h:jq w S g s):g<w.heap.size:=by
 obtain⟨_,_,_,_,_,a,_⟩:=h;exact a.lt
theorem jq.mono {w:X}{S S':Nat->Prop}{g:Nat}{s:Rq.St}(h:jq w S g s)(a:∀k,k<w.heap.size->S k->S' k):jq w S' g s:=by
 obtain⟨c,d,f,bd,code,b,i⟩:=h;exact⟨a g b.lt c,d,f,bd,code,b,i.mono (fun k j e=>⟨a k j e.1,e.2⟩)⟩
theorem jq.turns {w w':X}{S S':Nat->Prop}{g:Nat}{s:Rq.St}(h:jq w S g s)(a:Turns S' w w')(b:∀k,S k->¬S' k):jq w' S g s:=by
 obtain⟨c,d,f,bd,code,i,j⟩:=h;exact⟨c,d,f,bd,code,i.turns a (b g c),j.turns a (fun k e=>b k e.1)⟩
theorem Nn (w:X):
 Calls prog 71 #[] w fun e w'=>∃g,e=.returned (Q (M ⟨g,0,U⟩))∧jq w' (fun k=>w.heap.size<=k) g Rq.start∧Below w.heap.size w w':=by
 go_enter func71,ntmps71;go_wp2_with fail
 refine(ug w).mono ?_;rintro e a ⟨rfl,j,l⟩;have f:=j;have i:=H9 l
 go_wp2;go_ret;have b:=i.o.size;have m:=f.lt;have c:Below a.heap.size a (a.alloc (K #[Q (M ⟨w.heap.size,0,U⟩),Q U,.bool false,.nilIface,I J 0] 167)):=(eY _ _).alloc (aM _) _;have d:=(f.mono (S':=fun k=>w.heap.size<=k∧k≠a.heap.size) (fun k n e=>⟨e,by omega⟩)).turns (Turns.of_below (S:=fun _=>False) c) (fun _ _ e=>e);exact⟨a.heap.size,rfl,⟨b,_,_,_,_,⟨eX a _⟩,.Jz w.heap.size rfl d⟩,i.o.trans ((eY _ _).alloc b _)⟩
theorem KD (w:X)(S:Nat->Prop)(g:Nat)(s:Rq.St)(h:jq w S g s):
 Calls prog 44 #[Q (M ⟨g,0,U⟩)] w fun e w'=>e=.returned (.bool (decide (s.ph=4)))∧w'=w:=by
 obtain⟨_,j,k,bd,code,b,d⟩:=h;have l:=b.c4;have f:(code != 0)=decide (s.ph=4):=by
  cases d with
  | dead c m h=>rw[aI h,cK];omega
  | Jz a h L=>rw[aJ (by omega)];rfl
  | MC a n D h L H=>rw[aJ (by omega)];rfl
  | at2 a i h L o B=>rw[aJ (by omega)];rfl
  | at3 a i D h L B=>rw[aJ (by omega)];rfl
 generalize decide (s.ph=4)=p at f ⊢;go_enter func44,ntmps44;go_wp2;go_ret;exact⟨rfl,rfl⟩
end Go.Proofs.YthhklgjjnaeaoaaGreatDoor