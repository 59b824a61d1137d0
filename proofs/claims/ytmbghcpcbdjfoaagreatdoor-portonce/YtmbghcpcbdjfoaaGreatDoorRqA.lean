import Derived.Test.YtmbghcpcbdjfoaaGreatDoorPk25
open Go.Value renaming int->I,pointer->Q
open Go.IntKind renaming i64->J
open Go.Obj renaming cells->K
open Option renaming none->U,some->M
open Go renaming World->X
set_option maxHeartbeats 400000
open Go.Proofs.Tryz
namespace Go.Proofs.YtmbghcpcbdjfoaaGreatDoor
open Go.RowKit
structure cn (w:X)(g:Nat)(lp hp:Value)(wh:Bool)(bd:Value)(code:Int):Prop where
 b:w.heap[g]? = M (K #[lp,hp,.bool wh,bd,I J code] 164 (0,0))
section
variable {w w':X} {g:Nat} {lp hp bd:Value} {wh:Bool} {code:Int}
theorem cn.q (h:cn w g lp hp wh bd code):g<w.heap.size:=(bH.1 h.b).1
theorem cn.B (h:cn w g lp hp wh bd code):w.cell? ⟨g,0,U⟩=M lp:=am w g 0 _ _ _ h.b
theorem cn.f (h:cn w g lp hp wh bd code):w.cell? ⟨g,1,U⟩=M hp:=am w g 1 _ _ _ h.b
theorem cn.r (h:cn w g lp hp wh bd code):w.cell? ⟨g,2,U⟩=M (.bool wh):=am w g 2 _ _ _ h.b
theorem cn.j (h:cn w g lp hp wh bd code):w.cell? ⟨g,3,U⟩=M bd:=am w g 3 _ _ _ h.b
theorem cn.jD (h:cn w g lp hp wh bd code):w.cell? ⟨g,4,U⟩=M (I J code):=am w g 4 _ _ _ h.b
theorem cn.e (h:cn w g lp hp wh bd code)(j:Nat):w.frozen? ⟨g,j,U⟩=false:=aD w g j _ _ h.b
theorem cn.a (h:cn w g lp hp wh bd code)(a:Below w.heap.size w w'):cn w' g lp hp wh bd code:=⟨(a.block g h.q).trans h.b⟩
theorem cn.d {S:Nat->Prop}(h:cn w g lp hp wh bd code)(a:al S w w')(b:¬S g):cn w' g lp hp wh bd code:=⟨a.j h.b b⟩
theorem cn.jN (h:cn w g lp hp wh bd code)(v:Value):cn (w.setCell ⟨g,0,U⟩ v) g v hp wh bd code:=⟨by rw[aQ w g 0 _ _ _ h.b];rfl⟩
theorem cn.E (h:cn w g lp hp wh bd code)(v:Value):cn (w.setCell ⟨g,1,U⟩ v) g lp v wh bd code:=⟨by rw[aQ w g 1 _ _ _ h.b];rfl⟩
theorem cn.G (h:cn w g lp hp wh bd code)(v:Bool):cn (w.setCell ⟨g,2,U⟩ (.bool v)) g lp hp v bd code:=⟨by rw[aQ w g 2 _ _ _ h.b];rfl⟩
theorem cn.y (h:cn w g lp hp wh bd code)(v:Value):cn (w.setCell ⟨g,3,U⟩ v) g lp hp wh v code:=⟨by rw[aQ w g 3 _ _ _ h.b];rfl⟩
theorem cn.ku (h:cn w g lp hp wh bd code)(v:Int):cn (w.setCell ⟨g,4,U⟩ (I J v)) g lp hp wh bd v:=⟨by rw[aQ w g 4 _ _ _ h.b];rfl⟩
end
def gw (w:X)(S:Nat->Prop)(gh:Nat)(h:cf):Prop :=
 ∃fo gG, w.heap[gh]? = M (K #[.string ⟨h.c.toArray⟩, .string ⟨h.b.toArray⟩, I J (h.e : Int), .slice fo h.a.length gG, I J h.d] 82 (0, 0)) ∧
   aG w 0 128 2 fo gG h.a.length (aI (bL h.a))∧S gh∧∀a,fo=M a->S a.block
theorem gw.a {w:X}{S S':Nat->Prop}{b:Nat}{h:cf}(k:gw w S b h)(c:∀k,k<w.heap.size->S k->S' k):gw w S' b h:=by
 obtain⟨g,i,d,f,j,l⟩:=k;exact⟨g,i,d,f,c b (bH.1 d).1 j,fun a e=>c _ (f.d a e).2 (l a e)⟩
theorem gw.e {w w':X}{S S':Nat->Prop}{b:Nat}{h:cf}(k:gw w S b h)(c:al S' w w')(d:∀k,S k->¬S' k):gw w' S b h:=by
 obtain⟨i,j,l,m,f,g⟩:=k;exact⟨i,j,c.j l (d b f),m.e c (fun a e=>d _ (g a e)),f,g⟩
theorem gw.d {w w':X}{S:Nat->Prop}{a:Nat}{h:cf}(k:gw w S a h)(b:Below w.heap.size w w'):gw w' S a h:=k.e (al.d (S:=fun _=>False) b) (fun _ _ e=>e)
theorem zt {w:X}{b:Nat}{c:Array Value}{fo:ai}{gG n:Nat}{xs:List Value}(d:w.heap[b]? = M (K c 82 (0,0)))(f:aG w 0 128 2 fo gG n xs):∀a,fo=M a->a.block≠b:=by
 intro a e g;have:=iJ d f (by decide);rw[dI,e] at this;exact this (by simp[au,g])
theorem gw.f {w:X}{S:Nat->Prop}{b:Nat}{h:cf}(k:gw w S b h)(n:Int):gw (w.setCell ⟨b,4,U⟩ (I J n)) S b { h with d:=n }∧al S w (w.setCell ⟨b,4,U⟩ (I J n)):=by
 obtain⟨g,j,c,d,f,l⟩:=k;refine⟨⟨g,j,?_,d.e (al.f (fun i=>i=b) w _ _ rfl) (fun a e=>zt c d a e),f,l⟩,al.f S w _ _ f⟩;rw[aQ w b 4 _ _ _ c];rfl
inductive nZ (w:X)(C:Nat->Prop)(s:bR):Value->Value->Value->Int->Prop
 | dead (c:Nat) (hc:c≠0) (h:s.a=4):nZ w C s (Q U) (Q U) .nilIface (c:Int)
 | Le (gl:Nat) (h:s.a=0) (L:cQ w C gl s.b):nZ w C s (Q (M ⟨gl,0,U⟩)) (Q U) .nilIface 0
 | O0 (gl gh:Nat) (D:Nat->Prop) (h:s.a=1) (L:cQ w (fun k=>C k∧¬D k) gl s.b) (H:gw w (fun k=>C k∧D k) gh s.c):nZ w C s (Q (M ⟨gl,0,U⟩)) (Q (M ⟨gh,0,U⟩)) .nilIface 0
 | at2 (gl gb:Nat) (h:s.a=2) (L:cQ w (fun k=>C k∧k≠gb) gl s.b) (hb:C gb) (B:w.heap[gb]? = M (K #[I J (s.e:Int)] 243 (0,0))):nZ w C s (Q (M ⟨gl,0,U⟩)) (Q U) (.iface 241 (Q (M ⟨gb,0,U⟩))) 0
 | at3 (gl gb:Nat) (D:Nat->Prop) (h:s.a=3) (L:cQ w (fun k=>C k∧¬D k) gl s.b) (B:jC w (fun k=>C k∧D k) gb s.d):nZ w C s (Q (M ⟨gl,0,U⟩)) (Q U) (.iface 239 (Q (M ⟨gb,0,U⟩))) 0
theorem nZ.a {w:X}{C g:Nat->Prop}{s:bR}{i j bd:Value}{code:Int}(h:nZ w C s i j bd code)(b:∀k,k<w.heap.size->C k->g k):nZ w g s i j bd code:=by
 cases h with
 | dead c l h=>exact .dead c l h
 | Le d h L=>exact .Le d h (L.a b)
 | O0 d m D h L H=>exact .O0 d m D h (L.a (fun k a e=>⟨b k a e.1,e.2⟩)) (H.a (fun k a e=>⟨b k a e.1,e.2⟩))
 | at2 d f h L n B=>exact .at2 d f h (L.a (fun k a e=>⟨b k a e.1,e.2⟩)) (b f (bH.1 B).1 n) B
 | at3 d f D h L B=>exact .at3 d f D h (L.a (fun k a e=>⟨b k a e.1,e.2⟩)) (B.a (fun k a e=>⟨b k a e.1,e.2⟩))
theorem nZ.d {w w':X}{C S':Nat->Prop}{s:bR}{g i bd:Value}{code:Int}(h:nZ w C s g i bd code)(a:al S' w w')(b:∀k,C k->¬S' k):nZ w' C s g i bd code:=by
 cases h with
 | dead c l h=>exact .dead c l h
 | Le d h L=>exact .Le d h (L.d a b)
 | O0 d m D h L H=>exact .O0 d m D h (L.d a (fun k e=>b k e.1)) (H.e a (fun k e=>b k e.1))
 | at2 d f h L j B=>exact .at2 d f h (L.d a (fun k e=>b k e.1)) j (a.j B (b f j))
 | at3 d f D h L B=>exact .at3 d f D h (L.d a (fun k e=>b k e.1)) (B.e a (fun k e=>b k e.1))
def dT (w:X)(S:Nat->Prop)(g:Nat)(s:bR):Prop :=
 S g∧∃lp hp bd code,cn w g lp hp false bd code∧nZ w (fun k=>S k∧k≠g) s lp hp bd code
theorem dT.e {w:X}{S:Nat->Prop}{g:Nat}{s:bR}(h:dT w S g s):g<w.heap.size:=by
 obtain⟨_,_,_,_,_,a,_⟩:=h;exact a.q
theorem dT.a {w:X}{S S':Nat->Prop}{g:Nat}{s:bR}(h:dT w S g s)(a:∀k,k<w.heap.size->S k->S' k):dT w S' g s:=by
 obtain⟨c,d,f,bd,code,b,i⟩:=h;exact⟨a g b.q c,d,f,bd,code,b,i.a (fun k j e=>⟨a k j e.1,e.2⟩)⟩
theorem dT.d {w w':X}{S S':Nat->Prop}{g:Nat}{s:bR}(h:dT w S g s)(a:al S' w w')(b:∀k,S k->¬S' k):dT w' S g s:=by
 obtain⟨c,d,f,bd,code,i,j⟩:=h;exact⟨c,d,f,bd,code,i.d a (b g c),j.d a (fun k e=>b k e.1)⟩
theorem Ov (w:X):
 Calls prog 69 #[] w fun e w'=>∃g,e=.returned (Q (M ⟨g,0,U⟩))∧dT w' (fun k=>w.heap.size<=k) g qb∧Below w.heap.size w w':=by
 go_enter func69,ntmps69;go_wp2_with fail;refine(Cs w).mono ?_;rintro e a ⟨rfl,j,l⟩;have f:=j;have i:=aa l
 go_wp2;go_ret;have b:=i.o.size;have m:=f.q;have c:Below a.heap.size a (a.alloc (K #[Q (M ⟨w.heap.size,0,U⟩),Q U,.bool false,.nilIface,I J 0] 164)):=(aq _ _).alloc (ak _) _;have d:=(f.a (S':=fun k=>w.heap.size<=k∧k≠a.heap.size) (fun k n e=>⟨e,by omega⟩)).d (al.d (S:=fun _=>False) c) (fun _ _ e=>e);exact⟨a.heap.size,rfl,⟨b,_,_,_,_,⟨bw a _⟩,.Le w.heap.size rfl d⟩,i.o.trans ((aq _ _).alloc b _)⟩
theorem Fs (w:X)(S:Nat->Prop)(g:Nat)(s:bR)(h:dT w S g s):
 Calls prog 42 #[Q (M ⟨g,0,U⟩)] w fun e w'=>e=.returned (.bool (decide (s.a=4)))∧w'=w:=by
 obtain⟨_,j,k,bd,code,b,d⟩:=h;have l:=b.jD;have f:(code != 0)=decide (s.a=4):=by
  cases d with
  | dead c m h=>rw[aV h,cW];omega
  | Le a h L=>rw[aW (by omega)];rfl
  | O0 a n D h L H=>rw[aW (by omega)];rfl
  | at2 a i h L o B=>rw[aW (by omega)];rfl
  | at3 a i D h L B=>rw[aW (by omega)];rfl
 generalize decide (s.a=4)=p at f ⊢;go_enter func42,ntmps42;go_wp2;go_ret;exact⟨rfl,rfl⟩
