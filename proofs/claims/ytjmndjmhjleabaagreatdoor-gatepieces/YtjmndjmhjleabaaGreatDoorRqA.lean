/- A reader of requests as it lies in memory; New, Dead walked. -/
import Derived.Test.YtjmndjmhjleabaaGreatDoorPk31
import Derived.Test.YtjmndjmhjleabaaGreatDoorFlB
set_option maxHeartbeats 400000
open Go.Proofs.Tryz
namespace Go.Proofs.YtjmndjmhjleabaaGreatDoor
open Go.RowKit
structure bH (w:World)(g:Nat)(lp hp:Value)(wh:Bool)(bd:Value)(code:Int):Prop where
 row:w.heap[g]? = some (.cells #[lp,hp,.bool wh,bd,.int .i64 code] 143 (0,0))
section
variable {w w':World} {g:Nat} {lp hp bd:Value} {wh:Bool} {code:Int}
theorem bH.lt (h:bH w g lp hp wh bd code):g<w.heap.size:=(Array.getElem?_eq_some_iff.1 h.row).1
theorem bH.c0 (h:bH w g lp hp wh bd code):w.cell? ⟨g,0,none⟩=some lp:=cell_of_row w g 0 _ _ _ h.row
theorem bH.c1 (h:bH w g lp hp wh bd code):w.cell? ⟨g,1,none⟩=some hp:=cell_of_row w g 1 _ _ _ h.row
theorem bH.c2 (h:bH w g lp hp wh bd code):w.cell? ⟨g,2,none⟩=some (.bool wh):=cell_of_row w g 2 _ _ _ h.row
theorem bH.c3 (h:bH w g lp hp wh bd code):w.cell? ⟨g,3,none⟩=some bd:=cell_of_row w g 3 _ _ _ h.row
theorem bH.c4 (h:bH w g lp hp wh bd code):w.cell? ⟨g,4,none⟩=some (.int .i64 code):=cell_of_row w g 4 _ _ _ h.row
theorem bH.fz (h:bH w g lp hp wh bd code)(j:Nat):w.frozen? ⟨g,j,none⟩=false:=frozen_of_row w g j _ _ h.row
theorem bH.stay (h:bH w g lp hp wh bd code)(hb:Below w.heap.size w w'):bH w' g lp hp wh bd code:=⟨(hb.block g h.lt).trans h.row⟩
theorem bH.turns {S:Nat->Prop}(h:bH w g lp hp wh bd code)(ht:Turns S w w')(hs:¬S g):bH w' g lp hp wh bd code:=⟨ht.row h.row hs⟩
theorem bH.s0 (h:bH w g lp hp wh bd code)(v:Value):bH (w.setCell ⟨g,0,none⟩ v) g v hp wh bd code:=⟨by rw[heap_setCell_same w g 0 _ _ _ h.row];rfl⟩
theorem bH.s1 (h:bH w g lp hp wh bd code)(v:Value):bH (w.setCell ⟨g,1,none⟩ v) g lp v wh bd code:=⟨by rw[heap_setCell_same w g 1 _ _ _ h.row];rfl⟩
theorem bH.s2 (h:bH w g lp hp wh bd code)(v:Bool):bH (w.setCell ⟨g,2,none⟩ (.bool v)) g lp hp v bd code:=⟨by rw[heap_setCell_same w g 2 _ _ _ h.row];rfl⟩
theorem bH.s3 (h:bH w g lp hp wh bd code)(v:Value):bH (w.setCell ⟨g,3,none⟩ v) g lp hp wh v code:=⟨by rw[heap_setCell_same w g 3 _ _ _ h.row];rfl⟩
theorem bH.s4 (h:bH w g lp hp wh bd code)(v:Int):bH (w.setCell ⟨g,4,none⟩ (.int .i64 v)) g lp hp wh bd v:=⟨by rw[heap_setCell_same w g 4 _ _ _ h.row];rfl⟩
end
def bX (w:World)(S:Nat->Prop)(gh:Nat)(h:Rq.Hd):Prop :=
 ∃fo ak, w.heap[gh]? = some (.cells #[.string ⟨h.method.toArray⟩, .string ⟨h.target.toArray⟩, .int .i64 (h.minor : Int), .slice fo h.fields.length ak, .int .i64 h.length] 68 (0, 0)) ∧
   aC w 0 111 2 fo ak h.fields.length (aB (Rq.iH h.fields))∧S gh∧∀a,fo=some a->S a.block
theorem bX.mono {w:World}{S S':Nat->Prop}{gh:Nat}{h:Rq.Hd}(k:bX w S gh h)(hs:∀k,k<w.heap.size->S k->S' k):bX w S' gh h:=by
 obtain⟨fo,ak,hg,ho,h1,h2⟩:=k;exact⟨fo,ak,hg,ho,hs gh (Array.getElem?_eq_some_iff.1 hg).1 h1,fun a e=>hs _ (ho.block a e).2 (h2 a e)⟩
theorem bX.turns {w w':World}{S S':Nat->Prop}{gh:Nat}{h:Rq.Hd}(k:bX w S gh h)(ht:Turns S' w w')(hs:∀k,S k->¬S' k):bX w' S gh h:=by
 obtain⟨fo,ak,hg,ho,h1,h2⟩:=k;exact⟨fo,ak,ht.row hg (hs gh h1),ho.turns ht (fun a e=>hs _ (h2 a e)),h1,h2⟩
theorem bX.stay {w w':World}{S:Nat->Prop}{gh:Nat}{h:Rq.Hd}(k:bX w S gh h)(hb:Below w.heap.size w w'):bX w' S gh h:=k.turns (Turns.of_below (S:=fun _=>False) hb) (fun _ _ e=>e)
theorem ug {w:World}{gh:Nat}{cs:Array Value}{fo:Option Addr}{ak n:Nat}{xs:List Value}(hg:w.heap[gh]? = some (.cells cs 68 (0,0)))(ho:aC w 0 111 2 fo ak n xs):∀a,fo=some a->a.block≠gh:=by
 intro a e e2;have:=fB hg ho (by decide);rw[ay,e] at this;exact this (by simp[au,e2])
theorem bX.len {w:World}{S:Nat->Prop}{gh:Nat}{h:Rq.Hd}(k:bX w S gh h)(n:Int):bX (w.setCell ⟨gh,4,none⟩ (.int .i64 n)) S gh { h with length:=n }∧Turns S w (w.setCell ⟨gh,4,none⟩ (.int .i64 n)):=by
 obtain⟨fo,ak,hg,ho,h1,h2⟩:=k;refine⟨⟨fo,ak,?_,ho.turns (Turns.setCell (fun i=>i=gh) w _ _ rfl) (fun a e=>ug hg ho a e),h1,h2⟩,Turns.setCell S w _ _ h1⟩;rw[heap_setCell_same w gh 4 _ _ _ hg];rfl
inductive vU (w:World)(C:Nat->Prop)(s:Rq.St):Value->Value->Value->Int->Prop
 | dead (c:Nat) (hc:c≠0) (h:s.ph=4):vU w C s (.pointer none) (.pointer none) .nilIface (c:Int)
 | BU (gl:Nat) (h:s.ph=0) (L:aJ w C gl s.ln):vU w C s (.pointer (some ⟨gl,0,none⟩)) (.pointer none) .nilIface 0
 | Ec (gl gh:Nat) (D:Nat->Prop) (h:s.ph=1) (L:aJ w (fun k=>C k∧¬D k) gl s.ln) (H:bX w (fun k=>C k∧D k) gh s.hd):vU w C s (.pointer (some ⟨gl,0,none⟩)) (.pointer (some ⟨gh,0,none⟩)) .nilIface 0
 | at2 (gl gb:Nat) (h:s.ph=2) (L:aJ w (fun k=>C k∧k≠gb) gl s.ln) (hb:C gb) (B:w.heap[gb]? = some (.cells #[.int .i64 (s.left:Int)] 208 (0,0))):vU w C s (.pointer (some ⟨gl,0,none⟩)) (.pointer none) (.iface 206 (.pointer (some ⟨gb,0,none⟩))) 0
 | at3 (gl gb:Nat) (D:Nat->Prop) (h:s.ph=3) (L:aJ w (fun k=>C k∧¬D k) gl s.ln) (B:jG w (fun k=>C k∧D k) gb s.ck):vU w C s (.pointer (some ⟨gl,0,none⟩)) (.pointer none) (.iface 204 (.pointer (some ⟨gb,0,none⟩))) 0
theorem vU.mono {w:World}{C C':Nat->Prop}{s:Rq.St}{lp hp bd:Value}{code:Int}(h:vU w C s lp hp bd code)(hs:∀k,k<w.heap.size->C k->C' k):vU w C' s lp hp bd code:=by
 cases h with
 | dead c hc h=>exact .dead c hc h
 | BU gl h L=>exact .BU gl h (L.mono hs)
 | Ec gl gh D h L H=>exact .Ec gl gh D h (L.mono (fun k hk e=>⟨hs k hk e.1,e.2⟩)) (H.mono (fun k hk e=>⟨hs k hk e.1,e.2⟩))
 | at2 gl gb h L hb B=>exact .at2 gl gb h (L.mono (fun k hk e=>⟨hs k hk e.1,e.2⟩)) (hs gb (Array.getElem?_eq_some_iff.1 B).1 hb) B
 | at3 gl gb D h L B=>exact .at3 gl gb D h (L.mono (fun k hk e=>⟨hs k hk e.1,e.2⟩)) (B.mono (fun k hk e=>⟨hs k hk e.1,e.2⟩))
theorem vU.turns {w w':World}{C S':Nat->Prop}{s:Rq.St}{lp hp bd:Value}{code:Int}(h:vU w C s lp hp bd code)(ht:Turns S' w w')(hs:∀k,C k->¬S' k):vU w' C s lp hp bd code:=by
 cases h with
 | dead c hc h=>exact .dead c hc h
 | BU gl h L=>exact .BU gl h (L.turns ht hs)
 | Ec gl gh D h L H=>exact .Ec gl gh D h (L.turns ht (fun k e=>hs k e.1)) (H.turns ht (fun k e=>hs k e.1))
 | at2 gl gb h L hb B=>exact .at2 gl gb h (L.turns ht (fun k e=>hs k e.1)) hb (ht.row B (hs gb hb))
 | at3 gl gb D h L B=>exact .at3 gl gb D h (L.turns ht (fun k e=>hs k e.1)) (B.turns ht (fun k e=>hs k e.1))
def bZ (w:World)(S:Nat->Prop)(g:Nat)(s:Rq.St):Prop :=
 S g∧∃lp hp bd code,bH w g lp hp false bd code∧vU w (fun k=>S k∧k≠g) s lp hp bd code
theorem bZ.lt {w:World}{S:Nat->Prop}{g:Nat}{s:Rq.St}(h:bZ w S g s):g<w.heap.size:=by
 obtain⟨_,_,_,_,_,hP,_⟩:=h;exact hP.lt
theorem bZ.mono {w:World}{S S':Nat->Prop}{g:Nat}{s:Rq.St}(h:bZ w S g s)(hs:∀k,k<w.heap.size->S k->S' k):bZ w S' g s:=by
 obtain⟨h1,lp,hp,bd,code,hP,hI⟩:=h;exact⟨hs g hP.lt h1,lp,hp,bd,code,hP,hI.mono (fun k hk e=>⟨hs k hk e.1,e.2⟩)⟩
theorem bZ.turns {w w':World}{S S':Nat->Prop}{g:Nat}{s:Rq.St}(h:bZ w S g s)(ht:Turns S' w w')(hs:∀k,S k->¬S' k):bZ w' S g s:=by
 obtain⟨h1,lp,hp,bd,code,hP,hI⟩:=h;exact⟨h1,lp,hp,bd,code,hP.turns ht (hs g h1),hI.turns ht (fun k e=>hs k e.1)⟩
theorem Gq (w:World):
 Calls prog 48 #[] w fun e w'=>∃g,e=.returned (.pointer (some ⟨g,0,none⟩))∧bZ w' (fun k=>w.heap.size<=k) g Rq.start∧Below w.heap.size w w':=by
 go_enter func48,ntmps48;go_wp2_with fail
 refine(mY w).mono ?_;rintro e w1 ⟨rfl,hL,hB⟩;have HL:=H9 hL;have HB:=H9 hB
 clear hL hB;go_wp2;go_ret;have hsz:=HB.o.size;have hlt:=HL.o.lt;have hB2:Below w1.heap.size w1 (w1.alloc (.cells #[.pointer (some ⟨w.heap.size,0,none⟩),.pointer none,.bool false,.nilIface,.int .i64 0] 143)):=(Below.refl _ _).alloc (Nat.le_refl _) _;have hL2:=(HL.o.mono (S':=fun k=>w.heap.size<=k∧k≠w1.heap.size) (fun k hk e=>⟨e,by omega⟩)).turns (Turns.of_below (S:=fun _=>False) hB2) (fun _ _ e=>e);exact⟨w1.heap.size,rfl,⟨hsz,_,_,_,_,⟨heap_alloc_new w1 _⟩,.BU w.heap.size rfl hL2⟩,HB.o.trans ((Below.refl _ _).alloc hsz _)⟩
theorem xV (w:World)(S:Nat->Prop)(g:Nat)(s:Rq.St)(h:bZ w S g s):
 Calls prog 33 #[.pointer (some ⟨g,0,none⟩)] w fun e w'=>e=.returned (.bool (decide (s.ph=4)))∧w'=w:=by
 obtain⟨_,lp,hp,bd,code,hP,hI⟩:=h;have c4:=hP.c4;have hd:(code != 0)=decide (s.ph=4):=by
  cases hI with
  | dead c hc h=>rw[decide_eq_true h,bne_iff_ne];omega
  | BU gl h L=>rw[decide_eq_false (by omega)];rfl
  | Ec gl gh D h L H=>rw[decide_eq_false (by omega)];rfl
  | at2 gl gb h L hb B=>rw[decide_eq_false (by omega)];rfl
  | at3 gl gb D h L B=>rw[decide_eq_false (by omega)];rfl
 generalize decide (s.ph=4)=dd at hd ⊢;clear hP hI;go_enter func33,ntmps33;go_wp2;go_ret;exact⟨rfl,rfl⟩
end Go.Proofs.YtjmndjmhjleabaaGreatDoor