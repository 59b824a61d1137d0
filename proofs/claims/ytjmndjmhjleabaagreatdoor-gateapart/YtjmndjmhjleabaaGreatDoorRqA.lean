/- A reader of requests as it lies in memory; New, Dead walked. -/
import Derived.Test.YtjmndjmhjleabaaGreatDoorPk34
import Derived.Test.YtjmndjmhjleabaaGreatDoorFlB
set_option maxHeartbeats 400000
open Go.Proofs.Tryz
namespace Go.Proofs.YtjmndjmhjleabaaGreatDoor
open Go.RowKit
structure bN (w:World) (g:Nat) (lp hp:Value) (wh:Bool) (bd:Value) (code:Int):Prop where
 row:w.heap[g]? = some (.cells #[lp,hp,.bool wh,bd,.int .i64 code] 143 (0,0))
section
variable {w w':World} {g:Nat} {lp hp bd:Value} {wh:Bool} {code:Int}
theorem bN.lt (h:bN w g lp hp wh bd code):g<w.heap.size:=(Array.getElem?_eq_some_iff.1 h.row).1
theorem bN.c0 (h:bN w g lp hp wh bd code):w.cell? ⟨g,0,none⟩=some lp:=cell_of_row w g 0 _ _ _ h.row
theorem bN.c1 (h:bN w g lp hp wh bd code):w.cell? ⟨g,1,none⟩=some hp:=cell_of_row w g 1 _ _ _ h.row
theorem bN.c2 (h:bN w g lp hp wh bd code):w.cell? ⟨g,2,none⟩=some (.bool wh):=cell_of_row w g 2 _ _ _ h.row
theorem bN.c3 (h:bN w g lp hp wh bd code):w.cell? ⟨g,3,none⟩=some bd:=cell_of_row w g 3 _ _ _ h.row
theorem bN.c4 (h:bN w g lp hp wh bd code):w.cell? ⟨g,4,none⟩=some (.int .i64 code):=cell_of_row w g 4 _ _ _ h.row
theorem bN.fz (h:bN w g lp hp wh bd code) (j:Nat):w.frozen? ⟨g,j,none⟩=false:=frozen_of_row w g j _ _ h.row
theorem bN.stay (h:bN w g lp hp wh bd code) (hb:Below w.heap.size w w'):bN w' g lp hp wh bd code:=⟨(hb.block g h.lt).trans h.row⟩
theorem bN.turns {S:Nat→Prop} (h:bN w g lp hp wh bd code) (ht:Turns S w w') (hs:¬ S g):bN w' g lp hp wh bd code:=⟨ht.row h.row hs⟩
theorem bN.s0 (h:bN w g lp hp wh bd code) (v:Value):bN (w.setCell ⟨g,0,none⟩ v) g v hp wh bd code:=⟨by rw [heap_setCell_same w g 0 _ _ _ h.row];rfl⟩
theorem bN.s1 (h:bN w g lp hp wh bd code) (v:Value):bN (w.setCell ⟨g,1,none⟩ v) g lp v wh bd code:=⟨by rw [heap_setCell_same w g 1 _ _ _ h.row];rfl⟩
theorem bN.s2 (h:bN w g lp hp wh bd code) (v:Bool):bN (w.setCell ⟨g,2,none⟩ (.bool v)) g lp hp v bd code:=⟨by rw [heap_setCell_same w g 2 _ _ _ h.row];rfl⟩
theorem bN.s3 (h:bN w g lp hp wh bd code) (v:Value):bN (w.setCell ⟨g,3,none⟩ v) g lp hp wh v code:=⟨by rw [heap_setCell_same w g 3 _ _ _ h.row];rfl⟩
theorem bN.s4 (h:bN w g lp hp wh bd code) (v:Int):bN (w.setCell ⟨g,4,none⟩ (.int .i64 v)) g lp hp wh bd v:=⟨by rw [heap_setCell_same w g 4 _ _ _ h.row];rfl⟩
end
def cZ (w:World) (S:Nat→Prop) (gh:Nat) (h:Rq.Hd):Prop :=
 ∃ fo au, w.heap[gh]? = some (.cells #[.string ⟨h.method.toArray⟩, .string ⟨h.target.toArray⟩, .int .i64 (h.minor : Int), .slice fo h.fields.length au, .int .i64 h.length] 68 (0, 0)) ∧
   aD w 0 111 2 fo au h.fields.length (aC (Rq.iN h.fields))∧S gh∧∀ a,fo=some a→S a.block
theorem cZ.mono {w:World} {S S':Nat→Prop} {gh:Nat} {h:Rq.Hd} (k:cZ w S gh h) (hs:∀ k,k<w.heap.size→S k→S' k):cZ w S' gh h:=by
 obtain ⟨fo,au,hg,ho,h1,h2⟩:=k;exact ⟨fo,au,hg,ho,hs gh (Array.getElem?_eq_some_iff.1 hg).1 h1,fun a e=>hs _ (ho.block a e).2 (h2 a e)⟩
theorem cZ.turns {w w':World} {S S':Nat→Prop} {gh:Nat} {h:Rq.Hd} (k:cZ w S gh h) (ht:Turns S' w w') (hs:∀ k,S k→¬ S' k):cZ w' S gh h:=by
 obtain ⟨fo,au,hg,ho,h1,h2⟩:=k;exact ⟨fo,au,ht.row hg (hs gh h1),ho.turns ht (fun a e=>hs _ (h2 a e)),h1,h2⟩
theorem cZ.stay {w w':World} {S:Nat→Prop} {gh:Nat} {h:Rq.Hd} (k:cZ w S gh h) (hb:Below w.heap.size w w'):cZ w' S gh h:=k.turns (Turns.of_below (S:=fun _=>False) hb) (fun _ _ e=>e)
theorem wO {w:World} {gh:Nat} {cs:Array Value} {fo:Option Addr} {au n:Nat} {xs:List Value} (hg:w.heap[gh]? = some (.cells cs 68 (0,0))) (ho:aD w 0 111 2 fo au n xs):∀ a,fo=some a→a.block≠gh:=by
 intro a e e2;have:=fU hg ho (by decide);rw [ay,e] at this;exact this (by simp [ak,e2])
theorem cZ.len {w:World} {S:Nat→Prop} {gh:Nat} {h:Rq.Hd} (k:cZ w S gh h) (n:Int):cZ (w.setCell ⟨gh,4,none⟩ (.int .i64 n)) S gh { h with length:=n }∧Turns S w (w.setCell ⟨gh,4,none⟩ (.int .i64 n)):=by
 obtain ⟨fo,au,hg,ho,h1,h2⟩:=k;refine ⟨⟨fo,au,?_,ho.turns (Turns.setCell (fun i=>i=gh) w _ _ rfl) (fun a e=>wO hg ho a e),h1,h2⟩,Turns.setCell S w _ _ h1⟩;rw [heap_setCell_same w gh 4 _ _ _ hg];rfl
inductive yN (w:World) (C:Nat→Prop) (s:Rq.St):Value→Value→Value→Int→Prop
 | dead (c:Nat) (hc:c≠0) (h:s.ph=4):yN w C s (.pointer none) (.pointer none) .nilIface (c:Int)
 | Fb (gl:Nat) (h:s.ph=0) (L:aN w C gl s.ln):yN w C s (.pointer (some ⟨gl,0,none⟩)) (.pointer none) .nilIface 0
 | Hu (gl gh:Nat) (D:Nat→Prop) (h:s.ph=1) (L:aN w (fun k=>C k∧¬ D k) gl s.ln) (H:cZ w (fun k=>C k∧D k) gh s.hd):yN w C s (.pointer (some ⟨gl,0,none⟩)) (.pointer (some ⟨gh,0,none⟩)) .nilIface 0
 | at2 (gl gb:Nat) (h:s.ph=2) (L:aN w (fun k=>C k∧k≠gb) gl s.ln) (hb:C gb) (B:w.heap[gb]? = some (.cells #[.int .i64 (s.left:Int)] 208 (0,0))):yN w C s (.pointer (some ⟨gl,0,none⟩)) (.pointer none) (.iface 206 (.pointer (some ⟨gb,0,none⟩))) 0
 | at3 (gl gb:Nat) (D:Nat→Prop) (h:s.ph=3) (L:aN w (fun k=>C k∧¬ D k) gl s.ln) (B:kG w (fun k=>C k∧D k) gb s.ck):yN w C s (.pointer (some ⟨gl,0,none⟩)) (.pointer none) (.iface 204 (.pointer (some ⟨gb,0,none⟩))) 0
theorem yN.mono {w:World} {C C':Nat→Prop} {s:Rq.St} {lp hp bd:Value} {code:Int} (h:yN w C s lp hp bd code) (hs:∀ k,k<w.heap.size→C k→C' k):yN w C' s lp hp bd code:=by
 cases h with
 | dead c hc h=>exact .dead c hc h
 | Fb gl h L=>exact .Fb gl h (L.mono hs)
 | Hu gl gh D h L H=>exact .Hu gl gh D h (L.mono (fun k hk e=>⟨hs k hk e.1,e.2⟩)) (H.mono (fun k hk e=>⟨hs k hk e.1,e.2⟩))
 | at2 gl gb h L hb B=>exact .at2 gl gb h (L.mono (fun k hk e=>⟨hs k hk e.1,e.2⟩)) (hs gb (Array.getElem?_eq_some_iff.1 B).1 hb) B
 | at3 gl gb D h L B=>exact .at3 gl gb D h (L.mono (fun k hk e=>⟨hs k hk e.1,e.2⟩)) (B.mono (fun k hk e=>⟨hs k hk e.1,e.2⟩))
theorem yN.turns {w w':World} {C S':Nat→Prop} {s:Rq.St} {lp hp bd:Value} {code:Int} (h:yN w C s lp hp bd code) (ht:Turns S' w w') (hs:∀ k,C k→¬ S' k):yN w' C s lp hp bd code:=by
 cases h with
 | dead c hc h=>exact .dead c hc h
 | Fb gl h L=>exact .Fb gl h (L.turns ht hs)
 | Hu gl gh D h L H=>exact .Hu gl gh D h (L.turns ht (fun k e=>hs k e.1)) (H.turns ht (fun k e=>hs k e.1))
 | at2 gl gb h L hb B=>exact .at2 gl gb h (L.turns ht (fun k e=>hs k e.1)) hb (ht.row B (hs gb hb))
 | at3 gl gb D h L B=>exact .at3 gl gb D h (L.turns ht (fun k e=>hs k e.1)) (B.turns ht (fun k e=>hs k e.1))
def dn (w:World) (S:Nat→Prop) (g:Nat) (s:Rq.St):Prop :=
 S g∧∃ lp hp bd code,bN w g lp hp false bd code∧yN w (fun k=>S k∧k≠g) s lp hp bd code
theorem dn.lt {w:World} {S:Nat→Prop} {g:Nat} {s:Rq.St} (h:dn w S g s):g<w.heap.size:=by
 obtain ⟨_,_,_,_,_,hP,_⟩:=h;exact hP.lt
theorem dn.mono {w:World} {S S':Nat→Prop} {g:Nat} {s:Rq.St} (h:dn w S g s) (hs:∀ k,k<w.heap.size→S k→S' k):dn w S' g s:=by
 obtain ⟨h1,lp,hp,bd,code,hP,hI⟩:=h;exact ⟨hs g hP.lt h1,lp,hp,bd,code,hP,hI.mono (fun k hk e=>⟨hs k hk e.1,e.2⟩)⟩
theorem dn.turns {w w':World} {S S':Nat→Prop} {g:Nat} {s:Rq.St} (h:dn w S g s) (ht:Turns S' w w') (hs:∀ k,S k→¬ S' k):dn w' S g s:=by
 obtain ⟨h1,lp,hp,bd,code,hP,hI⟩:=h;exact ⟨h1,lp,hp,bd,code,hP.turns ht (hs g h1),hI.turns ht (fun k e=>hs k e.1)⟩
theorem KA (w:World) :
 Calls prog 48 #[] w fun e w'=>∃ g,e=.returned (.pointer (some ⟨g,0,none⟩))∧dn w' (fun k=>w.heap.size≤k) g Rq.start∧Below w.heap.size w w':=by
 go_enter func48,ntmps48;go_wp2_with fail
 refine (oP w).mono ?_;rintro e w1 ⟨rfl,hL,hB⟩;have HL:=H9 hL;have HB:=H9 hB
 clear hL hB;go_wp2;go_ret;have hsz:=HB.o.size;have hlt:=HL.o.lt;have hB2:Below w1.heap.size w1 (w1.alloc (.cells #[.pointer (some ⟨w.heap.size,0,none⟩),.pointer none,.bool false,.nilIface,.int .i64 0] 143)):=(Below.refl _ _).alloc (Nat.le_refl _) _;have hL2:=(HL.o.mono (S':=fun k=>w.heap.size≤k∧k≠w1.heap.size) (fun k hk e=>⟨e,by omega⟩)).turns (Turns.of_below (S:=fun _=>False) hB2) (fun _ _ e=>e);exact ⟨w1.heap.size,rfl,⟨hsz,_,_,_,_,⟨heap_alloc_new w1 _⟩,.Fb w.heap.size rfl hL2⟩,HB.o.trans ((Below.refl _ _).alloc hsz _)⟩
theorem Ak (w:World) (S:Nat→Prop) (g:Nat) (s:Rq.St) (h:dn w S g s) :
 Calls prog 33 #[.pointer (some ⟨g,0,none⟩)] w fun e w'=>e=.returned (.bool (decide (s.ph=4)))∧w'=w:=by
 obtain ⟨_,lp,hp,bd,code,hP,hI⟩:=h;have c4:=hP.c4;have hd:(code != 0)=decide (s.ph=4):=by
  cases hI with
  | dead c hc h=>rw [decide_eq_true h,bne_iff_ne];omega
  | Fb gl h L=>rw [decide_eq_false (by omega)];rfl
  | Hu gl gh D h L H=>rw [decide_eq_false (by omega)];rfl
  | at2 gl gb h L hb B=>rw [decide_eq_false (by omega)];rfl
  | at3 gl gb D h L B=>rw [decide_eq_false (by omega)];rfl
 generalize decide (s.ph=4)=dd at hd ⊢;clear hP hI;go_enter func33,ntmps33;go_wp2;go_ret;exact ⟨rfl,rfl⟩
end Go.Proofs.YtjmndjmhjleabaaGreatDoor