/- A reader of requests as it lies in memory; New, Dead walked. -/
import Derived.Test.YtjmndjmhjleabaaGreatDoorAl
import Derived.Test.YtjmndjmhjleabaaGreatDoorAm
import Derived.Test.YtjmndjmhjleabaaGreatDoorPk32
import Derived.Test.YtjmndjmhjleabaaGreatDoorFlB
set_option maxHeartbeats 400000
open Go.Proofs.Tryz
namespace Go.Proofs.YtjmndjmhjleabaaGreatDoor
open Go.RowKit
structure jg (w:World)(g:Nat)(lp hp:Value)(wh:Bool)(bd:Value)(code:Int):Prop where
 row:w.heap[g]? = some (.cells #[lp,hp,.bool wh,bd,.int .i64 code] 143 (0,0))
section
variable {w w':World} {g:Nat} {lp hp bd:Value} {wh:Bool} {code:Int}
theorem jg.lt (h:jg w g lp hp wh bd code):g<w.heap.size:=(aL.1 h.row).1
theorem jg.c0 (h:jg w g lp hp wh bd code):w.cell? ⟨g,0,none⟩=some lp:=fK w g 0 _ _ _ h.row
theorem jg.c1 (h:jg w g lp hp wh bd code):w.cell? ⟨g,1,none⟩=some hp:=fK w g 1 _ _ _ h.row
theorem jg.c2 (h:jg w g lp hp wh bd code):w.cell? ⟨g,2,none⟩=some (.bool wh):=fK w g 2 _ _ _ h.row
theorem jg.c3 (h:jg w g lp hp wh bd code):w.cell? ⟨g,3,none⟩=some bd:=fK w g 3 _ _ _ h.row
theorem jg.c4 (h:jg w g lp hp wh bd code):w.cell? ⟨g,4,none⟩=some (.int .i64 code):=fK w g 4 _ _ _ h.row
theorem jg.fz (h:jg w g lp hp wh bd code)(j:Nat):w.frozen? ⟨g,j,none⟩=false:=fM w g j _ _ h.row
theorem jg.stay (h:jg w g lp hp wh bd code)(hb:aj w w'):jg w' g lp hp wh bd code:=⟨(hb.block g h.lt).trans h.row⟩
theorem jg.turns {S:Nat->Prop}(h:jg w g lp hp wh bd code)(ht:Turns S w w')(hs:¬S g):jg w' g lp hp wh bd code:=⟨ht.row h.row hs⟩
theorem jg.s0 (h:jg w g lp hp wh bd code)(v:Value):jg (w.setCell ⟨g,0,none⟩ v) g v hp wh bd code:=⟨by rw[fO w g 0 _ _ _ h.row];rfl⟩
theorem jg.s1 (h:jg w g lp hp wh bd code)(v:Value):jg (w.setCell ⟨g,1,none⟩ v) g lp v wh bd code:=⟨by rw[fO w g 1 _ _ _ h.row];rfl⟩
theorem jg.s2 (h:jg w g lp hp wh bd code)(v:Bool):jg (w.setCell ⟨g,2,none⟩ (.bool v)) g lp hp v bd code:=⟨by rw[fO w g 2 _ _ _ h.row];rfl⟩
theorem jg.s3 (h:jg w g lp hp wh bd code)(v:Value):jg (w.setCell ⟨g,3,none⟩ v) g lp hp wh v code:=⟨by rw[fO w g 3 _ _ _ h.row];rfl⟩
theorem jg.s4 (h:jg w g lp hp wh bd code)(v:Int):jg (w.setCell ⟨g,4,none⟩ (.int .i64 v)) g lp hp wh bd v:=⟨by rw[fO w g 4 _ _ _ h.row];rfl⟩
end
def jG (w:World)(S:Nat->Prop)(gh:Nat)(h:Rq.Hd):Prop :=
 ∃fo gM, w.heap[gh]? = some (.cells #[.string ⟨h.method.toArray⟩, .string ⟨h.target.toArray⟩, .int .i64 (h.minor : Int), .slice fo h.fields.length gM, .int .i64 h.length] 68 (0, 0)) ∧
   gV w 0 111 2 fo gM h.fields.length (gU (Rq.ny h.fields))∧S gh∧∀a,fo=some a->S a.block
theorem jG.mono {w:World}{S S':Nat->Prop}{gh:Nat}{h:Rq.Hd}(k:jG w S gh h)(hs:∀k,k<w.heap.size->S k->S' k):jG w S' gh h:=by
 obtain⟨fo,gM,hg,ho,h1,h2⟩:=k;exact⟨fo,gM,hg,ho,hs gh (aL.1 hg).1 h1,fun a e=>hs _ (ho.block a e).2 (h2 a e)⟩
theorem jG.turns {w w':World}{S S':Nat->Prop}{gh:Nat}{h:Rq.Hd}(k:jG w S gh h)(ht:Turns S' w w')(hs:∀k,S k->¬S' k):jG w' S gh h:=by
 obtain⟨fo,gM,hg,ho,h1,h2⟩:=k;exact⟨fo,gM,ht.row hg (hs gh h1),ho.turns ht (fun a e=>hs _ (h2 a e)),h1,h2⟩
theorem jG.stay {w w':World}{S:Nat->Prop}{gh:Nat}{h:Rq.Hd}(k:jG w S gh h)(hb:aj w w'):jG w' S gh h:=k.turns (Turns.of_below (S:=fun _=>False) hb) (fun _ _ e=>e)
theorem AV {w:World}{gh:Nat}{cs:Array Value}{fo:ak}{gM n:Nat}{xs:List Value}(hg:w.heap[gh]? = some (.cells cs 68 (0,0)))(ho:gV w 0 111 2 fo gM n xs):∀a,fo=some a->a.block≠gh:=by
 intro a e e2;have:=lG hg ho (by decide);rw[gP,e] at this;exact this (by simp[gL,e2])
theorem jG.len {w:World}{S:Nat->Prop}{gh:Nat}{h:Rq.Hd}(k:jG w S gh h)(n:Int):jG (w.setCell ⟨gh,4,none⟩ (.int .i64 n)) S gh { h with length:=n }∧Turns S w (w.setCell ⟨gh,4,none⟩ (.int .i64 n)):=by
 obtain⟨fo,gM,hg,ho,h1,h2⟩:=k;refine⟨⟨fo,gM,?_,ho.turns (Turns.setCell (fun i=>i=gh) w _ _ rfl) (fun a e=>AV hg ho a e),h1,h2⟩,Turns.setCell S w _ _ h1⟩;rw[fO w gh 4 _ _ _ hg];rfl
inductive Cz (w:World)(C:Nat->Prop)(s:Rq.St):Value->Value->Value->Int->Prop
 | dead (c:Nat) (hc:c≠0) (h:s.ph=4):Cz w C s (.pointer none) (.pointer none) .nilIface (c:Int)
 | Jp (gl:Nat) (h:s.ph=0) (L:iA w C gl s.ln):Cz w C s (.pointer (some ⟨gl,0,none⟩)) (.pointer none) .nilIface 0
 | K6 (gl gh:Nat) (D:Nat->Prop) (h:s.ph=1) (L:iA w (fun k=>C k∧¬D k) gl s.ln) (H:jG w (fun k=>C k∧D k) gh s.hd):Cz w C s (.pointer (some ⟨gl,0,none⟩)) (.pointer (some ⟨gh,0,none⟩)) .nilIface 0
 | at2 (gl gb:Nat) (h:s.ph=2) (L:iA w (fun k=>C k∧k≠gb) gl s.ln) (hb:C gb) (B:w.heap[gb]? = some (.cells #[.int .i64 (s.left:Int)] 208 (0,0))):Cz w C s (.pointer (some ⟨gl,0,none⟩)) (.pointer none) (.iface 206 (.pointer (some ⟨gb,0,none⟩))) 0
 | at3 (gl gb:Nat) (D:Nat->Prop) (h:s.ph=3) (L:iA w (fun k=>C k∧¬D k) gl s.ln) (B:pV w (fun k=>C k∧D k) gb s.ck):Cz w C s (.pointer (some ⟨gl,0,none⟩)) (.pointer none) (.iface 204 (.pointer (some ⟨gb,0,none⟩))) 0
theorem Cz.mono {w:World}{C C':Nat->Prop}{s:Rq.St}{lp hp bd:Value}{code:Int}(h:Cz w C s lp hp bd code)(hs:∀k,k<w.heap.size->C k->C' k):Cz w C' s lp hp bd code:=by
 cases h with
 | dead c hc h=>exact .dead c hc h
 | Jp gl h L=>exact .Jp gl h (L.mono hs)
 | K6 gl gh D h L H=>exact .K6 gl gh D h (L.mono (fun k hk e=>⟨hs k hk e.1,e.2⟩)) (H.mono (fun k hk e=>⟨hs k hk e.1,e.2⟩))
 | at2 gl gb h L hb B=>exact .at2 gl gb h (L.mono (fun k hk e=>⟨hs k hk e.1,e.2⟩)) (hs gb (aL.1 B).1 hb) B
 | at3 gl gb D h L B=>exact .at3 gl gb D h (L.mono (fun k hk e=>⟨hs k hk e.1,e.2⟩)) (B.mono (fun k hk e=>⟨hs k hk e.1,e.2⟩))
theorem Cz.turns {w w':World}{C S':Nat->Prop}{s:Rq.St}{lp hp bd:Value}{code:Int}(h:Cz w C s lp hp bd code)(ht:Turns S' w w')(hs:∀k,C k->¬S' k):Cz w' C s lp hp bd code:=by
 cases h with
 | dead c hc h=>exact .dead c hc h
 | Jp gl h L=>exact .Jp gl h (L.turns ht hs)
 | K6 gl gh D h L H=>exact .K6 gl gh D h (L.turns ht (fun k e=>hs k e.1)) (H.turns ht (fun k e=>hs k e.1))
 | at2 gl gb h L hb B=>exact .at2 gl gb h (L.turns ht (fun k e=>hs k e.1)) hb (ht.row B (hs gb hb))
 | at3 gl gb D h L B=>exact .at3 gl gb D h (L.turns ht (fun k e=>hs k e.1)) (B.turns ht (fun k e=>hs k e.1))
def jI (w:World)(S:Nat->Prop)(g:Nat)(s:Rq.St):Prop :=
 S g∧∃lp hp bd code,jg w g lp hp false bd code∧Cz w (fun k=>S k∧k≠g) s lp hp bd code
theorem jI.lt {w:World}{S:Nat->Prop}{g:Nat}{s:Rq.St}(h:jI w S g s):g<w.heap.size:=by
 obtain⟨_,_,_,_,_,hP,_⟩:=h;exact hP.lt
theorem jI.mono {w:World}{S S':Nat->Prop}{g:Nat}{s:Rq.St}(h:jI w S g s)(hs:∀k,k<w.heap.size->S k->S' k):jI w S' g s:=by
 obtain⟨h1,lp,hp,bd,code,hP,hI⟩:=h;exact⟨hs g hP.lt h1,lp,hp,bd,code,hP,hI.mono (fun k hk e=>⟨hs k hk e.1,e.2⟩)⟩
theorem jI.turns {w w':World}{S S':Nat->Prop}{g:Nat}{s:Rq.St}(h:jI w S g s)(ht:Turns S' w w')(hs:∀k,S k->¬S' k):jI w' S g s:=by
 obtain⟨h1,lp,hp,bd,code,hP,hI⟩:=h;exact⟨h1,lp,hp,bd,code,hP.turns ht (hs g h1),hI.turns ht (fun k e=>hs k e.1)⟩
theorem NR (w:World):
 Calls prog 48 #[] w fun e w'=>∃g,e=.returned (.pointer (some ⟨g,0,none⟩))∧jI w' (fun k=>w.heap.size<=k) g Rq.start∧aj w w':=by
 go_enter func48,ntmps48;go_wp2_with fail
 refine(uO w).mono ?_;rintro e w1 ⟨rfl,hL,hB⟩;have HL:=H9 hL;have HB:=H9 hB
 clear hL hB;go_wp2;go_ret;have hsz:=HB.o.size;have hlt:=HL.o.lt;have hB2:aj w1 (w1.alloc (.cells #[.pointer (some ⟨w.heap.size,0,none⟩),.pointer none,.bool false,.nilIface,.int .i64 0] 143)):=(fJ _ _).alloc (aM _) _;have hL2:=(HL.o.mono (S':=fun k=>w.heap.size<=k∧k≠w1.heap.size) (fun k hk e=>⟨e,by omega⟩)).turns (Turns.of_below (S:=fun _=>False) hB2) (fun _ _ e=>e);exact⟨w1.heap.size,rfl,⟨hsz,_,_,_,_,⟨fI w1 _⟩,.Jp w.heap.size rfl hL2⟩,HB.o.trans ((fJ _ _).alloc hsz _)⟩
theorem Ec (w:World)(S:Nat->Prop)(g:Nat)(s:Rq.St)(h:jI w S g s):
 Calls prog 33 #[.pointer (some ⟨g,0,none⟩)] w fun e w'=>e=.returned (.bool (decide (s.ph=4)))∧w'=w:=by
 obtain⟨_,lp,hp,bd,code,hP,hI⟩:=h;have c4:=hP.c4;have hd:(code != 0)=decide (s.ph=4):=by
  cases hI with
  | dead c hc h=>rw[aI h,cZ];omega
  | Jp gl h L=>rw[aJ (by omega)];rfl
  | K6 gl gh D h L H=>rw[aJ (by omega)];rfl
  | at2 gl gb h L hb B=>rw[aJ (by omega)];rfl
  | at3 gl gb D h L B=>rw[aJ (by omega)];rfl
 generalize decide (s.ph=4)=dd at hd ⊢;clear hP hI;go_enter func33,ntmps33;go_wp2;go_ret;exact⟨rfl,rfl⟩
end Go.Proofs.YtjmndjmhjleabaaGreatDoor