/- A reader of forms as it lies in memory. -/
import Derived.Test.YtjmndjmhjleabaaGreatDoorSkR
import Derived.Test.YtjmndjmhjleabaaGreatDoorPk25
import Derived.Test.YtjmndjmhjleabaaGreatDoorPk18
import Derived.Test.YtjmndjmhjleabaaGreatDoorFlB
import Derived.Test.YtjmndjmhjleabaaGreatDoorPk10
open Go.Proofs.Tryz
namespace Go.Proofs.YtjmndjmhjleabaaGreatDoor
open Go.RowKit
structure bR (w:World)(g:Nat)(sk:Value)(ah:Int)(ln:Value)(fo:Option Addr)(nf ak:Nat)(pl pt cd:Int):Prop where
 row:w.heap[g]? = some (.cells #[sk,.int .i64 ah,ln,.slice fo nf ak,.int .i64 pl,.int .i64 pt,.int .i64 cd] 266 (0,0))
section
variable {w w':World} {g:Nat} {sk ln:Value} {fo:Option Addr} {nf ak:Nat} {ah pl pt cd:Int}
theorem bR.lt (h:bR w g sk ah ln fo nf ak pl pt cd):g<w.heap.size:=(Array.getElem?_eq_some_iff.1 h.row).1
theorem bR.c0 (h:bR w g sk ah ln fo nf ak pl pt cd):w.cell? ⟨g,0,none⟩=some sk:=cell_of_row w g 0 _ _ _ h.row
theorem bR.c1 (h:bR w g sk ah ln fo nf ak pl pt cd):w.cell? ⟨g,1,none⟩=some (.int .i64 ah):=cell_of_row w g 1 _ _ _ h.row
theorem bR.c2 (h:bR w g sk ah ln fo nf ak pl pt cd):w.cell? ⟨g,2,none⟩=some ln:=cell_of_row w g 2 _ _ _ h.row
theorem bR.c3 (h:bR w g sk ah ln fo nf ak pl pt cd):w.cell? ⟨g,3,none⟩=some (.slice fo nf ak):=cell_of_row w g 3 _ _ _ h.row
theorem bR.c4 (h:bR w g sk ah ln fo nf ak pl pt cd):w.cell? ⟨g,4,none⟩=some (.int .i64 pl):=cell_of_row w g 4 _ _ _ h.row
theorem bR.c5 (h:bR w g sk ah ln fo nf ak pl pt cd):w.cell? ⟨g,5,none⟩=some (.int .i64 pt):=cell_of_row w g 5 _ _ _ h.row
theorem bR.c6 (h:bR w g sk ah ln fo nf ak pl pt cd):w.cell? ⟨g,6,none⟩=some (.int .i64 cd):=cell_of_row w g 6 _ _ _ h.row
theorem bR.fz (h:bR w g sk ah ln fo nf ak pl pt cd)(j:Nat):w.frozen? ⟨g,j,none⟩=false:=frozen_of_row w g j _ _ h.row
theorem bR.turns {S:Nat->Prop}(h:bR w g sk ah ln fo nf ak pl pt cd)(ht:Turns S w w')(hs:¬S g):bR w' g sk ah ln fo nf ak pl pt cd:=⟨ht.row h.row hs⟩
theorem bR.stay (h:bR w g sk ah ln fo nf ak pl pt cd)(hb:Below w.heap.size w w'):bR w' g sk ah ln fo nf ak pl pt cd:=⟨(hb.block g h.lt).trans h.row⟩
theorem bR.s1 (h:bR w g sk ah ln fo nf ak pl pt cd)(v:Int):bR (w.setCell ⟨g,1,none⟩ (.int .i64 v)) g sk v ln fo nf ak pl pt cd:=⟨by rw[heap_setCell_same w g 1 _ _ _ h.row];rfl⟩
theorem bR.s3 (h:bR w g sk ah ln fo nf ak pl pt cd)(fo':Option Addr)(nf' TP:Nat):bR (w.setCell ⟨g,3,none⟩ (.slice fo' nf' TP)) g sk ah ln fo' nf' TP pl pt cd:=⟨by rw[heap_setCell_same w g 3 _ _ _ h.row];rfl⟩
theorem bR.s4 (h:bR w g sk ah ln fo nf ak pl pt cd)(v:Int):bR (w.setCell ⟨g,4,none⟩ (.int .i64 v)) g sk ah ln fo nf ak v pt cd:=⟨by rw[heap_setCell_same w g 4 _ _ _ h.row];rfl⟩
theorem bR.s5 (h:bR w g sk ah ln fo nf ak pl pt cd)(v:Int):bR (w.setCell ⟨g,5,none⟩ (.int .i64 v)) g sk ah ln fo nf ak pl v cd:=⟨by rw[heap_setCell_same w g 5 _ _ _ h.row];rfl⟩
theorem bR.set (w:World)(g:Nat)(j:Nat)(v:Value):Turns (fun k=>k=g) w (w.setCell ⟨g,j,none⟩ v):=Turns.setCell (fun k=>k=g) w ⟨g,j,none⟩ v rfl
end
structure lV (w:World)(C:Nat->Prop)(m:List UInt8)(s:Fm.St)(gs gl:Nat)(p:Ia)(fo:Option Addr)(ak:Nat)(D:Nat->Prop):Prop where
 sk:gI w gs m s.held p
 sO:C gs∧C p.gb∧∀a,p.mo=some a->C a.block
 Ie:¬D gs∧¬D p.gb∧∀a,p.mo=some a->¬D a.block
 ln:aJ w (fun k=>C k∧D k) gl s.ln
 own:aC w 0 111 2 fo ak s.fields.length (aB (Rq.iH s.fields))
 fC:∀a,fo=some a->C a.block∧¬D a.block
section
variable {w w':World} {C C' S' D:Nat->Prop} {m:List UInt8} {s:Fm.St} {gs gl:Nat} {p:Ia} {fo:Option Addr} {ak:Nat}
theorem lV.mono (h:lV w C m s gs gl p fo ak D)(hs:∀k,k<w.heap.size->C k->C' k):lV w C' m s gs gl p fo ak D :=
 ⟨h.sk,⟨hs _ h.sk.lt h.sO.1,hs _ h.sk.2.2.lt h.sO.2.1,fun a e=>hs _ (h.sk.2.1.block a e).2 (h.sO.2.2 a e)⟩,h.Ie,h.ln.mono (fun k hk e=>⟨hs k hk e.1,e.2⟩),h.own,fun a e=>⟨hs _ (h.own.block a e).2 (h.fC a e).1,(h.fC a e).2⟩⟩
theorem lV.turns (h:lV w C m s gs gl p fo ak D)(ht:Turns S' w w')(hs:∀k,C k->¬S' k):lV w' C m s gs gl p fo ak D :=
 ⟨h.sk.turns ht (hs _ h.sO.1) (hs _ h.sO.2.1) (fun a e=>hs _ (h.sO.2.2 a e)),h.sO,h.Ie,h.ln.turns ht (fun k e=>hs k e.1),h.own.turns ht (fun a e=>hs _ (h.fC a e).1),h.fC⟩
theorem lV.stay (h:lV w C m s gs gl p fo ak D)(hb:Below w.heap.size w w'):lV w' C m s gs gl p fo ak D:=h.turns (Turns.of_below (S:=fun _=>False) hb) (fun _ _ e=>e)
theorem lV.as {s2:Fm.St}(h:lV w C m s gs gl p fo ak D)(h1:s2.held=s.held)(h2:s2.ln=s.ln)(h3:s2.fields=s.fields):lV w C m s2 gs gl p fo ak D :=
 ⟨h1▸h.sk,h.sO,h.Ie,h2▸h.ln,h3▸h.own,h.fC⟩
theorem lV.fs (h:lV w C m s gs gl p fo ak D):∀a,fo=some a->a.block≠gs∧a.block≠p.gb∧∀b,p.mo=some b->a.block≠b.block:=by
 intro a e;have h1:=fB h.sk.1 h.own (by decide);rw[ay,e] at h1;refine⟨fun e2=>h1 (by simp[au,e2]),fun e2=>?_,fun b eb e2=>?_⟩
 . obtain⟨cc,hcc,_⟩:=h.sk.2.2;have h2:=fB hcc h.own (by decide);rw[ay,e] at h2;exact h2 (by simp[au,e2])
 . rcases h.sk.2.1.2 with hn | ⟨gg,cap',cur,e3,_,hh,_⟩
   . have hn:=hn.1;rw[eb] at hn;injection hn with hn;cases hn
   . rw[eb] at e3;injection e3 with e3;injection e3 with e3;have h2:=fB hh h.own (by decide);rw[ay,e] at h2;exact h2 (by simp[au,e2,e3])
end
inductive dG (w:World)(S:Nat->Prop)(g:Nat)(m:List UInt8)(s:Fm.St):Prop
 | dead (h:¬Fm.live s) (me:S g) (row:bR w g (.pointer none) (s.ahead:Int) (.pointer none) none 0 0 (s.place:Int) (s.parts:Int) (s.code:Int))
 | live (h:Fm.live s) (me:S g) (gs gl:Nat) (p:Ia) (fo:Option Addr) (ak:Nat) (D:Nat->Prop) (row:bR w g (.pointer (some ⟨gs,0,none⟩)) (s.ahead:Int) (.pointer (some ⟨gl,0,none⟩)) fo s.fields.length ak (s.place:Int) (s.parts:Int) (s.code:Int)) (inn:lV w (fun k=>S k∧k≠g) m s gs gl p fo ak D)
section
variable {w w':World} {S S':Nat->Prop} {g:Nat} {m:List UInt8} {s:Fm.St}
theorem dG.lt (h:dG w S g m s):g<w.heap.size:=by
 cases h with
 | dead h me row=>exact row.lt
 | live h me gs gl p fo ak D row inn=>exact row.lt
theorem dG.me (h:dG w S g m s):S g:=by
 cases h with
 | dead h me row=>exact me
 | live h me gs gl p fo ak D row inn=>exact me
theorem dG.mono (h:dG w S g m s)(hs:∀k,k<w.heap.size->S k->S' k):dG w S' g m s:=by
 cases h with
 | dead h me row=>exact .dead h (hs g row.lt me) row
 | live h me gs gl p fo ak D row inn=>exact .live h (hs g row.lt me) gs gl p fo ak D row (inn.mono (fun k hk e=>⟨hs k hk e.1,e.2⟩))
theorem dG.turns (h:dG w S g m s)(ht:Turns S' w w')(hs:∀k,S k->¬S' k):dG w' S g m s:=by
 cases h with
 | dead h me row=>exact .dead h me (row.turns ht (hs g me))
 | live h me gs gl p fo ak D row inn=>exact .live h me gs gl p fo ak D (row.turns ht (hs g me)) (inn.turns ht (fun k e=>hs k e.1))
theorem dG.stay (h:dG w S g m s)(hb:Below w.heap.size w w'):dG w' S g m s:=h.turns (Turns.of_below (S:=fun _=>False) hb) (fun _ _ e=>e)
theorem dG.cells (h:dG w S g m s):w.cell? ⟨g,4,none⟩=some (.int .i64 (s.place:Int))∧w.cell? ⟨g,5,none⟩=some (.int .i64 (s.parts:Int))∧w.cell? ⟨g,6,none⟩=some (.int .i64 (s.code:Int))∧∀j,w.frozen? ⟨g,j,none⟩=false:=by
 cases h with
 | dead h me row=>exact⟨row.c4,row.c5,row.c6,row.fz⟩
 | live h me gs gl p fo ak D row inn=>exact⟨row.c4,row.c5,row.c6,row.fz⟩
end
theorem L6 (w:World)(S:Nat->Prop)(g:Nat)(m:List UInt8)(s:Fm.St)(h:dG w S g m s):
 Calls prog 197 #[.pointer (some ⟨g,0,none⟩)] w fun e w'=>e=.returned (.int .i64 (Fm.close s:Int))∧w'=w:=by
 obtain⟨c4,_,c6,_⟩:=h.cells;clear h;by_cases hc:s.code=0
 . have t0:((s.code:Int)==0)=true:=by rw[beq_iff_eq];omega
   by_cases h6:s.place=6
   . have t1:((s.place:Int) != 6)=false:=by rw[h6];rfl
     have he:Fm.close s=s.code:=by unfold Fm.close;rw[if_neg (fun e=>e.2 h6)]
     rw[he];generalize (s.code:Int)=cd at *;generalize (s.place:Int)=pl at *;clear hc h6 he;go_enter func197,ntmps197;go_wp2;go_ret;exact⟨rfl,rfl⟩
   . have t1:((s.place:Int) != 6)=true:=by rw[bne_iff_ne];omega
     have he:Fm.close s=14:=by unfold Fm.close;rw[if_pos ⟨hc,h6⟩]
     rw[he];generalize (s.code:Int)=cd at *;generalize (s.place:Int)=pl at *;clear hc h6 he;go_enter func197,ntmps197;go_wp2;go_ret;exact⟨rfl,rfl⟩
 . have t0:((s.code:Int)==0)=false:=by rw[beq_eq_false_iff_ne];omega
   have he:Fm.close s=s.code:=by unfold Fm.close;rw[if_neg (fun e=>hc e.1)]
   rw[he];generalize (s.code:Int)=cd at *;generalize (s.place:Int)=pl at *;clear hc he;go_enter func197,ntmps197;go_wp2;go_ret;exact⟨rfl,rfl⟩
end Go.Proofs.YtjmndjmhjleabaaGreatDoor