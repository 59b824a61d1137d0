/- Small texts, one behind the other: RqEnd, RqBusy. -/
import Derived.Test.YtjmndjmhjleabaaGreatDoorRqA
import Derived.Test.YtjmndjmhjleabaaGreatDoorPk30
import Derived.Test.YtjmndjmhjleabaaGreatDoorPk25
set_option maxHeartbeats 2000000
set_option maxRecDepth 100000
open Go.Proofs.Tryz
namespace Go.Proofs.YtjmndjmhjleabaaGreatDoor
open Go.RowKit
theorem Rq.zu (f:List UInt8):∀(l:List (List UInt8)) (n:Int) (c:Nat),Rq.sizes f n l=.inl c->c≠0
 | [],n,c,e=>by cases e
 | v :: t, n, c, e => by
   rw[Rq.sizes] at e;split at e
   . injection e with e;omega
   . split at e
     . injection e with e;omega
     . exact Rq.zu f t _ c e
theorem Rq.IV {mi:Nat}{V C:List (List UInt8)}{c:Nat}(e:Rq.rR mi V C=.inl c):c≠0:=by
 unfold Rq.rR Rq.lG at e;split at e
 . split at e
   . injection e with e;omega
   . split at e
     . injection e with e;omega
     . cases e
 . split at e
   . rename_i hs;injection e with e;subst e;exact Rq.zu _ _ _ _ hs
   . split at e
     . injection e with e;omega
     . cases e
theorem Rq.MO (h:Rq.Hd):Rq.len h=if 1<(Fd.vals uZ (Rq.iH h.fields)).length∨(Fd.vals uZ (Rq.iH h.fields)).length=0∧h.minor=1 then .inl 13 else Rq.rR h.minor (Rq.lists (Fd.vals qo (Rq.iH h.fields))) (Rq.lists (Fd.vals qp (Rq.iH h.fields))):=by
 rw[Rq.len_eq,Rq.Oz];have e:∀(b:ByteArray),Ch.lower b.data.toList=b.data.toList->Rq.vals h.fields b.data.toList=Rq.lists (Fd.vals b (Rq.iH h.fields)):=fun b hb=>by
  have:=Rq.Eb (Rq.iH h.fields) b hb;rw[Rq.Jv] at this;exact this
 have e1:=e uZ (by decide);have e2:=e qo (by decide);have e3:=e qp (by decide);have e1':Rq.vals h.fields Rq.nHost=Rq.lists (Fd.vals uZ (Rq.iH h.fields)):=e1;have e2':Rq.vals h.fields Rq.Dt=Rq.lists (Fd.vals qo (Rq.iH h.fields)):=e2;have e3':Rq.vals h.fields Rq.Du=Rq.lists (Fd.vals qp (Rq.iH h.fields)):=e3;rw[e1',e2',e3'];have el:(Rq.lists (Fd.vals uZ (Rq.iH h.fields))).length=(Fd.vals uZ (Rq.iH h.fields)).length:=by simp[Rq.lists]
 rw[el]
inductive Yo (w:World)(S:Nat->Prop)(g gh:Nat)(lp bd:Value)(h:Rq.Hd)(e:Ending)(w':World):Prop
 | bad (c:Nat) (hc:c≠0) (he:e=.returned (.int .i64 (c:Int))) (hf:Rq.len h=.inl c) (hP:bH w' g lp (.pointer (some ⟨gh,0,none⟩)) false bd 0) (hT:Turns (fun k=>S k∨k=g) w w')
 | ok (k:Int) (he:e=.returned (.int .i64 0)) (hf:Rq.len h=.inr k) (hP:bH w' g lp (.pointer (some ⟨gh,0,none⟩)) true bd 0) (hH:bX w' S gh { h with length:=k }) (hT:Turns (fun k=>S k∨k=g) w w')
theorem gJ {w:World}{S:Nat->Prop}{gh:Nat}{h:Rq.Hd}(k:bX w S gh h):w.cell? ⟨gh,4,none⟩=some (.int .i64 h.length)∧w.frozen? ⟨gh,4,none⟩=false:=by
 obtain⟨fo,ak,hg,_⟩:=k;exact⟨cell_of_row w gh 4 _ _ _ hg,frozen_of_row w gh 4 _ _ hg⟩
theorem wQ {w w2:World}{S:Nat->Prop}{g gh:Nat}{lp bd:Value}{h:Rq.Hd}(n:Int)(b:Bool)(hB:Below w.heap.size w w2)(hP:bH w2 g lp (.pointer (some ⟨gh,0,none⟩)) false bd 0)(hH:bX w2 S gh h)(hg:¬S g):
 bH ((w2.setCell ⟨gh,4,none⟩ (.int .i64 n)).setCell ⟨g,2,none⟩ (.bool b)) g lp (.pointer (some ⟨gh,0,none⟩)) b bd 0∧bX ((w2.setCell ⟨gh,4,none⟩ (.int .i64 n)).setCell ⟨g,2,none⟩ (.bool b)) S gh { h with length:=n }∧Turns (fun k=>S k∨k=g) w ((w2.setCell ⟨gh,4,none⟩ (.int .i64 n)).setCell ⟨g,2,none⟩ (.bool b)):=by
 obtain⟨h1,h2⟩:=hH.len n;have hP1:=hP.turns h2 hg;refine⟨hP1.s2 b,h1.turns (Turns.setCell (fun k=>k=g) _ _ _ rfl) (fun k hk e=>hg (e▸hk)),?_⟩;exact(Turns.of_below (S:=fun k=>S k∨k=g) hB).trans ((h2.mono (fun k e=>Or.inl e)).trans (Turns.setCell (fun k=>S k∨k=g) _ _ _ (Or.inr rfl)) (fun _ e _=>e)) (fun _ e _=>e)
theorem SL (w:World)(g gh:Nat)(lp bd:Value)(S:Nat->Prop)(h:Rq.Hd)(hP:bH w g lp (.pointer (some ⟨gh,0,none⟩)) false bd 0)(hH:bX w S gh h)(hg:¬S g)(hG:Rq.jE h):
 Calls prog 141 #[.pointer (some ⟨g,0,none⟩)] w fun e w'=>Yo w S g gh lp bd h e w':=by
 have Qh:=H9 hH;have HP:=H9 hP;have Ik:=H9 hg;obtain⟨fo,ak,hr,ho,h1,h2⟩:=hH;have c1:=hP.c1;have c3:w.cell? ⟨gh,3,none⟩=some (.slice fo h.fields.length ak):=cell_of_row w gh 3 _ _ _ hr;have c2:w.cell? ⟨gh,2,none⟩=some (.int .i64 (h.minor:Int)):=cell_of_row w gh 2 _ _ _ hr;have hs:∀p∈Rq.iH h.fields,p.1.size<=2000∧p.2.size<=2000:=fun p hp=>by
  obtain⟨f,hf,rfl⟩:=List.mem_map.1 hp;have:=hG.fields f hf;exact⟨by show f.1.toArray.size<=2000;rw[List.size_toArray];omega,by show f.2.toArray.size<=2000;rw[List.size_toArray];omega⟩
 have hfl:(Rq.iH h.fields).length=h.fields.length:=Rq.kN _;have Yp:=hG.many;have HC:=H9 (fun W (hW:Below w.heap.size w W)=>And.intro ((hW.cell (World.block_lt_of_cell? w _ c1)).trans c1) (And.intro ((hW.cell (World.block_lt_of_cell? w _ c2)).trans c2) ((hW.cell (World.block_lt_of_cell? w _ c3)).trans c3)));have HH:=H9 (MN (Rq.iH h.fields) Qv fo ak h.fields.length w ho.lQ hfl (by omega) hs (by decide));rw[MJ] at HH;have HL:=H9 (fun W (hW:Below w.heap.size w W)=>IU gh h.minor (Rq.iH h.fields) fo ak h.fields.length W (HC.o W hW).2.1 (HC.o W hW).2.2 (ho.lQ.stay hW) hfl (by omega) hs);have hlen:=Rq.MO h;generalize (Fd.vals uZ (Rq.iH h.fields)).length=H at HH hlen;have hcode:∀c,Rq.rR h.minor (Rq.lists (Fd.vals qo (Rq.iH h.fields))) (Rq.lists (Fd.vals qp (Rq.iH h.fields)))=.inl c->c≠0:=fun c e=>Rq.IV e;generalize Rq.rR h.minor (Rq.lists (Fd.vals qo (Rq.iH h.fields))) (Rq.lists (Fd.vals qp (Rq.iH h.fields)))=R at HL hlen hcode;unfold Qv at HH;clear hr ho hs hfl Yp hG h1 h2 hP hg;by_cases hb:1<H∨H=0∧h.minor=1
 . rw[if_pos hb] at hlen;have HF:=H9 hlen;clear hlen hcode HL;by_cases hH1:1<H
   . have t1:decide ((H:Int) > 1)=true:=decide_eq_true (by omega);clear hb;go_enter func141,ntmps141;go_wp2_with fail
     refine HH.o.mono ?_;rintro e w1 ⟨rfl,hb1⟩;have HB1:=H9 hb1;have k1:=(HC.o w1 hb1).1;have k2:=(HC.o w1 hb1).2.1;clear hb1;go_wp2;go_ret;exact .bad 13 (by omega) rfl HF.o (HP.o.stay HB1.o) (Turns.of_below HB1.o)
   . have t1:decide ((H:Int) > 1)=false:=decide_eq_false (by omega);have t0:((H:Int)==0)=true:=beq_iff_eq.2 (by omega);have tm:((h.minor:Int)==1)=true:=beq_iff_eq.2 (by omega);clear hb hH1;go_enter func141,ntmps141;go_wp2_with fail
     refine HH.o.mono ?_;rintro e w1 ⟨rfl,hb1⟩;have HB1:=H9 hb1;have k1:=(HC.o w1 hb1).1;have k2:=(HC.o w1 hb1).2.1;clear hb1;go_wp2;go_ret;exact .bad 13 (by omega) rfl HF.o (HP.o.stay HB1.o) (Turns.of_below HB1.o)
 . rw[if_neg hb] at hlen;have HF:=H9 hlen;clear hlen;have t1:decide ((H:Int) > 1)=false:=decide_eq_false (by omega);have hz:((H:Int)==0)=false∨((H:Int)==0)=true∧((h.minor:Int)==1)=false:=by
    by_cases h0:H=0
    . exact Or.inr ⟨beq_iff_eq.2 (by omega),beq_eq_false_iff_ne.2 (by omega)⟩
    . exact Or.inl (beq_eq_false_iff_ne.2 (by omega))
   clear hb;cases R with
   | inl c =>
     have tc:((c:Int)==0)=false:=beq_eq_false_iff_ne.2 (by have:=hcode c rfl;omega);have HCo:=H9 (hcode c rfl);unfold Rq.lenVal at HL;clear hcode;rcases hz with t0 | ⟨t0,tm⟩
     . go_enter func141,ntmps141;go_wp2_with fail
       refine HH.o.mono ?_;rintro e w1 ⟨rfl,hb1⟩;have HB1:=H9 hb1;have k1:=(HC.o w1 hb1).1;have k2:=(HC.o w1 hb1).2.1;clear hb1;go_wp2_with fail
       refine(HL.o w1 HB1.o).mono ?_;rintro e w2 ⟨rfl,hb2⟩;have hb3:=then_ HB1.o hb2;have mG:=H9 (HP.o.stay hb3);have IW:=H9 (Qh.o.stay hb3);have HB2:=H9 hb3
       have q1:=mG.o.c1;have q2:=mG.o.c2;have qf:=mG.o.fz 2;have m4:=(gJ IW.o).1;have mf:=(gJ IW.o).2;clear hb2 hb3 k1 k2;go_wp2;go_ret;obtain⟨o1,o2,o3⟩:=wQ 0 false HB2.o mG.o IW.o Ik.o;exact .bad c HCo.o rfl HF.o o1 o3
     . go_enter func141,ntmps141;go_wp2_with fail
       refine HH.o.mono ?_;rintro e w1 ⟨rfl,hb1⟩;have HB1:=H9 hb1;have k1:=(HC.o w1 hb1).1;have k2:=(HC.o w1 hb1).2.1;clear hb1;go_wp2_with fail
       refine(HL.o w1 HB1.o).mono ?_;rintro e w2 ⟨rfl,hb2⟩;have hb3:=then_ HB1.o hb2;have mG:=H9 (HP.o.stay hb3);have IW:=H9 (Qh.o.stay hb3);have HB2:=H9 hb3
       have q1:=mG.o.c1;have q2:=mG.o.c2;have qf:=mG.o.fz 2;have m4:=(gJ IW.o).1;have mf:=(gJ IW.o).2;clear hb2 hb3 k1 k2;go_wp2;go_ret;obtain⟨o1,o2,o3⟩:=wQ 0 false HB2.o mG.o IW.o Ik.o;exact .bad c HCo.o rfl HF.o o1 o3
   | inr k =>
     unfold Rq.lenVal at HL;clear hcode;rcases hz with t0 | ⟨t0,tm⟩
     . go_enter func141,ntmps141;go_wp2_with fail
       refine HH.o.mono ?_;rintro e w1 ⟨rfl,hb1⟩;have HB1:=H9 hb1;have k1:=(HC.o w1 hb1).1;have k2:=(HC.o w1 hb1).2.1;clear hb1;go_wp2_with fail
       refine(HL.o w1 HB1.o).mono ?_;rintro e w2 ⟨rfl,hb2⟩;have hb3:=then_ HB1.o hb2;have mG:=H9 (HP.o.stay hb3);have IW:=H9 (Qh.o.stay hb3);have HB2:=H9 hb3
       have q1:=mG.o.c1;have q2:=mG.o.c2;have qf:=mG.o.fz 2;have m4:=(gJ IW.o).1;have mf:=(gJ IW.o).2;clear hb2 hb3 k1 k2;go_wp2;go_ret;obtain⟨o1,o2,o3⟩:=wQ k true HB2.o mG.o IW.o Ik.o;exact .ok k rfl HF.o o1 o2 o3
     . go_enter func141,ntmps141;go_wp2_with fail
       refine HH.o.mono ?_;rintro e w1 ⟨rfl,hb1⟩;have HB1:=H9 hb1;have k1:=(HC.o w1 hb1).1;have k2:=(HC.o w1 hb1).2.1;clear hb1;go_wp2_with fail
       refine(HL.o w1 HB1.o).mono ?_;rintro e w2 ⟨rfl,hb2⟩;have hb3:=then_ HB1.o hb2;have mG:=H9 (HP.o.stay hb3);have IW:=H9 (Qh.o.stay hb3);have HB2:=H9 hb3
       have q1:=mG.o.c1;have q2:=mG.o.c2;have qf:=mG.o.fz 2;have m4:=(gJ IW.o).1;have mf:=(gJ IW.o).2;clear hb2 hb3 k1 k2;go_wp2;go_ret;obtain⟨o1,o2,o3⟩:=wQ k true HB2.o mG.o IW.o Ik.o;exact .ok k rfl HF.o o1 o2 o3
theorem QG (w:World)(S:Nat->Prop)(g:Nat)(s:Rq.St)(h:bZ w S g s):
 Calls prog 47 #[.pointer (some ⟨g,0,none⟩)] w fun e w'=>e=.returned (.bool (Rq.busy s))∧w'=w:=by
 have HD:=H9 (xV w S g s h);have HB:Hid (Rq.busy s=if s.ph=4 then false else if s.ph=0 then Ln.begun s.ln else true):=rfl;generalize Rq.busy s=bb at HB ⊢;obtain⟨hg,lp,hp,bd,code,hP,hI⟩:=h;have c0:=hP.c0;have c1:=hP.c1;have c3:=hP.c3
 have hb:=HB.o;cases hI with
 | dead c hc h4 =>
   rw[if_pos h4] at hb;rw[decide_eq_true h4] at HD;subst hb;clear hP HB;go_enter func47,ntmps47;go_wp2_with (go_at_call 33;refine HD.o.mono ?_;rintro e w1 ⟨rfl,hw⟩;subst hw)
   go_ret;exact⟨rfl,rfl⟩
 | BU gl h0 L =>
   rw[if_neg (by omega),if_pos h0] at hb;rw[decide_eq_false (by omega)] at HD;have HL:=H9 (zA w _ gl s.ln L);subst hb;clear hP HB L;generalize Ln.begun s.ln=bg at *;go_enter func47,ntmps47;go_wp2_with (first
    | (go_at_call 33;refine HD.o.mono ?_;rintro e w1 ⟨rfl,hw⟩;subst hw)
    | (go_at_call 80;refine HL.o.mono ?_;rintro e w2 ⟨rfl,hw⟩;subst hw))
   go_ret;exact⟨rfl,rfl⟩
 | Ec gl gh D h1 L H =>
   rw[if_neg (by omega),if_neg (by omega)] at hb;rw[decide_eq_false (by omega)] at HD;subst hb;clear hP HB L H;go_enter func47,ntmps47;go_wp2_with (go_at_call 33;refine HD.o.mono ?_;rintro e w1 ⟨rfl,hw⟩;subst hw)
   go_ret;exact⟨rfl,rfl⟩
 | at2 gl gb h2 L hbb B =>
   rw[if_neg (by omega),if_neg (by omega)] at hb;rw[decide_eq_false (by omega)] at HD;subst hb;clear hP HB L B;go_enter func47,ntmps47;go_wp2_with (go_at_call 33;refine HD.o.mono ?_;rintro e w1 ⟨rfl,hw⟩;subst hw)
   go_ret;exact⟨rfl,rfl⟩
 | at3 gl gb D h3 L B =>
   rw[if_neg (by omega),if_neg (by omega)] at hb;rw[decide_eq_false (by omega)] at HD;subst hb;clear hP HB L B;go_enter func47,ntmps47;go_wp2_with (go_at_call 33;refine HD.o.mono ?_;rintro e w1 ⟨rfl,hw⟩;subst hw)
   go_ret;exact⟨rfl,rfl⟩
end Go.Proofs.YtjmndjmhjleabaaGreatDoor