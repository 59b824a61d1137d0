/- Small texts, one behind the other: RqEnd, RqBusy. -/
import Derived.Test.YtjmndjmhjleabaaGreatDoorAl
import Derived.Test.YtjmndjmhjleabaaGreatDoorAm
import Derived.Test.YtjmndjmhjleabaaGreatDoorRqA
import Derived.Test.YtjmndjmhjleabaaGreatDoorPk31
import Derived.Test.YtjmndjmhjleabaaGreatDoorPk25
set_option maxHeartbeats 2000000
set_option maxRecDepth 100000
open Go.Proofs.Tryz
namespace Go.Proofs.YtjmndjmhjleabaaGreatDoor
open Go.RowKit
theorem Rq.Fu (f:av):∀(l:List (av)) (n:Int) (c:Nat),Rq.sizes f n l=.inl c->c≠0
 | [],n,c,e=>by cases e
 | v :: t, n, c, e => by
   rw[Rq.sizes] at e;split at e
   . injection e with e;omega
   . split at e
     . injection e with e;omega
     . exact Rq.Fu f t _ c e
theorem Rq.Px {mi:Nat}{V C:List (av)}{c:Nat}(e:Rq.zK mi V C=.inl c):c≠0:=by
 unfold Rq.zK Rq.sN at e;split at e
 . split at e
   . injection e with e;omega
   . split at e
     . injection e with e;omega
     . cases e
 . split at e
   . rename_i hs;injection e with e;subst e;exact Rq.Fu _ _ _ _ hs
   . split at e
     . injection e with e;omega
     . cases e
theorem Rq.Un (h:Rq.Hd):Rq.len h=if 1<(Fd.vals rR (Rq.ny h.fields)).length∨(Fd.vals rR (Rq.ny h.fields)).length=0∧h.minor=1 then .inl 13 else Rq.zK h.minor (Rq.lists (Fd.vals qp (Rq.ny h.fields))) (Rq.lists (Fd.vals qw (Rq.ny h.fields))):=by
 rw[Rq.len_eq,Rq.V6];have e:∀(b:ay),Ch.lower b.data.toList=b.data.toList->Rq.vals h.fields b.data.toList=Rq.lists (Fd.vals b (Rq.ny h.fields)):=fun b hb=>by
  have:=Rq.wB (Rq.ny h.fields) b hb;rw[Rq.Jm] at this;exact this
 have e1:=e rR (by decide);have e2:=e qp (by decide);have e3:=e qw (by decide);have e1':Rq.vals h.fields Rq.nHost=Rq.lists (Fd.vals rR (Rq.ny h.fields)):=e1;have e2':Rq.vals h.fields Rq.Kz=Rq.lists (Fd.vals qp (Rq.ny h.fields)):=e2;have e3':Rq.vals h.fields Rq.KA=Rq.lists (Fd.vals qw (Rq.ny h.fields)):=e3;rw[e1',e2',e3'];have el:(Rq.lists (Fd.vals rR (Rq.ny h.fields))).length=(Fd.vals rR (Rq.ny h.fields)).length:=by simp[Rq.lists]
 rw[el]
inductive afd (w:World)(S:Nat->Prop)(g gh:Nat)(lp bd:Value)(h:Rq.Hd)(e:Ending)(w':World):Prop
 | bad (c:Nat) (hc:c≠0) (he:e=.returned (.int .i64 (c:Int))) (hf:Rq.len h=.inl c) (hP:jg w' g lp (.pointer (some ⟨gh,0,none⟩)) false bd 0) (hT:Turns (fun k=>S k∨k=g) w w')
 | ok (k:Int) (he:e=.returned (.int .i64 0)) (hf:Rq.len h=.inr k) (hP:jg w' g lp (.pointer (some ⟨gh,0,none⟩)) true bd 0) (hH:jG w' S gh { h with length:=k }) (hT:Turns (fun k=>S k∨k=g) w w')
theorem mU {w:World}{S:Nat->Prop}{gh:Nat}{h:Rq.Hd}(k:jG w S gh h):w.cell? ⟨gh,4,none⟩=some (.int .i64 h.length)∧w.frozen? ⟨gh,4,none⟩=false:=by
 obtain⟨fo,gM,hg,_⟩:=k;exact⟨fK w gh 4 _ _ _ hg,fM w gh 4 _ _ hg⟩
theorem Df {w w2:World}{S:Nat->Prop}{g gh:Nat}{lp bd:Value}{h:Rq.Hd}(n:Int)(b:Bool)(hB:aj w w2)(hP:jg w2 g lp (.pointer (some ⟨gh,0,none⟩)) false bd 0)(hH:jG w2 S gh h)(hg:¬S g):
 jg ((w2.setCell ⟨gh,4,none⟩ (.int .i64 n)).setCell ⟨g,2,none⟩ (.bool b)) g lp (.pointer (some ⟨gh,0,none⟩)) b bd 0∧jG ((w2.setCell ⟨gh,4,none⟩ (.int .i64 n)).setCell ⟨g,2,none⟩ (.bool b)) S gh { h with length:=n }∧Turns (fun k=>S k∨k=g) w ((w2.setCell ⟨gh,4,none⟩ (.int .i64 n)).setCell ⟨g,2,none⟩ (.bool b)):=by
 obtain⟨h1,h2⟩:=hH.len n;have hP1:=hP.turns h2 hg;refine⟨hP1.s2 b,h1.turns (Turns.setCell (fun k=>k=g) _ _ _ rfl) (fun k hk e=>hg (e▸hk)),?_⟩;exact(Turns.of_below (S:=fun k=>S k∨k=g) hB).trans ((h2.mono (fun k e=>Or.inl e)).trans (Turns.setCell (fun k=>S k∨k=g) _ _ _ (Or.inr rfl)) (fun _ e _=>e)) (fun _ e _=>e)
theorem aac (w:World)(g gh:Nat)(lp bd:Value)(S:Nat->Prop)(h:Rq.Hd)(hP:jg w g lp (.pointer (some ⟨gh,0,none⟩)) false bd 0)(hH:jG w S gh h)(hg:¬S g)(hG:Rq.nH h):
 Calls prog 141 #[.pointer (some ⟨g,0,none⟩)] w fun e w'=>afd w S g gh lp bd h e w':=by
 have Pf:=H9 hH;have HP:=H9 hP;have OZ:=H9 hg;obtain⟨fo,gM,hr,ho,h1,h2⟩:=hH;have c1:=hP.c1;have c3:w.cell? ⟨gh,3,none⟩=some (.slice fo h.fields.length gM):=fK w gh 3 _ _ _ hr;have c2:w.cell? ⟨gh,2,none⟩=some (.int .i64 (h.minor:Int)):=fK w gh 2 _ _ _ hr;have hs:∀p∈Rq.ny h.fields,p.1.size<=2000∧p.2.size<=2000:=fun p hp=>by
  obtain⟨f,hf,rfl⟩:=aN.1 hp;have:=hG.fields f hf;exact⟨by show f.1.toArray.size<=2000;rw[bM];omega,by show f.2.toArray.size<=2000;rw[bM];omega⟩
 have hfl:(Rq.ny h.fields).length=h.fields.length:=Rq.kV _;have afe:=hG.many;have HC:=H9 (fun W (hW:aj w W)=>And.intro ((hW.cell (gq w _ c1)).trans c1) (And.intro ((hW.cell (gq w _ c2)).trans c2) ((hW.cell (gq w _ c3)).trans c3)));have HH:=H9 (Um (Rq.ny h.fields) XQ fo gM h.fields.length w ho.nQ hfl (by omega) hs (by decide));rw[Uj] at HH;have HL:=H9 (fun W (hW:aj w W)=>Pw gh h.minor (Rq.ny h.fields) fo gM h.fields.length W (HC.o W hW).2.1 (HC.o W hW).2.2 (ho.nQ.stay hW) hfl (by omega) hs);have hlen:=Rq.Un h;generalize (Fd.vals rR (Rq.ny h.fields)).length=H at HH hlen;have hcode:∀c,Rq.zK h.minor (Rq.lists (Fd.vals qp (Rq.ny h.fields))) (Rq.lists (Fd.vals qw (Rq.ny h.fields)))=.inl c->c≠0:=fun c e=>Rq.Px e;generalize Rq.zK h.minor (Rq.lists (Fd.vals qp (Rq.ny h.fields))) (Rq.lists (Fd.vals qw (Rq.ny h.fields)))=R at HL hlen hcode;unfold XQ at HH;clear hr ho hs hfl afe hG h1 h2 hP hg;by_cases hb:1<H∨H=0∧h.minor=1
 . rw[if_pos hb] at hlen;have HF:=H9 hlen;clear hlen hcode HL;by_cases hH1:1<H
   . have t1:decide ((H:Int) > 1)=true:=aI (by omega);clear hb;go_enter func141,ntmps141;go_wp2_with fail
     refine HH.o.mono ?_;rintro e w1 ⟨rfl,hb1⟩;have HB1:=H9 hb1;have k1:=(HC.o w1 hb1).1;have k2:=(HC.o w1 hb1).2.1;clear hb1;go_wp2;go_ret;exact .bad 13 (by omega) rfl HF.o (HP.o.stay HB1.o) (Turns.of_below HB1.o)
   . have t1:decide ((H:Int) > 1)=false:=aJ (by omega);have t0:((H:Int)==0)=true:=aT.2 (by omega);have tm:((h.minor:Int)==1)=true:=aT.2 (by omega);clear hb hH1;go_enter func141,ntmps141;go_wp2_with fail
     refine HH.o.mono ?_;rintro e w1 ⟨rfl,hb1⟩;have HB1:=H9 hb1;have k1:=(HC.o w1 hb1).1;have k2:=(HC.o w1 hb1).2.1;clear hb1;go_wp2;go_ret;exact .bad 13 (by omega) rfl HF.o (HP.o.stay HB1.o) (Turns.of_below HB1.o)
 . rw[if_neg hb] at hlen;have HF:=H9 hlen;clear hlen;have t1:decide ((H:Int) > 1)=false:=aJ (by omega);have hz:((H:Int)==0)=false∨((H:Int)==0)=true∧((h.minor:Int)==1)=false:=by
    by_cases h0:H=0
    . exact Or.inr ⟨aT.2 (by omega),aS.2 (by omega)⟩
    . exact Or.inl (aS.2 (by omega))
   clear hb;cases R with
   | inl c =>
     have tc:((c:Int)==0)=false:=aS.2 (by have:=hcode c rfl;omega);have HCo:=H9 (hcode c rfl);unfold Rq.lenVal at HL;clear hcode;rcases hz with t0 | ⟨t0,tm⟩
     . go_enter func141,ntmps141;go_wp2_with fail
       refine HH.o.mono ?_;rintro e w1 ⟨rfl,hb1⟩;have HB1:=H9 hb1;have k1:=(HC.o w1 hb1).1;have k2:=(HC.o w1 hb1).2.1;clear hb1;go_wp2_with fail
       refine(HL.o w1 HB1.o).mono ?_;rintro e w2 ⟨rfl,hb2⟩;have hb3:=then_ HB1.o hb2;have uz:=H9 (HP.o.stay hb3);have Py:=H9 (Pf.o.stay hb3);have HB2:=H9 hb3
       have q1:=uz.o.c1;have q2:=uz.o.c2;have qf:=uz.o.fz 2;have m4:=(mU Py.o).1;have mf:=(mU Py.o).2;clear hb2 hb3 k1 k2;go_wp2;go_ret;obtain⟨o1,o2,o3⟩:=Df 0 false HB2.o uz.o Py.o OZ.o;exact .bad c HCo.o rfl HF.o o1 o3
     . go_enter func141,ntmps141;go_wp2_with fail
       refine HH.o.mono ?_;rintro e w1 ⟨rfl,hb1⟩;have HB1:=H9 hb1;have k1:=(HC.o w1 hb1).1;have k2:=(HC.o w1 hb1).2.1;clear hb1;go_wp2_with fail
       refine(HL.o w1 HB1.o).mono ?_;rintro e w2 ⟨rfl,hb2⟩;have hb3:=then_ HB1.o hb2;have uz:=H9 (HP.o.stay hb3);have Py:=H9 (Pf.o.stay hb3);have HB2:=H9 hb3
       have q1:=uz.o.c1;have q2:=uz.o.c2;have qf:=uz.o.fz 2;have m4:=(mU Py.o).1;have mf:=(mU Py.o).2;clear hb2 hb3 k1 k2;go_wp2;go_ret;obtain⟨o1,o2,o3⟩:=Df 0 false HB2.o uz.o Py.o OZ.o;exact .bad c HCo.o rfl HF.o o1 o3
   | inr k =>
     unfold Rq.lenVal at HL;clear hcode;rcases hz with t0 | ⟨t0,tm⟩
     . go_enter func141,ntmps141;go_wp2_with fail
       refine HH.o.mono ?_;rintro e w1 ⟨rfl,hb1⟩;have HB1:=H9 hb1;have k1:=(HC.o w1 hb1).1;have k2:=(HC.o w1 hb1).2.1;clear hb1;go_wp2_with fail
       refine(HL.o w1 HB1.o).mono ?_;rintro e w2 ⟨rfl,hb2⟩;have hb3:=then_ HB1.o hb2;have uz:=H9 (HP.o.stay hb3);have Py:=H9 (Pf.o.stay hb3);have HB2:=H9 hb3
       have q1:=uz.o.c1;have q2:=uz.o.c2;have qf:=uz.o.fz 2;have m4:=(mU Py.o).1;have mf:=(mU Py.o).2;clear hb2 hb3 k1 k2;go_wp2;go_ret;obtain⟨o1,o2,o3⟩:=Df k true HB2.o uz.o Py.o OZ.o;exact .ok k rfl HF.o o1 o2 o3
     . go_enter func141,ntmps141;go_wp2_with fail
       refine HH.o.mono ?_;rintro e w1 ⟨rfl,hb1⟩;have HB1:=H9 hb1;have k1:=(HC.o w1 hb1).1;have k2:=(HC.o w1 hb1).2.1;clear hb1;go_wp2_with fail
       refine(HL.o w1 HB1.o).mono ?_;rintro e w2 ⟨rfl,hb2⟩;have hb3:=then_ HB1.o hb2;have uz:=H9 (HP.o.stay hb3);have Py:=H9 (Pf.o.stay hb3);have HB2:=H9 hb3
       have q1:=uz.o.c1;have q2:=uz.o.c2;have qf:=uz.o.fz 2;have m4:=(mU Py.o).1;have mf:=(mU Py.o).2;clear hb2 hb3 k1 k2;go_wp2;go_ret;obtain⟨o1,o2,o3⟩:=Df k true HB2.o uz.o Py.o OZ.o;exact .ok k rfl HF.o o1 o2 o3
theorem X5 (w:World)(S:Nat->Prop)(g:Nat)(s:Rq.St)(h:jI w S g s):
 Calls prog 47 #[.pointer (some ⟨g,0,none⟩)] w fun e w'=>e=.returned (.bool (Rq.busy s))∧w'=w:=by
 have HD:=H9 (Ec w S g s h);have HB:Hid (Rq.busy s=if s.ph=4 then false else if s.ph=0 then Ln.begun s.ln else true):=rfl;generalize Rq.busy s=bb at HB ⊢;obtain⟨hg,lp,hp,bd,code,hP,hI⟩:=h;have c0:=hP.c0;have c1:=hP.c1;have c3:=hP.c3
 have hb:=HB.o;cases hI with
 | dead c hc h4 =>
   rw[if_pos h4] at hb;rw[aI h4] at HD;subst hb;clear hP HB;go_enter func47,ntmps47;go_wp2_with (go_at_call 33;refine HD.o.mono ?_;rintro e w1 ⟨rfl,hw⟩;subst hw)
   go_ret;exact⟨rfl,rfl⟩
 | Jp gl h0 L =>
   rw[if_neg (by omega),if_pos h0] at hb;rw[aJ (by omega)] at HD;have HL:=H9 (Fz w _ gl s.ln L);subst hb;clear hP HB L;generalize Ln.begun s.ln=bg at *;go_enter func47,ntmps47;go_wp2_with (first
    | (go_at_call 33;refine HD.o.mono ?_;rintro e w1 ⟨rfl,hw⟩;subst hw)
    | (go_at_call 80;refine HL.o.mono ?_;rintro e w2 ⟨rfl,hw⟩;subst hw))
   go_ret;exact⟨rfl,rfl⟩
 | K6 gl gh D h1 L H =>
   rw[if_neg (by omega),if_neg (by omega)] at hb;rw[aJ (by omega)] at HD;subst hb;clear hP HB L H;go_enter func47,ntmps47;go_wp2_with (go_at_call 33;refine HD.o.mono ?_;rintro e w1 ⟨rfl,hw⟩;subst hw)
   go_ret;exact⟨rfl,rfl⟩
 | at2 gl gb h2 L hbb B =>
   rw[if_neg (by omega),if_neg (by omega)] at hb;rw[aJ (by omega)] at HD;subst hb;clear hP HB L B;go_enter func47,ntmps47;go_wp2_with (go_at_call 33;refine HD.o.mono ?_;rintro e w1 ⟨rfl,hw⟩;subst hw)
   go_ret;exact⟨rfl,rfl⟩
 | at3 gl gb D h3 L B =>
   rw[if_neg (by omega),if_neg (by omega)] at hb;rw[aJ (by omega)] at HD;subst hb;clear hP HB L B;go_enter func47,ntmps47;go_wp2_with (go_at_call 33;refine HD.o.mono ?_;rintro e w1 ⟨rfl,hw⟩;subst hw)
   go_ret;exact⟨rfl,rfl⟩
end Go.Proofs.YtjmndjmhjleabaaGreatDoor