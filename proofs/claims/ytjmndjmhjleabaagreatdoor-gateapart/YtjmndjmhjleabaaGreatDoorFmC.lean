/- Package forms, walked: a byte of a part. -/
import Derived.Test.YtjmndjmhjleabaaGreatDoorAl
import Derived.Test.YtjmndjmhjleabaaGreatDoorAm
import Derived.Test.YtjmndjmhjleabaaGreatDoorPk26
import Derived.Test.YtjmndjmhjleabaaGreatDoorPk28
import Derived.Test.YtjmndjmhjleabaaGreatDoorPk16
set_option maxHeartbeats 2000000
open Go.Proofs.Tryz
namespace Go.Proofs.YtjmndjmhjleabaaGreatDoor
open Go.RowKit
inductive za (w:World)(S So:Nat->Prop)(g gt:Nat)(m:av)(s:Fm.St)(t:Fm.Td)(w':World):Prop
 | mk (S' So':Nat->Prop) (hF:kr w' S' g m s) (hO:nu w' So' gt t) (hd:∀k,S' k->¬So' k) (hS:∀k,S' k->S k∨w.heap.size<=k) (hSo:∀k,So' k->So k∨w.heap.size<=k) (hT:Turns (fun k=>S k∨So k) w w')
inductive OX (w:World)(S So:Nat->Prop)(g gt:Nat)(t:Fm.Td)(w':World):Prop
 | mk (So':Nat->Prop) (sk ln:Value) (ah pl pt cd:Int) (fo:ak) (nf gM:Nat) (hR:jw w' g sk ah ln fo nf gM pl pt cd) (hO:nu w' So' gt t) (hd:¬So' g) (hSo:∀k,So' k->So k∨w.heap.size<=k) (hT:Turns (fun k=>S k∨So k) w w')
inductive ZM (w:World)(S So:Nat->Prop)(g gt:Nat)(m:av)(s:Fm.St)(c:UInt8)(t:Fm.Td)(e:Ending)(w':World):Prop
 | ok (he:e=.returned (.int .i64 0)) (h:za w S So g gt m (Fm.next m s c).1 (Fm.tells t (Fm.next m s c).2) w')
 | fail (k:Nat) (hk:k≠0) (hN:Fm.next m s c=Fm.fails k) (he:e=.returned (.int .i64 (k:Int))) (h:OX w S So g gt t w')
section
variable {w w1 w':World} {S:Nat->Prop} {g gs gl:Nat} {m:av} {s:Fm.St}
theorem kr.move (h:kr w S g m s)(hl:Fm.live s)(p:Nat)(hp:p≠6):kr (w.setCell ⟨g,4,none⟩ (.int .i64 (p:Int))) S g m { s with place:=p }∧Turns S w (w.setCell ⟨g,4,none⟩ (.int .i64 (p:Int))):=by
 cases h with
 | dead h me row=>exact absurd hl h
 | live h me gs gl q fo gM D row inn =>
   exact⟨.live ⟨h.1,hp⟩ me gs gl q fo gM D (row.s4 p) ((inn.turns (jw.set w g 4 _) (fun k e=>e.2)).as rfl rfl rfl),(jw.set w g 4 _).mono (fun k e=>by subst e;exact me)⟩
theorem kr.sought {p:OP}{fo:ak}{gM:Nat}{D:Nat->Prop}(hl:Fm.live s)(me:S g)(row:jw w g (.pointer (some ⟨gs,0,none⟩)) (s.ahead:Int) (.pointer (some ⟨gl,0,none⟩)) fo s.fields.length gM (s.place:Int) (s.parts:Int) (s.code:Int))(inn:tK w (fun k=>S k∧k≠g) m s gs gl p fo gM D)
 {h2 a2:Nat} (hS:mR w1 gs m h2 p) (hG:w.grownBy w1 (some gs)):kr (w1.setCell ⟨g,1,none⟩ (.int .i64 (a2:Int))) S g m { s with held:=h2,ahead:=a2 }∧Turns S w (w1.setCell ⟨g,1,none⟩ (.int .i64 (a2:Int))):=by
 have hT:Turns (fun k=>k=gs) w w1:=Turns.iZ hG (fun k e=>by injection e with e;exact e.symm);have jV:Turns (fun k=>k=g) w1 (w1.setCell ⟨g,1,none⟩ (.int .i64 (a2:Int))):=jw.set w1 g 1 _;have hne:gs≠g:=inn.Ae.1.2;have r1:=(row.turns hT (fun e=>hne e.symm)).s1 (a2:Int);have hlD:∀k,(((S k∧k≠g)∧D k)->¬k=gs):=fun k e e2=>inn.OU.1 (e2▸e.2);have i1:tK w1 (fun k=>S k∧k≠g) m { s with held:=h2,ahead:=a2 } gs gl p fo gM D:=⟨hS,inn.Ae,inn.OU,inn.ln.turns hT hlD,inn.own.turns hT (fun a e=>(inn.fs a e).1),inn.fC⟩;refine⟨.live hl me gs gl p fo gM D r1 (i1.turns jV (fun k e=>e.2)),(hT.mono (fun k e=>by subst e;exact inn.Ae.1.1)).trans (jV.mono (S':=S) (fun k e=>by subst e;exact me)) (fun _ e _=>e)⟩
end
structure Pair (w0:World)(S So:Nat->Prop)(g gt:Nat)(m:av)(s:Fm.St)(t:Fm.Td)(w:World):Prop where
 fm:kr w (fun k=>S k∧k<w0.heap.size) g m s
 td:nu w (fun k=>So k∧k<w0.heap.size) gt t
 apart:∀k,S k->¬So k
 turns:Turns (fun k=>S k∨So k) w0 w
section
variable {w0 w w':World} {S So:Nat->Prop} {g gt:Nat} {m:av} {s s':Fm.St} {t t':Fm.Td}
theorem Pair.start (hF:kr w S g m s)(hO:nu w So gt t)(hd:∀k,S k->¬So k):Pair w S So g gt m s t w:=⟨hF.mono (fun _ hk e=>⟨e,hk⟩),hO.mono (fun _ hk e=>⟨e,hk⟩),hd,Turns.refl _ _⟩
theorem Pair.form (h:Pair w0 S So g gt m s t w)(hF:kr w' (fun k=>S k∧k<w0.heap.size) g m s')(hT:Turns (fun k=>S k∧k<w0.heap.size) w w'):Pair w0 S So g gt m s' t w' :=
 ⟨hF,h.td.turns hT (fun k e e2=>h.apart k e2.1 e.1),h.apart,h.turns.trans hT (fun _ e _=>Or.inl e.1)⟩
theorem Pair.went (h:Pair w0 S So g gt m s t w):za w0 S So g gt m s t w :=
 .mk _ _ h.fm h.td (fun k e e2=>h.apart k e.1 e2.1) (fun _ e=>Or.inl e.1) (fun _ e=>Or.inl e.1) h.turns
theorem Pair.told (h:Pair w0 S So g gt m s t w)(hO:nu w' (gN (fun k=>So k∧k<w0.heap.size) w) gt t')(hT:Turns (fun k=>So k∧k<w0.heap.size) w w'):za w0 S So g gt m s t' w'∧kr w' (fun k=>S k∧k<w0.heap.size) g m s:=by
 have hz:=h.turns.size;have hF:=h.fm.turns hT (fun k e e2=>h.apart k e.1 e2.1);refine⟨.mk _ _ hF hO (fun k e e2=>?_) (fun k e=>Or.inl e.1) (fun k e=>?_) (h.turns.trans hT (fun i e _=>Or.inr e.1)),hF⟩
 . rcases e2 with e2 | e2
   . exact h.apart k e.1 e2.1
   . have:=e.2;omega
 . rcases e with e | e
   . exact Or.inl e.1
   . exact Or.inr (by omega)
end
theorem za.then_ {w0 w w':World}{S So S1 Mj:Nat->Prop}{g gt:Nat}{m:av}{s':Fm.St}{t':Fm.Td}(hS1:∀k,S1 k->S k∨w0.heap.size<=k)(Af:∀k,Mj k->So k∨w0.heap.size<=k)(hT:Turns (fun k=>S k∨So k) w0 w)(h2:za w S1 Mj g gt m s' t' w'):za w0 S So g gt m s' t' w':=by
 obtain⟨S2,So2,hF2,hO2,hd2,hS2,Xj,jV⟩:=h2;have hz:=hT.size;refine .mk S2 So2 hF2 hO2 hd2 (fun k e=>?_) (fun k e=>?_) (hT.trans jV (fun i e hi=>?_))
 . rcases hS2 k e with e | e
   . exact hS1 k e
   . exact Or.inr (by omega)
 . rcases Xj k e with e | e
   . exact Af k e
   . exact Or.inr (by omega)
 . rcases e with e | e
   . rcases hS1 i e with e | e
     . exact Or.inl e
     . omega
   . rcases Af i e with e | e
     . exact Or.inr e
     . omega
theorem JJ (w:World)(S So:Nat->Prop)(g gt:Nat)(m:av)(s:Fm.St)(c:UInt8)(t:Fm.Td)(h:kr w S g m s)(hl:Fm.live s)(hp:s.place=0)(hG:Fm.Good m s)(hO:nu w So gt t)(hd:∀k,S k->¬So k)(hm:m.length<=1000)(ha:s.ahead<=2)(hes:t.es.length<=80000)(hbs:t.bs.length<=80000):
 Calls prog 268 #[.pointer (some ⟨g,0,none⟩),.pointer (some ⟨gt,0,none⟩),.int .u8 c.toNat] w fun e w'=>e=.returned (.tuple #[])∧za w S So g gt m (Fm.next m s c).1 (Fm.tells t (Fm.next m s c).2) w':=by
 have hP:=Pair.start h hO hd;have hN:Fm.next m s c=({ s with held:=Sk.after m s.held c,ahead:=s.ahead-(Sk.out m s.held c).length,place:=if Sk.found m s.held c then 1 else 0 },if 0<s.parts then Fm.nT ((Sk.out m s.held c).drop s.ahead)++(if Sk.found m s.held c then [Fm.KH] else []) else []):=by
  unfold Fm.next;rw[if_neg (fun k=>k hl),if_pos hp]
 have hol:=Fm.yO m s.held c hG.held;have hhl:=hG.held;cases hP.fm with
 | dead h2 me row=>exact absurd hl h2
 | live h2 me gs gl p fo gM D row inn =>
   have c0:=row.c0;have hne:g≠gs:=fun e=>inn.Ae.1.2 e.symm;have HF:=H9 (ES w g gs s.ahead m s.held c p row.c0 row.c1 (row.fz 1) hne inn.sk hG.held hm (by omega));have hSo:∀w1 a2,mR w1 gs m (Sk.after m s.held c) p->w.grownBy w1 (some gs)->Pair w S So g gt m { s with held:=Sk.after m s.held c,ahead:=a2 } t (w1.setCell ⟨g,1,none⟩ (.int .i64 ((a2:Nat):Int))):=fun w1 a2 hS hG=>by
    obtain⟨r1,r2⟩:=kr.sought (a2:=a2) hl me row inn hS hG;exact hP.form r1 r2
   have HSo:=H9 hSo;have HN:=H9 hN;have HG:=H9 (And.intro hl hp);have hlt:=row.lt;clear hSo hN row inn hP h hO hd hG hl h2 me;generalize hout:Sk.out m s.held c=out at *;generalize hfd:Sk.found m s.held c=fd at *;generalize haf:Sk.after m s.held c=af at *;go_enter func268,ntmps268;go_wp2_with fail
   refine HF.o.mono ?_;rintro e w2 ⟨w1,ao,cap,n,he,hn,hw,hB,hlo,hS,hGr⟩;rw[hout] at hn hw hB;rw[hfd] at he;rw[haf] at hS;subst he;have hP2:=HSo.o w1 (s.ahead-out.length) hS hGr;have hB2:iH w2 ao cap (out.drop s.ahead):=by
    rw[hw];exact hB.turns (jw.set w1 g 1 _) (fun a e e2=>by have:=hlo a e;omega)
   rw[<-hw] at hP2;have uz:=H9 hP2;have HB2:=H9 hB2;have WG:=H9 hn
   obtain⟨c4,c5,_,fz⟩:=hP2.fm.cells;have f4:=fz 4;have hnl:n<=1001:=by rw[hn,bV];omega
   have HMv:=H9 (fun(W:World) (hW:kr W (fun k=>S k∧k<w.heap.size) g m { s with held:=af,ahead:=s.ahead-out.length })=>hW.move HG.o.1 1 (by decide));clear hP2 hB2 hn hB hS hGr hw hlo fz HF hout hfd haf;have c5:w2.cell? ⟨g,5,none⟩=some (.int .i64 (s.parts:Int)):=c5;by_cases hpt:0<s.parts
   . have tp:decide ((s.parts:Int) > 0)=true:=aI (by omega);have HAB:=H9 (JI w2 _ gt t ao cap n (out.drop s.ahead) uz.o.td HB2.o WG.o.symm (by omega));go_wp2_with fail
     refine HAB.o.mono ?_;rintro e w3 ⟨rfl,hO3,pF⟩;obtain⟨hW3,Yy⟩:=uz.o.told hO3 pF;obtain⟨c4',c5',_,fz⟩:=Yy.cells;have f4':=fz 4;have oD:=H9 hO3;have HW3:=H9 hW3;have HF3:=H9 Yy;have HT3:=H9 pF
     clear hO3 hW3 Yy pF fz HAB c4 f4;have c5':w3.cell? ⟨g,5,none⟩=some (.int .i64 (s.parts:Int)):=c5';cases fd with
     | false =>
       go_wp2;refine gy (results_none rfl _ _ _) rfl ?_;refine⟨rfl,?_⟩;rw[HN.o,if_pos hpt];show za w S So g gt m { s with held:=af,ahead:=s.ahead-out.length,place:=0 } (Fm.tells t (Fm.nT (out.drop s.ahead)++[])) w3;rw[bW,Fm.BI];have:({ s with held:=af,ahead:=s.ahead-out.length,place:=0 }:Fm.St)={ s with held:=af,ahead:=s.ahead-out.length }:=by have:=HG.o.2;cases s;simp only at this;subst this;rfl
       rw[this];exact HW3.o
     | true =>
       obtain⟨hm1,hm2⟩:=HMv.o w3 HF3.o;have hTo:=oD.o.turns hm2 (fun k e e2=>by
        rcases e with e | e
        . exact uz.o.apart k e2.1 e.1
        . have:=e2.2;have:=uz.o.turns.size;omega)
       have Tv:=H9 (xV _ _ gt _ 6 ⟨#[]⟩ ⟨#[]⟩ ⟨#[]⟩ 0 hTo (by decide) (by show t.es.length<=90000;omega));have Xk:=H9 hm1;have U0:=H9 hm2
       have Xl:=hm1.cells.2.1;have Xl:(w3.setCell ⟨g,4,none⟩ (.int .i64 ((1:Nat):Int))).cell? ⟨g,5,none⟩=some (.int .i64 (s.parts:Int)):=Xl;clear hm1 hm2 hTo;go_wp2_with fail
       refine Tv.o.mono ?_;rintro e w5 ⟨rfl,EA,xQ⟩;have tH:=H9 EA;have Xm:=H9 xQ
       clear EA xQ;go_wp2;go_end0
       refine⟨rfl,?_⟩;rw[HN.o,if_pos hpt];show za w S So g gt m { s with held:=af,ahead:=s.ahead-out.length,place:=1 } (Fm.tells t (Fm.nT (out.drop s.ahead)++[Fm.KH])) w5;rw[Fm.zF,Fm.BI];have hz:=HT3.o.size;have hz0:=uz.o.turns.size;have hF5:=Xk.o.turns Xm.o (fun k e e2=>by
        rcases e2 with e2 | e2
        . exact uz.o.apart k e.1 e2.1
        . have:=e.2;omega)
       refine .mk _ _ hF5 tH.o (fun k e e2=>?_) (fun _ e=>Or.inl e.1) (fun k e=>?_) (((uz.o.turns.trans HT3.o (fun _ e _=>Or.inr e.1)).trans U0.o (fun _ e _=>Or.inl e.1)).trans Xm.o (fun i e hi=>?_))
       . rcases e2 with e2 | e2
         . rcases e2 with e2 | e2
           . exact uz.o.apart k e.1 e2.1
           . have:=e.2;omega
         . have:=e.2;simp at e2;omega
       . rcases e with e | e
         . rcases e with e | e
           . exact Or.inl e.1
           . exact Or.inr (by omega)
         . exact Or.inr (by simp at e;omega)
       . rcases e with e | e
         . exact Or.inr e.1
         . omega
   . have tp:decide ((s.parts:Int) > 0)=false:=aJ (by omega);cases fd with
     | false =>
       go_wp2;refine gy (results_none rfl _ _ _) rfl ?_;refine⟨rfl,?_⟩;rw[HN.o,if_neg hpt];show za w S So g gt m { s with held:=af,ahead:=s.ahead-out.length,place:=0 } t w2;have:({ s with held:=af,ahead:=s.ahead-out.length,place:=0 }:Fm.St)={ s with held:=af,ahead:=s.ahead-out.length }:=by have:=HG.o.2;cases s;simp only at this;subst this;rfl
       rw[this];exact uz.o.went
     | true =>
       obtain⟨hm1,hm2⟩:=HMv.o w2 uz.o.fm;have Xk:=H9 hm1;have U0:=H9 hm2
       have Xl:=hm1.cells.2.1;have Xl:(w2.setCell ⟨g,4,none⟩ (.int .i64 ((1:Nat):Int))).cell? ⟨g,5,none⟩=some (.int .i64 (s.parts:Int)):=Xl;clear hm1 hm2;go_wp2;go_end0
       refine⟨rfl,?_⟩;rw[HN.o,if_neg hpt];exact(uz.o.form Xk.o U0.o).went
end Go.Proofs.YtjmndjmhjleabaaGreatDoor