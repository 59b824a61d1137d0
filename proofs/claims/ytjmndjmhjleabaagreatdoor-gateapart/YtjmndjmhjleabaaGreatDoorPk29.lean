/- Small texts, one behind the other: PmRdD, PmRdE, PmFnd, PmFind, PmMedia, PmMedB, PmCaught. -/
import Derived.Test.YtjmndjmhjleabaaGreatDoorAl
import Derived.Test.YtjmndjmhjleabaaGreatDoorAm
import Derived.Test.YtjmndjmhjleabaaGreatDoorPk25
import Derived.Test.YtjmndjmhjleabaaGreatDoorPk5
import Derived.Test.YtjmndjmhjleabaaGreatDoorPk23
import Derived.Test.YtjmndjmhjleabaaGreatDoorPk1
import Derived.Test.YtjmndjmhjleabaaGreatDoorPk11
import Derived.Defers
import Derived.Recover
set_option maxHeartbeats 3200000
set_option maxRecDepth 100000
open Go.Proofs.Tryz
namespace Go.Proofs.YtjmndjmhjleabaaGreatDoor
open Go.RowKit
def Pm.AZ (l:av)(i:Nat):Nat ⊕ (av×Nat) :=
 if Pm.word l i=0 then .inl 5
 else if l[i+Pm.word l i]? = some 47 then
  (if Pm.word l (i + Pm.word l i + 1) = 0 then .inl 5
   else .inr (Ch.lower ((l.drop i).take (Pm.word l i))++[47]++Ch.lower ((l.drop (i+Pm.word l i+1)).take (Pm.word l (i+Pm.word l i+1))),i+Pm.word l i+1+Pm.word l (i+Pm.word l i+1)))
 else .inr (Ch.lower ((l.drop i).take (Pm.word l i)),i+Pm.word l i)
def abO (m:Nat ⊕ (av×Nat))(w:World)(g:Nat)(s:ay)(e:Ending)(w':World):Prop:=match m with
 | .inl c=>e=gave c∧Turns (only g) w w'
 | .inr x=>e=.returned (.string ⟨x.1.toArray⟩)∧x.2<=s.size∧je w' g s x.2∧Turns (only g) w w'
theorem qL (s:ay)(i n:Nat):(s.extract i (i+n)).data.toList=(s.data.toList.drop i).take n:=by
 rw[Lib.extract_data];simp
theorem Lp (a b:av):Ch.lower (a++(47::b))=Ch.lower a++[47]++Ch.lower b:=by
 have:Ch.qC 47=47:=by decide
 simp[Ch.lower,this]
theorem Sd (s:ay)(i g:Nat)(w:World)(h:je w g s i)(hs:s.size<=1000000)(hi:i<=s.size):
 Calls prog 247 #[.pointer (some ⟨g,0,none⟩)] w fun e w'=>abO (Pm.AZ s.data.toList i) w g s e w':=by
 have hl:s.data.toList.length=s.size:=by rw[aO];rfl
 have hw:=Pm.zy s.data.toList i (by rw[hl];exact hi);rw[hl] at hw;by_cases h0:Pm.word s.data.toList i=0
 . have HR:Hid (Pm.AZ s.data.toList i=.inl 5):=by unfold Hid Pm.AZ;rw[if_pos h0]
   have HT:=H9 (zW s i g w h hs hi h0);clear h0 hw hl;go_enter func247,ntmps247;go_wp2_with fail
   refine HT.o.mono ?_;rintro e w2 ⟨he,h2⟩;unfold gave at he;subst he;go_wp2;refine⟨rfl,?_⟩;rw[HR.o];exact⟨rfl,h2⟩
 . have HT:=H9 (xM s i g w h hs hi h0);have hx:=qL s i (Pm.word s.data.toList i);have hxz:(s.extract i (i+Pm.word s.data.toList i)).size<=s.size:=by simp;omega
   by_cases h47:s.data.toList[i+Pm.word s.data.toList i]? = some 47
   . have hlt:i+Pm.word s.data.toList i<s.size:=by
      have:=(aQ.1 h47).1;rwa[hl] at this
     have hw2:=Pm.zy s.data.toList (i+Pm.word s.data.toList i+1) (by rw[hl];omega);rw[hl] at hw2;by_cases h1:Pm.word s.data.toList (i+Pm.word s.data.toList i+1)=0
     . have HR:Hid (Pm.AZ s.data.toList i=.inl 5):=by unfold Hid Pm.AZ;rw[if_neg h0,if_pos h47,if_pos h1]
       have H47:=H9 h47;have H1:=H9 h1;clear h0 h47 h1 hx hw2 hl;generalize Pm.word s.data.toList i=n at *;generalize s.extract i (i+n)=x at *;go_enter func247,ntmps247;go_wp2_with fail
       refine HT.o.mono ?_;rintro e w1 ⟨rfl,h1,t1⟩;have T1:=H9 t1;have R1:=H9 h1;clear t1 h1;go_wp2_with fail
       refine(wL s _ g 47 _ R1.out hs H47.o).mono ?_;rintro e w2 ⟨rfl,h2,t2⟩;have T2:=H9 (T1.out.trans t2 (fun _ h _=>h));have R2:=H9 h2;clear t2 h2 T1 R1;go_wp2_with fail
       refine(zW s _ g _ R2.out hs (by omega) H1.o).mono ?_;rintro e w3 ⟨he,t3⟩;unfold gave at he;subst he;have T3:=H9 (T2.out.trans t3 (fun _ h _=>h));clear t3;go_wp2;refine⟨rfl,?_⟩;rw[HR.o];exact⟨rfl,T3.out⟩
     . have hy:=qL s (i+Pm.word s.data.toList i+1) (Pm.word s.data.toList (i+Pm.word s.data.toList i+1));have hyz:(s.extract (i+Pm.word s.data.toList i+1) (i+Pm.word s.data.toList i+1+Pm.word s.data.toList (i+Pm.word s.data.toList i+1))).size<=s.size:=by simp;omega
       have HR:Hid (Pm.AZ s.data.toList i=.inr (Ch.lower (s.extract i (i+Pm.word s.data.toList i)).data.toList++[47]++Ch.lower (s.extract (i+Pm.word s.data.toList i+1) (i+Pm.word s.data.toList i+1+Pm.word s.data.toList (i+Pm.word s.data.toList i+1))).data.toList,i+Pm.word s.data.toList i+1+Pm.word s.data.toList (i+Pm.word s.data.toList i+1))):=by
        unfold Hid Pm.AZ;rw[if_neg h0,if_pos h47,if_neg h1,hx,hy]
       have HK:=H9 (fun W (hW:je W g s (i+Pm.word s.data.toList i+1))=>xM s (i+Pm.word s.data.toList i+1) g W hW hs (by omega) h1);have H47:=H9 h47;clear h0 h47 h1 hx hy hl;generalize Pm.word s.data.toList i=n at *;generalize Pm.word s.data.toList (i+n+1)=m at *;generalize s.extract i (i+n)=x at *;generalize s.extract (i+n+1) (i+n+1+m)=y at *;have hz:(x++(⟨#[47]⟩++y)).size<=maxLen:=by
        rw[bN,bN];show x.size+(1+y.size)<=maxLen;unfold maxLen;omega
       have sS:=H9 (fun W=>oN (x++(⟨#[47]⟩++y)) W hz);have hxy:(x++(⟨#[47]⟩++y)).data.toList=x.data.toList++(47::y.data.toList):=by rw[Ch.data_append,Ch.data_append];rfl
       rw[hxy,Lp] at sS;clear hxy hz;generalize Ch.lower x.data.toList++[47]++Ch.lower y.data.toList=lo at *;go_enter func247,ntmps247;go_wp2_with fail
       refine HT.o.mono ?_;rintro e w1 ⟨rfl,h1,t1⟩;have T1:=H9 t1;have R1:=H9 h1;clear t1 h1;go_wp2_with fail
       refine(wL s _ g 47 _ R1.out hs H47.o).mono ?_;rintro e w2 ⟨rfl,h2,t2⟩;have T2:=H9 (T1.out.trans t2 (fun _ h _=>h));have R2:=H9 h2;clear t2 h2 T1 R1;go_wp2_with fail
       refine(HK.o _ R2.out).mono ?_;rintro e w3 ⟨rfl,h3,t3⟩;have T3:=H9 (T2.out.trans t3 (fun _ h _=>h));have R3:=H9 h3;clear t3 h3 T2 R2;generalize hX:x++(⟨#[47]⟩++y)=xy at *;go_wp2_with fail
       refine(sS.o _).mono ?_;rintro e w4 ⟨rfl,b4⟩;have T4:=H9 (T3.out.trans (S':=only g) (Turns.of_below b4) (fun _ h _=>h));have R4:=H9 (R3.out.keep b4);clear b4;go_wp2;go_ret;rw[HR.o];exact⟨rfl,hw2,R4.out,T4.out⟩
   . have HR:Hid (Pm.AZ s.data.toList i=.inr (Ch.lower (s.extract i (i+Pm.word s.data.toList i)).data.toList,i+Pm.word s.data.toList i)):=by
      unfold Hid Pm.AZ;rw[if_neg h0,if_neg h47,hx]
     have HN:=H9 (fun W (hW:je W g s (i+Pm.word s.data.toList i))=>Jt s (i+Pm.word s.data.toList i) g 47 W hW h47);clear h0 h47 hx hl;generalize Pm.word s.data.toList i=n at *;generalize s.extract i (i+n)=x at *;have sS:=H9 (fun W=>oN x W (by unfold maxLen;omega));generalize Ch.lower x.data.toList=lo at *;go_enter func247,ntmps247;go_wp2_with fail
     refine HT.o.mono ?_;rintro e w1 ⟨rfl,h1,t1⟩;have T1:=H9 t1;have R1:=H9 h1;clear t1 h1;go_wp2_with fail
     refine(HN.o _ R1.out).mono ?_;rintro e w2 ⟨rfl,h2,t2⟩;have T2:=H9 (T1.out.trans t2 (fun _ h _=>h));have R2:=H9 h2;clear t2 h2 T1 R1;go_wp2_with fail
     refine(sS.o _).mono ?_;rintro e w4 ⟨rfl,b4⟩;have T4:=H9 (T2.out.trans (S':=only g) (Turns.of_below b4) (fun _ h _=>h));have R4:=H9 (R2.out.keep b4);clear b4;go_wp2;go_ret;rw[HR.o];exact⟨rfl,hw,R4.out,T4.out⟩
def Pm.N8 (l:av)(i:Nat):Nat ⊕ (Pm.tL×av) :=
 if Pm.word l i=0 then .inl 5
 else if l[i+Pm.word l i]? = some 61 then (match Pm.val (l.drop (i+Pm.word l i+1)) with
  | .inl c=>.inl c
  | .inr x=>.inr ((Ch.lower ((l.drop i).take (Pm.word l i)),x.1),x.2))
 else .inl 5
theorem Pm.aaK (l:av)(i:Nat):Pm.par (l.drop i)=if l[i]? = some 59 then Pm.N8 l (Pm.blanks l (i+1)) else .inl 5:=by
 rw[Pm.aby];rfl
def rX (m:Nat ⊕ (Pm.tL×av))(w:World)(g:Nat)(s:ay)(e:Ending)(w':World):Prop:=match m with
 | .inl c=>e=gave c∧Turns (only g) w w'
 | .inr x=>e=.returned (.agg #[.string ⟨x.1.1.toArray⟩,.string ⟨x.1.2.toArray⟩])∧(∃j,j<=s.size∧je w' g s j∧s.data.toList.drop j=x.2)∧Turns (only g) w w'
theorem rX.no {m:Nat ⊕ (Pm.tL×av)}{w w':World}{g:Nat}{s:ay}{c:Nat}(hm:m=.inl c)(ht:Turns (only g) w w'):rX m w g s (gave c) w':=by
 subst hm;exact⟨rfl,ht⟩
theorem rX.yes {m:Nat ⊕ (Pm.tL×av)}{w w':World}{g j:Nat}{s:ay}{n v r:av}(hm:m=.inr ((n,v),r))(hj:j<=s.size)(hr:je w' g s j)(hd:s.data.toList.drop j=r)(ht:Turns (only g) w w'):rX m w g s (.returned (.agg #[.string ⟨n.toArray⟩,.string ⟨v.toArray⟩])) w':=by
 subst hm;exact⟨rfl,⟨j,hj,hr,hd⟩,ht⟩
structure A8 (w:World)(g:Nat)(s:ay)(k:Nat)(W:World):Prop where
 res:W.heap[w.heap.size]? = some (.cells #[.string ⟨#[]⟩,.string ⟨#[]⟩] 202 (0,0))
 rd:je W g s k
 turns:Turns (only g) w W
 lt:g<w.heap.size
section
variable {w W w1:World} {g k k':Nat} {s:ay}
theorem A8.made (h:je w g s k):A8 w g s k (w.alloc (.cells #[.string ⟨#[]⟩,.string ⟨#[]⟩] 202)) :=
 ⟨fI w _,h.keep ((fJ _ _).alloc (aM _) _),Turns.of_below ((fJ _ _).alloc (aM _) _),h.lt⟩
theorem A8.feed (h:A8 w g s k W)(h1:je w1 g s k')(h2:Turns (only g) W w1):A8 w g s k' w1 :=
 ⟨h2.row h.res (fun e=>by have:=h.lt;unfold only at e;omega),h1,h.turns.trans h2 (fun _ h _=>h),h.lt⟩
theorem A8.keep (h:A8 w g s k W)(hb:aj W w1):A8 w g s k w1:=h.feed (h.rd.keep hb) (Turns.of_below hb)
theorem A8.cells (h:A8 w g s k W):W.cell? ⟨w.heap.size,0,none⟩=some (.string ⟨#[]⟩)∧W.cell? ⟨w.heap.size,1,none⟩=some (.string ⟨#[]⟩)∧W.frozen? ⟨w.heap.size,0,none⟩=false∧W.frozen? ⟨w.heap.size,1,none⟩=false :=
 ⟨fK W _ 0 _ _ _ h.res,fK W _ 1 _ _ _ h.res,fM W _ 0 _ _ h.res,fM W _ 1 _ _ h.res⟩
theorem A8.told (h:A8 w g s k W)(a b:Value):je ((W.setCell ⟨w.heap.size,0,none⟩ a).setCell ⟨w.heap.size,1,none⟩ b) g s k∧Turns (only g) w ((W.setCell ⟨w.heap.size,0,none⟩ a).setCell ⟨w.heap.size,1,none⟩ b):=by
 have hT:Turns (fun i=>i=w.heap.size) W ((W.setCell ⟨w.heap.size,0,none⟩ a).setCell ⟨w.heap.size,1,none⟩ b) :=
  Turns.trans (S:=fun i=>i=w.heap.size) (Turns.setCell (fun i=>i=w.heap.size) W ⟨w.heap.size,0,none⟩ a rfl) (Turns.setCell (fun i=>i=w.heap.size) _ _ _ rfl) (fun _ h _=>h)
 have:=h.lt;exact⟨h.rd.turns hT (by omega),h.turns.trans hT (fun i e hi=>by omega)⟩
end
theorem N9 (s:ay)(i g:Nat)(w:World)(h:je w g s i)(hs:s.size<=100000)(hi:i<=s.size):
 Calls prog 250 #[.pointer (some ⟨g,0,none⟩)] w fun e w'=>rX (Pm.N8 s.data.toList i) w g s e w':=by
 have hl:s.data.toList.length=s.size:=by rw[aO];rfl
 have hw:=Pm.zy s.data.toList i (by rw[hl];exact hi);rw[hl] at hw;have H0:=H9 (A8.made h);clear h;by_cases h0:Pm.word s.data.toList i=0
 . have HR:Hid (Pm.N8 s.data.toList i=.inl 5):=by unfold Hid Pm.N8;rw[if_pos h0]
   have HT:=H9 (zW s i g _ H0.o.rd (by omega) hi h0);clear h0 hw hl;go_enter func250,ntmps250;go_wp2_with fail
   refine HT.o.mono ?_;rintro e w2 ⟨he,t2⟩;unfold gave at he;subst he;have T2:=H9 (H0.o.turns.trans t2 (fun _ h _=>h));clear t2;go_wp2;exact⟨rfl,rX.no HR.o T2.out⟩
 . have HT:=H9 (xM s i g _ H0.o.rd (by omega) hi h0);have hx:=qL s i (Pm.word s.data.toList i);have hxz:(s.extract i (i+Pm.word s.data.toList i)).size<=s.size:=by simp;omega
   have hM:Pm.N8 s.data.toList i=if s.data.toList[i+Pm.word s.data.toList i]? = some 61 then (match Pm.val (s.data.toList.drop (i+Pm.word s.data.toList i+1)) with
    | .inl c=>.inl c
    | .inr x=>.inr ((Ch.lower (s.extract i (i+Pm.word s.data.toList i)).data.toList,x.1),x.2)) else .inl 5:=by
    unfold Pm.N8;rw[if_neg h0,hx]
   clear hx h0;generalize Pm.word s.data.toList i=n at *;generalize s.extract i (i+n)=x at *;have sS:=H9 (fun W=>oN x W (by unfold maxLen;omega));generalize Ch.lower x.data.toList=nm at *;by_cases h61:s.data.toList[i+n]? = some 61
   . rw[if_pos h61] at hM;have hlt:i+n<s.size:=by
      have:=(aQ.1 h61).1;rwa[hl] at this
     have H61:=H9 h61;rw[Pm.abx] at hM;have hw2:=Pm.zy s.data.toList (i+n+1) (by rw[hl];omega);rw[hl] at hw2;clear h61;by_cases FR:s.data.toList[i+n+1]? = some 34
     . rw[if_pos FR] at hM;have hlt2:i+n+1<s.size:=by
        have:=(aQ.1 FR).1;rwa[hl] at this
       have H34:=H9 FR;have HQ:=H9 (fun W (hW:je W g s (i+n+1+1))=>N7 s (i+n+1+1) g W hW (by omega) (by omega));clear FR hl;cases hq:Pm.quo [] (s.data.toList.drop (i+n+1+1)) with
       | none =>
         rw[hq] at HQ hM;have HR:=H9 hM;clear hM hq;go_enter func250,ntmps250;go_wp2_with fail
         refine HT.o.mono ?_;rintro e w1 ⟨rfl,h1,t1⟩;have P1:=H9 (H0.o.feed h1 t1);clear h1 t1 HT H0;go_wp2_with fail
         refine(sS.o _).mono ?_;rintro e w2 ⟨rfl,b2⟩;have P2:=H9 (P1.out.keep b2);clear b2 P1 sS;go_wp2_with fail
         refine(wM s _ g 61 _ P2.out.rd (by omega) H61.o).mono ?_;rintro e w3 ⟨rfl,h1,t1⟩;have P3:=H9 (P2.out.feed h1 t1);clear h1 t1 P2;go_wp2_with fail
         refine(wL s _ g 34 _ P3.out.rd (by omega) H34.o).mono ?_;rintro e w4 ⟨rfl,h1,t1⟩;have P4:=H9 (P3.out.feed h1 t1);clear h1 t1 P3;go_wp2_with fail
         refine(HQ.o _ P4.out.rd).mono ?_;rintro e w5 ⟨t5,he⟩;simp only[] at he;unfold gave at he;subst he;have T5:=H9 (P4.out.turns.trans t5 (fun _ h _=>h));clear t5;go_wp2;exact⟨rfl,rX.no HR.o T5.out⟩
       | some y =>
         obtain⟨v,r⟩:=y;rw[hq] at HQ hM;have HR:=H9 hM;clear hM hq;go_enter func250,ntmps250;go_wp2_with fail
         refine HT.o.mono ?_;rintro e w1 ⟨rfl,h1,t1⟩;have P1:=H9 (H0.o.feed h1 t1);clear h1 t1 HT H0;go_wp2_with fail
         refine(sS.o _).mono ?_;rintro e w2 ⟨rfl,b2⟩;have P2:=H9 (P1.out.keep b2);clear b2 P1 sS;go_wp2_with fail
         refine(wM s _ g 61 _ P2.out.rd (by omega) H61.o).mono ?_;rintro e w3 ⟨rfl,h1,t1⟩;have P3:=H9 (P2.out.feed h1 t1);clear h1 t1 P2;go_wp2_with fail
         refine(wL s _ g 34 _ P3.out.rd (by omega) H34.o).mono ?_;rintro e w4 ⟨rfl,h1,t1⟩;have P4:=H9 (P3.out.feed h1 t1);clear h1 t1 P3;go_wp2_with fail
         refine(HQ.o _ P4.out.rd).mono ?_;rintro e w5 ⟨t5,he⟩;simp only[] at he;obtain⟨rfl,j,hj,h5,hd⟩:=he;have P5:=H9 (P4.out.feed h5 t5);have HD:=H9 hd;clear t5 h5 hd P4;obtain⟨c0,c1,f0,f1⟩:=P5.out.cells;have HT2:=H9 (P5.out.told (.string ⟨nm.toArray⟩) (.string ⟨v.toArray⟩));go_wp2;refine gy (v:=.agg #[.string ⟨nm.toArray⟩,.string ⟨v.toArray⟩]) (by simp[results,results250,go_sem,c0,c1]) rfl ?_;exact rX.yes HR.o hj HT2.o.1 HD.o HT2.o.2
     . rw[if_neg FR] at hM;have H34:=H9 (fun W (hW:je W g s (i+n+1))=>Jt s (i+n+1) g 34 W hW FR);clear FR;by_cases h1:Pm.word s.data.toList (i+n+1)=0
       . rw[if_pos h1] at hM;have HK:=H9 (fun W (hW:je W g s (i+n+1))=>zW s (i+n+1) g W hW (by omega) (by omega) h1);have HR:=H9 hM;clear hM h1 hl;go_enter func250,ntmps250;go_wp2_with fail
         refine HT.o.mono ?_;rintro e w1 ⟨rfl,h1,t1⟩;have P1:=H9 (H0.o.feed h1 t1);clear h1 t1 HT H0;go_wp2_with fail
         refine(sS.o _).mono ?_;rintro e w2 ⟨rfl,b2⟩;have P2:=H9 (P1.out.keep b2);clear b2 P1 sS;go_wp2_with fail
         refine(wM s _ g 61 _ P2.out.rd (by omega) H61.o).mono ?_;rintro e w3 ⟨rfl,h1,t1⟩;have P3:=H9 (P2.out.feed h1 t1);clear h1 t1 P2;go_wp2_with fail
         refine(H34.o _ P3.out.rd).mono ?_;rintro e w4 ⟨rfl,h1,t1⟩;have P4:=H9 (P3.out.feed h1 t1);clear h1 t1 P3;go_wp2_with fail
         refine(HK.o _ P4.out.rd).mono ?_;rintro e w5 ⟨he,t5⟩;unfold gave at he;subst he;have T5:=H9 (P4.out.turns.trans t5 (fun _ h _=>h));clear t5;go_wp2;exact⟨rfl,rX.no HR.o T5.out⟩
       . have hy:=qL s (i+n+1) (Pm.word s.data.toList (i+n+1));have hyz:(s.extract (i+n+1) (i+n+1+Pm.word s.data.toList (i+n+1))).size<=s.size:=by simp;omega
         rw[if_neg h1,<-hy] at hM;have HK:=H9 (fun W (hW:je W g s (i+n+1))=>xM s (i+n+1) g W hW (by omega) (by omega) h1);have HR:=H9 hM;clear hM h1 hl hy;generalize Pm.word s.data.toList (i+n+1)=m at *;generalize s.extract (i+n+1) (i+n+1+m)=y at *;have Am:=H9 (fun W=>lM y W (by omega));have hye:(⟨y.data.toList.toArray⟩:ay)=y:=rfl;go_enter func250,ntmps250;go_wp2_with fail
         refine HT.o.mono ?_;rintro e w1 ⟨rfl,h1,t1⟩;have P1:=H9 (H0.o.feed h1 t1);clear h1 t1 HT H0;go_wp2_with fail
         refine(sS.o _).mono ?_;rintro e w2 ⟨rfl,b2⟩;have P2:=H9 (P1.out.keep b2);clear b2 P1 sS;go_wp2_with fail
         refine(wM s _ g 61 _ P2.out.rd (by omega) H61.o).mono ?_;rintro e w3 ⟨rfl,h1,t1⟩;have P3:=H9 (P2.out.feed h1 t1);clear h1 t1 P2;go_wp2_with fail
         refine(H34.o _ P3.out.rd).mono ?_;rintro e w4 ⟨rfl,h1,t1⟩;have P4:=H9 (P3.out.feed h1 t1);clear h1 t1 P3;go_wp2_with fail
         refine(HK.o _ P4.out.rd).mono ?_;rintro e w5 ⟨rfl,h1,t1⟩;have P5:=H9 (P4.out.feed h1 t1);clear h1 t1 P4;go_wp2_with fail
         refine(Am.o _).mono ?_;rintro e w6 ⟨rfl,b6⟩;have P6:=H9 (P5.out.keep b6);clear b6 P5;obtain⟨c0,c1,f0,f1⟩:=P6.out.cells;have HT2:=H9 (P6.out.told (.string ⟨nm.toArray⟩) (.string y));go_wp2;refine gy (v:=.agg #[.string ⟨nm.toArray⟩,.string y]) (by simp[results,results250,go_sem,c0,c1]) rfl ?_;exact rX.yes HR.o (j:=i+n+1+m) hw2 HT2.o.1 rfl HT2.o.2
   . rw[if_neg h61] at hM;have HR:=H9 hM;have HN:=H9 (fun W (hW:je W g s (i+n))=>QD s (i+n) g 61 W hW h61);clear hM h61 hl;go_enter func250,ntmps250;go_wp2_with fail
     refine HT.o.mono ?_;rintro e w1 ⟨rfl,h1,t1⟩;have P1:=H9 (H0.o.feed h1 t1);clear h1 t1 HT H0;go_wp2_with fail
     refine(sS.o _).mono ?_;rintro e w2 ⟨rfl,b2⟩;have P2:=H9 (P1.out.keep b2);clear b2 P1 sS;go_wp2_with fail
     refine(HN.o _ P2.out.rd).mono ?_;rintro e w3 ⟨he,t3⟩;unfold gave at he;subst he;have T3:=H9 (P2.out.turns.trans t3 (fun _ h _=>h));clear t3;go_wp2;exact⟨rfl,rX.no HR.o T3.out⟩
def QG (l:au)(nm:ay)(r:Int):Prop :=
 (r=-1∧∀p∈l,p.1.data.toList≠nm.data.toList)∨∃k,∃h:k<l.length,r=k∧l[k].1.data.toList=nm.data.toList∧∀p∈l.take k,p.1.data.toList≠nm.data.toList
theorem Ls (n v nm:ay)(b:Nat)(w:World)(hc:w.cell? ⟨b,0,none⟩=some (.string nm)):
 Calls prog 264 #[.agg #[.string n,.string v],.pointer (some ⟨b,0,none⟩)] w fun e w'=>e=.returned (.bool (decide (n.data.toList=nm.data.toList)))∧w'=w.alloc (.cells #[.string n,.string v] 202):=by
 have hst:=Sg n nm;have hb:b<w.heap.size:=gq w _ hc;have hc':(w.alloc (.cells #[.string n,.string v] 202)).cell? ⟨b,0,none⟩=some (.string nm):=by
  rw[((fJ w.heap.size w).alloc (aM _) _).cell (p:=⟨b,0,none⟩) hb];exact hc
 generalize decide (n.data.toList=nm.data.toList)=t at hst;go_enter func264,ntmps264;go_wp2;go_ret;exact⟨by rw[<-hst];rfl,rfl⟩
theorem F3 (l:au)(nm:ay)(ao:ak)(cap n b:Nat)(w:World)(hl:jo w ao cap n (gU l))(hn:l.length=n)(hN:n<=1000000)(hc:w.cell? ⟨b,0,none⟩=some (.string nm)):
 Calls prog 263 #[.slice ao n cap,.func (.func 264) #[] #[.pointer (some ⟨b,0,none⟩)]] w fun e w'=>∃r:Int,e=.returned (.int .i64 r)∧QG l nm r∧aj w w':=by
 subst hn;have H:=H9 hl;have HC:=H9 hc;have hcap:=hl.1;have hb:b<w.heap.size:=gq w _ hc;clear hl hc;go_enter func263,ntmps263;go_wp2;go_loopw [8] (fun t wr=>∃k:Nat,k<=l.length∧t=.int .i64 k∧aj w wr∧∀p∈l.take k,p.1.data.toList≠nm.data.toList) (fun t _=>l.length-(intOf t).toNat)
 case atStart=>exact⟨0,aA _,rfl,fJ _ _,fun p hp=>by simp at hp⟩
 case round =>
  obtain⟨k,hk,rfl,hB,hno⟩:=hrel;have HB:=H9 hB;have HN:=H9 hno;clear hB hno;by_cases hlt:k<l.length
  . obtain⟨bb,oo,rfl,hcs⟩:=(H.o.stay HB.o).lit (by rw[mW];omega);have hc0:=hcs _ _ (nY l k hlt).1;have hc1:wr.cell? ⟨bb,oo+k*2+1,none⟩=some (.string l[k].2):=by
     have:=hcs _ _ (nY l k hlt).2;rwa[<-bL] at this
    clear hcs;have hlt':(k:Int)<l.length:=by omega
    have HT:Hid (l.take (k+1)=l.take k++[l[k]]):=bO hlt;have HF:=H9 (Ls l[k].1 l[k].2 nm b wr (by rw[HB.o.cell (p:=⟨b,0,none⟩) hb];exact HC.o));have HB2:Hid (aj w (wr.alloc (.cells #[.string l[k].1,.string l[k].2] 202))):=HB.o.alloc HB.o.size _;by_cases he:l[k].1.data.toList=nm.data.toList
    . rw[aI he] at HF;have HR:Hid (QG l nm k):=Or.inr ⟨k,hlt,rfl,he,HN.o⟩;clear he HN HT;generalize l[k]=p at *;go_wp2_with fail
      refine HF.o.mono ?_;rintro e w1 ⟨rfl,hw⟩;have HB3:Hid (aj w w1):=by rw[hw];exact HB2.o
      clear hw HB2;go_wp2;go_ret;exact⟨k,rfl,HR.o,HB3.o⟩
    . rw[aJ he] at HF;have HE:=H9 he;clear he;generalize l[k]=p at *;go_wp2_with fail
      refine HF.o.mono ?_;rintro e w1 ⟨rfl,hw⟩;have HB3:Hid (aj w w1):=by rw[hw];exact HB2.o
      clear hw HB2;go_wp2;go_roundw
      case rel =>
       refine⟨k+1,by omega,by go_num,HB3.o,fun r hr=>?_⟩;rw[HT.o,bB] at hr;rcases hr with hr | hr
       . exact HN.o r hr
       . rw[bC] at hr;subst hr;exact HE.o
      case measure=>simp[intOf];omega
  . obtain rfl:k=l.length:=by omega
    have HR:Hid (QG l nm (-1)):=Or.inl ⟨rfl,fun p hp=>HN.o p (by rw[bP];exact hp)⟩;clear HN;go_wp2;go_ret;exact⟨-1,rfl,HR.o,HB.o⟩
theorem xO (l:au)(nm:ay)(ao:ak)(cap n:Nat)(w:World)(hl:jo w ao cap n (gU l))(hn:l.length=n)(hN:n<=1000000):
 Calls prog 229 #[.slice ao n cap,.string nm] w fun e w'=>∃r:Int,e=.returned (.int .i64 r)∧QG l nm r∧aj w w':=by
 have hB:aj w (w.alloc (.cells #[.string nm] 9)):=(fJ _ _).alloc (aM _) _;have HI:=H9 (F3 l nm ao cap n w.heap.size (w.alloc (.cells #[.string nm] 9)) (hl.stay hB) hn hN (World.cell?_alloc_mark w _ _ _ 0));have HB:=H9 hB;have UL:∀(fn:Fn) (first cap:Array Value) (w:World),(Instr.makeFunc fn first cap).run prog w=.ok (.func fn first cap) w:=fun _ _ _ _=>rfl;clear hl hB;go_enter func229,ntmps229;go_wp2_with fail
 refine HI.o.mono ?_;rintro e w1 ⟨r,rfl,hf,hb⟩;have HF:=H9 hf;have HB1:=H9 (then_ HB.o hb);clear hf hb;go_wp2;go_ret;exact⟨r,rfl,HF.o,HB1.o⟩
theorem Ww (l:au)(nm v:ay)(ao:ak)(cap n:Nat)(w:World)(hl:jo w ao cap n (gU l))(hn:l.length=n)(hN:n<8)(hno:∀p∈l,p.1.data.toList≠nm.data.toList):
 Calls prog 251 #[.agg #[.string nm,.string v],.slice ao n cap] w fun e w'=>e=.returned (.tuple #[])∧aj w w':=by
 have hB:aj w (w.alloc (.cells #[.string nm,.string v] 202)):=(fJ _ _).alloc (aM _) _;have HI:=H9 (xO l nm ao cap n (w.alloc (.cells #[.string nm,.string v] 202)) (hl.stay hB) hn (by omega));have HB:=H9 hB;have sH:=H9 hno;have t8:decide ((n:Int)≥8)=false:=by rw[bQ];omega
 clear hl hB hno;go_enter func251,ntmps251;go_wp2_with fail
 refine HI.o.mono ?_;rintro e w1 ⟨r,rfl,hf,hb⟩;have HB1:=H9 (then_ HB.o hb);obtain rfl:r=-1:=by
  rcases hf with ⟨e,_⟩ | ⟨k,h,_,e,_⟩
  . exact e
  . exact absurd e (sH.o _ (aC h))
 clear hf hb;go_wp2;go_end0
 exact⟨rfl,HB1.o⟩
theorem Oc (l:au)(nm v:ay)(ao:ak)(cap n:Nat)(w:World)(hl:jo w ao cap n (gU l))(hn:l.length=n)(hN:8<=n)(Zp:n<=1000000)(hno:∀p∈l,p.1.data.toList≠nm.data.toList):
 Calls prog 251 #[.agg #[.string nm,.string v],.slice ao n cap] w fun e w'=>e=gave 8∧aj w w':=by
 have hB:aj w (w.alloc (.cells #[.string nm,.string v] 202)):=(fJ _ _).alloc (aM _) _;have HI:=H9 (xO l nm ao cap n (w.alloc (.cells #[.string nm,.string v] 202)) (hl.stay hB) hn (by omega));have HB:=H9 hB;have sH:=H9 hno;have t8:decide ((n:Int)≥8)=true:=by rw[bR];omega
 clear hl hB hno;go_enter func251,ntmps251;go_wp2_with fail
 refine HI.o.mono ?_;rintro e w1 ⟨r,rfl,hf,hb⟩;have HB1:=H9 (then_ HB.o hb);obtain rfl:r=-1:=by
  rcases hf with ⟨e,_⟩ | ⟨k,h,_,e,_⟩
  . exact e
  . exact absurd e (sH.o _ (aC h))
 clear hf hb;go_wp2;exact⟨rfl,rfl,HB1.o⟩
theorem Lu (l:au)(nm v:ay)(ao:ak)(cap n:Nat)(w:World)(hl:jo w ao cap n (gU l))(hn:l.length=n)(hN:n<=8)(hy:∃p∈l,p.1.data.toList=nm.data.toList):
 Calls prog 251 #[.agg #[.string nm,.string v],.slice ao n cap] w fun e w'=>e=gave 9∧aj w w':=by
 have hB:aj w (w.alloc (.cells #[.string nm,.string v] 202)):=(fJ _ _).alloc (aM _) _;have HI:=H9 (xO l nm ao cap n (w.alloc (.cells #[.string nm,.string v] 202)) (hl.stay hB) hn (by omega));have HB:=H9 hB;have sH:=H9 hy;clear hl hB hy;go_enter func251,ntmps251;go_wp2_with fail
 refine HI.o.mono ?_;rintro e w1 ⟨r,rfl,hf,hb⟩;have HB1:=H9 (then_ HB.o hb);have h0:0<=r:=by
  rcases hf with ⟨_,hn⟩ | ⟨k,h,rfl,_,_⟩
  . obtain⟨p,hp,e⟩:=sH.o;exact absurd e (hn p hp)
  . omega
 have t0:decide (r≥0)=true:=by rw[bR];exact h0
 clear hf hb;go_wp2;exact⟨rfl,rfl,HB1.o⟩
theorem Pm.Si {r v r':av}(h:Pm.val r=.inr (v,r')):r'.length<=r.length:=by
 unfold Pm.val at h;split at h
 . split at h
   . cases h
   . rename_i x hq;injection h with h;subst h;have:=(Pm.GR _ _ _ _ _ (aM _) hq).1;rw[bS] at this;omega
 . split at h
   . cases h
   . injection h with h;injection h with _ h2;subst h2;exact(bT (l:=r) Pm.tok).length_le
theorem Pm.Sj {r r':av}{p:Pm.tL}(h:Pm.par r=.inr (p,r')):r'.length<r.length:=by
 unfold Pm.par at h;split at h
 . rename_i h59;simp only[] at h;split at h
   . cases h
   . split at h
     . split at h
       . cases h
       . rename_i x hv;injection h with h;injection h with _ e2;subst e2;have h1:=Pm.Si (v:=x.1) (r':=x.2) hv;rw[bS] at h1;have h2:=(bT (l:=r.tail.dropWhile Pm.blank) Pm.tok).length_le;have h3:=(bT (l:=r.tail) Pm.blank).length_le;rw[bS] at h3;cases r with
         | nil=>simp at h59
         | cons a t =>
           rw[aX] at *;omega
     . cases h
 . cases h
def Pm.Ey (l:av)(i:Nat):Nat ⊕ (av×List Pm.tL):=match Pm.AZ l (Pm.blanks l i) with
 | .inl c=>.inl c
 | .inr x=>Pm.fin (l.length+1) x.1 (l.drop x.2) []
theorem Pm.Zq (l:av)(hv:Ch.iy l=true):Pm.ku l=Pm.Ey l 0:=by
 rw[Pm.Vk l hv _ _ rfl rfl];unfold Pm.Ey Pm.AZ;by_cases h0:Pm.word l (Pm.blanks l 0)=0
 . rw[if_pos h0,if_pos h0]
 . rw[if_neg h0,if_neg h0];by_cases h47:l[Pm.blanks l 0+Pm.word l (Pm.blanks l 0)]? = some 47
   . rw[if_pos h47,if_pos h47];by_cases h1:Pm.word l (Pm.blanks l 0+Pm.word l (Pm.blanks l 0)+1)=0
     . rw[if_pos h1,if_pos h1]
     . rw[if_neg h1,if_neg h1]
   . rw[if_neg h47,if_neg h47]
def BS (m:Nat ⊕ (av×List Pm.tL))(w:World)(g:Nat)(e:Ending)(w':World):Prop:=match m with
 | .inl c=>e=gave c∧Turns (only g) w w'
 | .inr x=>∃word ps ao cap,e=.returned (.agg #[.string word,.slice ao ps.length cap])∧word.data.toList=x.1∧mq ps=x.2∧gV w' w.heap.size 202 2 ao cap ps.length (gU ps)∧Turns (only g) w w'
theorem BS.no {m:Nat ⊕ (av×List Pm.tL)}{w w':World}{g c:Nat}(hm:m=.inl c)(ht:Turns (only g) w w'):BS m w g (gave c) w':=by
 subst hm;exact⟨rfl,ht⟩
structure rY (w:World)(g mb:Nat)(s:ay)(k:Nat)(word:ay)(ps:au)(ao:ak)(cap:Nat)(wr:World):Prop where
 res:wr.heap[w.heap.size]? = some (.cells #[.string ⟨#[]⟩,.slice none 0 0] 172 (0,0))
 med:wr.heap[mb]? = some (.cells #[.string word,.slice ao ps.length cap] 172 (0,0))
 own:gV wr w.heap.size 202 2 ao cap ps.length (gU ps)
 rd:je wr g s k
 turns:Turns (only g) w wr
 lt:g<w.heap.size
 mb_:w.heap.size<mb
section
variable {w wr w1 w3:World} {g mb k k':Nat} {s word:ay} {ps ps':au} {ao gW:ak} {cap cap':Nat}
theorem rY.apart (h:rY w g mb s k word ps ao cap wr)(a:Addr)(e:ao=some a):a.block≠w.heap.size∧a.block≠mb:=by
 have h1:=lG h.res h.own (by decide);have h2:=lG h.med h.own (by decide);rw[gP,e] at h1 h2;exact⟨fun e=>h1 (by simp[gL,e]),fun e=>h2 (by simp[gL,e])⟩
theorem rY.feed (h:rY w g mb s k word ps ao cap wr)(h1:je w1 g s k')(h2:Turns (only g) wr w1):rY w g mb s k' word ps ao cap w1:=by
 have hl:=h.lt;have hm:=h.mb_;exact⟨h2.row h.res (fun e=>by unfold only at e;omega),h2.row h.med (fun e=>by unfold only at e;omega),h.own.turns h2 (fun a e e2=>by have:=(h.own.block a e).1;unfold only at e2;omega),h1,h.turns.trans h2 (fun _ h _=>h),hl,hm⟩
theorem rY.keep (h:rY w g mb s k word ps ao cap wr)(hb:aj wr w1):rY w g mb s k word ps ao cap w1:=h.feed (h.rd.keep hb) (Turns.of_below hb)
theorem rY.cells (h:rY w g mb s k word ps ao cap wr):wr.cell? ⟨w.heap.size,0,none⟩=some (.string ⟨#[]⟩)∧wr.cell? ⟨w.heap.size,1,none⟩=some (.slice none 0 0)∧wr.frozen? ⟨w.heap.size,0,none⟩=false∧wr.frozen? ⟨w.heap.size,1,none⟩=false ∧
 wr.cell? ⟨mb,0,none⟩=some (.string word)∧wr.cell? ⟨mb,1,none⟩=some (.slice ao ps.length cap)∧wr.frozen? ⟨mb,0,none⟩=false∧wr.frozen? ⟨mb,1,none⟩=false :=
 ⟨fK wr _ 0 _ _ _ h.res,fK wr _ 1 _ _ _ h.res,fM wr _ 0 _ _ h.res,fM wr _ 1 _ _ h.res,fK wr _ 0 _ _ _ h.med,fK wr _ 1 _ _ _ h.med,fM wr _ 0 _ _ h.med,fM wr _ 1 _ _ h.med⟩
theorem rY.grows (h:rY w g mb s k word ps ao cap wr)(ob:Obj)(hG:(wr.alloc ob).grownBy w3 (gL ao)):Turns (fun i=>w.heap.size<=i∧i≠w.heap.size∧i≠mb) wr w3 :=
 (Turns.iZ (gB wr ob none) (fun k e => by cases e)).trans (Turns.iZ (S := fun i => w.heap.size <= i ∧ i ≠ w.heap.size ∧ i ≠ mb) hG (fun i e => by
  cases ao with
  | none=>simp[gL] at e
  | some a=>simp only[gL,bU] at e;subst e;exact⟨(h.own.block a rfl).1,(h.apart a rfl).1,(h.apart a rfl).2⟩)) (fun _ h _=>h)
theorem rY.uG (h:rY w g mb s k word ps ao cap wr)(ho:gV w3 w.heap.size 202 2 gW cap' ps'.length (gU ps'))(ht:Turns (fun i=>w.heap.size<=i∧i≠w.heap.size∧i≠mb) wr w3)(n:Nat)(hn:n=ps'.length):rY w g mb s k word ps' gW cap' (w3.setCell ⟨mb,1,none⟩ (.slice gW n cap')):=by
 subst hn;have hl:=h.lt;have hm:=h.mb_;have hr:=ht.row h.res (fun e=>e.2.1 rfl);have hd:=ht.row h.med (fun e=>e.2.2 rfl);have hg:=h.rd.turns ht (fun e=>by omega);have hne:∀a,gW=some a->a.block≠mb:=fun a e=>by
  have h2:=lG hd ho (by decide);rw[gP,e] at h2;exact fun e=>h2 (by simp[gL,e])
 have hS:=Turns.setCell (fun i=>i=mb) w3 ⟨mb,1,none⟩ (.slice gW ps'.length cap') rfl;refine⟨hS.row hr (by omega),?_,ho.turns hS (fun a e e2=>hne a e e2),hg.turns hS (by omega),(h.turns.trans ht (fun i e hi=>by omega)).trans hS (fun i e hi=>by omega),hl,hm⟩;rw[fO w3 mb 1 _ _ _ hd];rfl
theorem rY.start (hr:wr.heap[w.heap.size]? = some (.cells #[.string ⟨#[]⟩,.slice none 0 0] 172 (0,0)))(h:je wr g s k)(ht:Turns (only g) w wr)(hl:g<w.heap.size)(x:ay):rY w g wr.heap.size s k x [] none 0 (wr.alloc (.cells #[.string x,.slice none 0 0] 172)):=by
 have hb:aj wr (wr.alloc (.cells #[.string x,.slice none 0 0] 172)):=(fJ _ _).alloc (aM _) _;have hz:=(aL.1 hr).1;exact⟨(hb.block _ hz).trans hr,fI wr _,gV.nil _ _ _ _,h.keep hb,ht.trans (S':=only g) (Turns.of_below hb) (fun _ h _=>h),hl,hz⟩
theorem rY.told (h:rY w g mb s k word ps ao cap wr)(a b:Value):gV ((wr.setCell ⟨w.heap.size,0,none⟩ a).setCell ⟨w.heap.size,1,none⟩ b) w.heap.size 202 2 ao cap ps.length (gU ps)∧Turns (only g) w ((wr.setCell ⟨w.heap.size,0,none⟩ a).setCell ⟨w.heap.size,1,none⟩ b):=by
 have hT:Turns (fun i=>i=w.heap.size) wr ((wr.setCell ⟨w.heap.size,0,none⟩ a).setCell ⟨w.heap.size,1,none⟩ b) :=
  Turns.trans (S:=fun i=>i=w.heap.size) (Turns.setCell (fun i=>i=w.heap.size) wr ⟨w.heap.size,0,none⟩ a rfl) (Turns.setCell (fun i=>i=w.heap.size) _ _ _ rfl) (fun _ h _=>h)
 exact⟨h.own.turns hT (fun a e e2=>(h.apart a e).1 e2),h.turns.trans hT (fun i e hi=>by omega)⟩
end
theorem Sm {ps:au}{nm:av}(h:((mq ps).any fun q=>q.1==nm)=true):∃p∈ps,p.1.data.toList=nm:=by
 rw[List.any_eq_true] at h;obtain⟨q,hq,e⟩:=h;obtain⟨p,hp,rfl⟩:=aN.1 hq;exact⟨p,hp,by simpa using e⟩
theorem Od {ps:au}{nm:av}(h:¬((mq ps).any fun q=>q.1==nm)=true):∀p∈ps,p.1.data.toList≠nm:=by
 intro p hp e;exact h (List.any_eq_true.2 ⟨_,aN.2 ⟨p,hp,rfl⟩,by simp[e]⟩)
theorem Ez (s:ay)(g:Nat)(w:World)(h:je w g s 0)(hs:s.size<=100000):
 Calls prog 213 #[.pointer (some ⟨g,0,none⟩)] w fun e w'=>BS (Pm.Ey s.data.toList 0) w g e w':=by
 have hl:s.data.toList.length=s.size:=by rw[aO];rfl
 have HL:=H9 hl;have hlt:=h.lt;have hb0:=Pm.xB s.data.toList 0 (aA _);rw[hl] at hb0;have hB:aj w (w.alloc (.cells #[.string ⟨#[]⟩,.slice none 0 0] 172)):=(fJ _ _).alloc (aM _) _;have R0:Hid ((w.alloc (.cells #[.string ⟨#[]⟩,.slice none 0 0] 172)).heap[w.heap.size]? = some (.cells #[.string ⟨#[]⟩,.slice none 0 0] 172 (0,0))):=fI w _;have HB:=H9 (sQ s 0 g _ (h.keep hB) (by omega) (aA _));have T0:=H9 (Turns.of_below (S:=only g) hB);have HW:=H9 (fun W (hW:je W g s (Pm.blanks s.data.toList 0))=>Sd s (Pm.blanks s.data.toList 0) g W hW (by omega) hb0);have hM:Pm.Ey s.data.toList 0=match Pm.AZ s.data.toList (Pm.blanks s.data.toList 0) with
  | .inl c=>.inl c
  | .inr x=>Pm.fin (s.data.toList.length+1) x.1 (s.data.toList.drop x.2) []:=rfl
 clear hB h hl;cases hm:Pm.AZ s.data.toList (Pm.blanks s.data.toList 0) with
 | inl c =>
   rw[hm] at HW hM;have HM:=H9 hM;clear hM hm;go_enter func213,ntmps213;go_wp2_with fail
   refine HB.o.mono ?_;rintro e w1 ⟨rfl,h1,t1⟩;have T1:=H9 (T0.out.trans t1 (fun _ h _=>h));have R1:=H9 h1;clear t1 h1 T0;go_wp2_with fail
   refine(HW.o _ R1.out).mono ?_;rintro e w2 ⟨he,t2⟩;unfold gave at he;subst he;have T2:=H9 (T1.out.trans t2 (fun _ h _=>h));clear t2;go_wp2;exact⟨rfl,BS.no HM.o T2.out⟩
 | inr x =>
   obtain⟨wo,i1⟩:=x;rw[hm] at HW hM;simp only[] at hM;have HM:=H9 hM;clear hM hm;go_enter func213,ntmps213;go_wp2_with fail
   refine HB.o.mono ?_;rintro e w1 ⟨rfl,h1,t1⟩;have T1:=H9 (T0.out.trans t1 (fun _ h _=>h));have R1:=H9 h1;have S1:=H9 (t1.row R0.out (fun e=>by unfold only at e;omega));clear t1 h1 T0 HB R0;go_wp2_with fail
   refine(HW.o _ R1.out).mono ?_;rintro e w2 ⟨rfl,hi1,h2,t2⟩;simp only[] at hi1 h2;have T2:=H9 (T1.out.trans t2 (fun _ h _=>h));have S2:=H9 (t2.row S1.out (fun e=>by unfold only at e;omega));have HA2:=H9 (rY.start S2.out h2 T2.out hlt ⟨wo.toArray⟩);clear t2 h2 T1 S1 S2 T2 HW R1;have hwo:(⟨wo.toArray⟩:ay).data.toList=wo:=rfl;have HWo:=H9 hwo;clear hwo;generalize (⟨wo.toArray⟩:ay)=wb at *;go_wp2_with fail
   refine(sQ s i1 g _ HA2.o.rd (by omega) hi1).mono ?_;rintro e w3 ⟨rfl,h3,t3⟩;have Jh:=H9 (HA2.o.feed h3 t3);clear h3 t3 HA2;go_wp2;go_loopw [] (fun wr=>∃(i f:Nat) (ps:au) (ao:ak) (cap:Nat),i<=s.size∧rY w g w2.heap.size s (Pm.blanks s.data.toList i) wb ps ao cap wr∧s.size<f+i∧ps.length<=8∧Pm.Ey s.data.toList 0=Pm.fin f wo (s.data.toList.drop i) (mq ps)) (fun wr=>s.size-yj wr g)
   case atStart=>exact⟨i1,s.size+1,[],none,0,hi1,Jh.o,by omega,by simp,by have:=HM.o;rw[HL.o] at this;exact this⟩
   case round =>
    clear Jh HM hi1;obtain⟨i,f,ps,ao,cap,hi,hA,hf,h8,hM⟩:=hrel;obtain⟨f',rfl⟩:∃f',f=f'+1:=⟨f-1,by omega⟩;rw[Pm.fin_at s.data.toList f' i _ _ (by rw[HL.o];exact hi),HL.o] at hM;have hb1:=Pm.xB s.data.toList i (by rw[HL.o];exact hi);have hb2:=Pm.GU s.data.toList i;rw[HL.o] at hb1;generalize Pm.blanks s.data.toList i=b at *;have HA:=H9 hA;have HAt:=H9 hA.rd.yj;have HM:=H9 hM;have HMo:=H9 (rW s b g wr hA.rd);clear hM hA;by_cases hend:b=s.size
    . subst hend;have t1:decide (s.size<s.size)=false:=by rw[bQ];omega
      rw[t1] at HMo;have HR:Hid (Pm.Ey s.data.toList 0=.inr (wo,mq ps)):=by have:=HM.o;rw[if_pos rfl] at this;exact this
      clear HM t1;go_wp2_with fail
      refine HMo.o.mono ?_;rintro e w4 ⟨rfl,q,hw⟩;have HA4:Hid (rY w g w2.heap.size s s.size wb ps ao cap w4):=by rw[hw];exact HA.o.keep (iU ⟨q,rfl⟩)
      clear hw HA HMo;obtain⟨c0,c1,f0,f1,d0,d1,g0,g1⟩:=HA4.o.cells;have HT:=H9 (HA4.o.told (.string wb) (.slice ao ps.length cap));go_wp2;refine gy (v:=.agg #[.string wb,.slice ao ps.length cap]) (by simp[results,results213,go_sem,c0,c1]) rfl ?_;rw[HR.o];exact⟨wb,ps,ao,cap,rfl,HWo.o,rfl,HT.o.1,HT.o.2⟩
    . have hlt1:b<s.size:=by omega
      have t1:decide (b<s.size)=true:=by rw[bR];omega
      rw[t1] at HMo;have hM:=HM.o;rw[if_neg hend] at hM;clear HM t1 hend;go_wp2_with fail
      refine HMo.o.mono ?_;rintro e w4 ⟨rfl,q,hw⟩;have HA4:Hid (rY w g w2.heap.size s b wb ps ao cap w4):=by rw[hw];exact HA.o.keep (iU ⟨q,rfl⟩)
      clear hw HA HMo;by_cases h59:s.data.toList[b]? = some 59
      . have hp0:=Pm.aaK s.data.toList b;rw[if_pos h59] at hp0;have hsh:=fun p r'=>Pm.Sj (r:=s.data.toList.drop b) (r':=r') (p:=p);rw[hp0] at hM hsh;have H59:=H9 h59;have HSh:=H9 hsh;have hb3:=Pm.xB s.data.toList (b+1) (by rw[HL.o];omega);rw[HL.o] at hb3;clear hp0 h59 hsh;go_wp2_with fail
        refine(wM s b g 59 _ HA4.o.rd (by omega) H59.o).mono ?_;rintro e w5 ⟨rfl,h5,t5⟩;have HA5:=H9 (HA4.o.feed h5 t5);clear h5 t5 HA4;go_wp2_with fail
        refine(sQ s (b+1) g _ HA5.o.rd (by omega) (by omega)).mono ?_;rintro e w6 ⟨rfl,h6,t6⟩;have HA6:=H9 (HA5.o.feed h6 t6);clear h6 t6 HA5;generalize Pm.blanks s.data.toList (b+1)=i2 at *;have HP:=H9 (N9 s i2 g w6 HA6.o.rd hs hb3);cases hp:Pm.N8 s.data.toList i2 with
        | inl c =>
          rw[hp] at hM HP;have HR:=H9 hM;clear hM hp HSh;go_wp2_with fail
          refine HP.o.mono ?_;rintro e w7 ⟨he,t7⟩;unfold gave at he;subst he;have T7:=H9 (HA6.o.turns.trans t7 (fun _ h _=>h));clear t7;go_wp2;exact⟨rfl,BS.no HR.o T7.out⟩
        | inr y =>
          obtain⟨⟨n,v⟩,r⟩:=y;rw[hp] at hM HP;simp only[] at hM;have hsh:=HSh.o _ _ hp;rw[bV,HL.o] at hsh;clear hp HSh;go_wp2_with fail
          refine HP.o.mono ?_;rintro e w7 ⟨rfl,⟨j,hj,h7,hd⟩,t7⟩;simp only[] at hd;subst hd;rw[bV,HL.o] at hsh;have hjb:b<j:=by omega
          have HA7:=H9 (HA6.o.feed h7 t7);clear t7 h7 hsh HA6 HP;have hnb:(⟨n.toArray⟩:ay).data.toList=n:=rfl;have hvb:(⟨v.toArray⟩:ay).data.toList=v:=rfl;generalize (⟨n.toArray⟩:ay)=nb at *;generalize (⟨v.toArray⟩:ay)=vb at *;subst hnb;subst hvb;have hBp:aj w7 (w7.alloc (.cells #[.string nb,.string vb] 202)):=(fJ _ _).alloc (aM _) _;have HA8:=H9 (HA7.o.keep hBp);have HPb:Hid ((w7.alloc (.cells #[.string nb,.string vb] 202)).heap[w7.heap.size]? = some (.cells #[.string nb,.string vb] 202 (0,0))):=fI w7 _;clear hBp HA7;obtain⟨c0,c1,f0,f1,d0,d1,g0,g1⟩:=HA8.o.cells;by_cases h9:((mq ps).any fun q=>q.1==nb.data.toList)=true
          . rw[if_pos h9] at hM;have HR:=H9 hM;have HY:=H9 (Sm h9);clear h9 hM;go_wp2_with fail
            refine(Lu ps nb vb ao cap ps.length _ HA8.o.own.nQ rfl h8 HY.o).mono ?_;rintro e w9 ⟨he,b9⟩;unfold gave at he;subst he;have T9:=H9 (HA8.o.keep b9).turns;clear b9;go_wp2;exact⟨rfl,BS.no HR.o T9.out⟩
          . rw[if_neg h9] at hM;have sH:=H9 (Od h9);clear h9;by_cases h8e:(mq ps).length=8
            . rw[if_pos h8e] at hM;have HR:=H9 hM;rw[sU] at h8e;have H8:=H9 h8e;clear hM h8e;go_wp2_with fail
              refine(Oc ps nb vb ao cap ps.length _ HA8.o.own.nQ rfl (by have:=H8.o;omega) (by omega) sH.o).mono ?_;rintro e w9 ⟨he,b9⟩;unfold gave at he;subst he;have T9:=H9 (HA8.o.keep b9).turns;clear b9;go_wp2;exact⟨rfl,BS.no HR.o T9.out⟩
            . rw[if_neg h8e] at hM;have HR:=H9 hM;rw[sU] at h8e;clear hM;go_wp2_with fail
              refine(Ww ps nb vb ao cap ps.length _ HA8.o.own.nQ rfl (by omega) sH.o).mono ?_;rintro e w9 ⟨rfl,b9⟩;have HA9:=H9 (HA8.o.keep b9);have aeh:=H9 ((b9.block _ (aL.1 HPb.o).1).trans HPb.o);clear b9 HA8 HPb c0 c1 f0 f1 d0 d1 g0 g1 sH;obtain⟨c0,c1,f0,f1,d0,d1,g0,g1⟩:=HA9.o.cells;have p0:w9.cell? ⟨w7.heap.size,0,none⟩=some (.string nb):=fK w9 _ 0 _ _ _ aeh.o;have p1:w9.cell? ⟨w7.heap.size,1,none⟩=some (.string vb):=fK w9 _ 1 _ _ _ aeh.o;obtain⟨t0,hi0,hz0,hz1,hz2⟩:=info_parts Oa;have Hi:=H9 hi0;have kK:=H9 hz0;have kH:=H9 hz1;have kL:=H9 hz2
              clear hi0 hz0 hz1 hz2;go_wp2_with (at_builtin;refine gT rfl (.tmp 27) (.tmp 29) 170 rfl w.heap.size 202 t0 (.agg #[.string ⟨#[]⟩,.string ⟨#[]⟩]) 2 32 underlying170 Hi.o kK.o kH.o kL.o rfl (by decide) rfl (HA9.o.own.alloc _) rfl (jo.made _ _ 1 _ _) rfl (fun u hu=>by simp at hu;rcases hu with rfl | rfl <;> rfl) (by omega) (by omega) (by have:=HA9.o.turns.size;simp;omega) ?_;intro CF cap5 Zr EA Lv _;have A9:=HA9.o.grows _ Lv;have hm5:=A9.row HA9.o.med (fun e=>e.2.2 rfl);have m1:Zr.cell? ⟨w2.heap.size,1,none⟩=some (.slice ao ps.length cap):=fK Zr _ 1 _ _ _ hm5;have mf:Zr.frozen? ⟨w2.heap.size,1,none⟩=false:=fM Zr _ 1 _ _ hm5;have tH:=H9 EA;have qY:=H9 A9;clear EA Lv A9 hm5)
              have hO:=tH.o;rw[show gU ps++(#[Value.string nb,Value.string vb]).toList=gU (ps++[(nb,vb)]) by rw[qB];rfl] at hO;have abQ:=H9 (HA9.o.uG (ps':=ps++[(nb,vb)]) (by rw[aW];exact hO) qY.o (ps.length+1) (by rw[aW];rfl));clear hO tH qY HA9;refine(sQ s j g _ abQ.o.rd (by omega) hj).mono ?_;rintro e w11 ⟨rfl,h11,t11⟩;have aei:=H9 (abQ.o.feed h11 t11);have hge:=Pm.GU s.data.toList j;clear h11 t11 abQ;go_wp2;go_roundw
              case rel=>exact⟨j,f',ps++[(nb,vb)],CF,cap5,hj,aei.o,by omega,by rw[aW];simp;omega,by rw[HR.o,Lr];rfl⟩
              case measure=>rw[aei.o.rd.yj,HAt.o];omega
      . have hp0:=Pm.aaK s.data.toList b;rw[if_neg h59] at hp0;rw[hp0] at hM;have HR:=H9 hM;have HN:=H9 (QD s b g 59 _ HA4.o.rd h59);clear hM hp0 h59;go_wp2_with fail
        refine HN.o.mono ?_;rintro e w5 ⟨he,t5⟩;unfold gave at he;subst he;have T5:=H9 (HA4.o.turns.trans t5 (fun _ h _=>h));clear t5;go_wp2;exact⟨rfl,BS.no HR.o T5.out⟩
theorem CG (p:Addr)(x c:Int)(older:List PanicEntry)(w:World)(hc:w.cell? p=some (.int .i64 x))(hz:w.frozen? p=false):
 CallsD prog 245 #[.pointer (some p)] (.panicking ({ v:=.iface 282 (.int .i64 c),recovered:=false }::older)) w fun e u' w' =>
  e=.returned (.tuple #[])∧u'=.panicking ({ v:=.iface 282 (.int .i64 c),recovered:=true }::older)∧w'=w.setCell p (.int .i64 c):=by
 refine callsD_of_wpS func245 rfl fun c₀ cs hu=>?_;apply wpS_seq;apply wpS_region;simp[wpOpsS,go_sem,recoverD,hu,ntmps245,Exit.thenS];change Code.wpS _ _ _ { tmps:=#[.pointer (some p),.iface 282 (.int .i64 c),.iface 282 (.int .i64 c),undef,undef,undef,undef],defers:=[] } _ _;refine wpS_of_wp ?_;have hta:∀w:World,(Instr.typeAssert (.iface 282 (.int .i64 c)) 20 282 false).run prog w=.ok (.int .i64 c) w:=fun _=>by kernel_rfl
 go_wp2;simp[bodyPostS,results,results245]
theorem Oe (p:Addr)(w:World):
 CallsD prog 245 #[.pointer (some p)] .returning w fun e u' w'=>e=.returned (.tuple #[])∧u'=.returning∧w'=w:=by
 refine callsD_of_wpS func245 rfl fun c₀ cs hu=>?_;apply wpS_seq;apply wpS_region;simp[wpOpsS,go_sem,recoverD,hu,ntmps245,Exit.thenS];change Code.wpS _ _ _ { tmps:=#[.pointer (some p),.nilIface,.nilIface,undef,undef,undef,undef],defers:=[] } _ _;refine wpS_of_wp ?_;go_wp2;cases c₀;simp_all [bodyPostS,results,results245]
def both (g rb:Nat):Nat->Prop:=fun k=>k=g∨k=rb
def abR (x:av×List Pm.tL)(base rb:Nat)(w':World):Prop :=
 ∃word ps ao cap,w'.heap[rb]? = some (.cells #[.string word,.slice ao ps.length cap] 172 (0,0))∧word.data.toList=x.1∧mq ps=x.2∧gV w' base 202 2 ao cap ps.length (gU ps)
theorem Sn (s:ay)(g rb:Nat)(w:World)(h:je w g s 0)(hs:s.size<=100000)(c:Nat)(hm:Pm.Ey s.data.toList 0=.inl c):
 Calls prog 212 #[.pointer (some ⟨g,0,none⟩),.pointer (some ⟨rb,0,none⟩)] w fun e w'=>e=gave c∧Turns (only g) w w':=by
 have HM:=H9 (Ez s g w h hs);rw[hm] at HM;clear hm;go_enter func212,ntmps212;go_wp2_with fail
 refine HM.o.mono ?_;rintro e w1 ⟨he,t1⟩;unfold gave at he;subst he;go_wp2;exact⟨rfl,rfl,t1⟩
theorem Og (s:ay)(g rb:Nat)(w:World)(h:je w g s 0)(hr:w.heap[rb]? = some (.cells #[.string ⟨#[]⟩,.slice none 0 0] 172 (0,0)))(hs:s.size<=100000)(x:av×List Pm.tL)(hm:Pm.Ey s.data.toList 0=.inr x):
 Calls prog 212 #[.pointer (some ⟨g,0,none⟩),.pointer (some ⟨rb,0,none⟩)] w fun e w'=>e=.returned (.tuple #[])∧abR x w.heap.size rb w'∧Turns (both g rb) w w':=by
 have HM:=H9 (Ez s g w h hs);rw[hm] at HM;have hne:rb≠g:=by
  rintro rfl;unfold je at h;rw[hr] at h;injection h with h;injection h with _ h _;exact absurd h (by decide)
 have HR:=H9 hr;have aej:rb<w.heap.size:=(aL.1 hr).1;clear hm h hr;go_enter func212,ntmps212;go_wp2_with fail
 refine HM.o.mono ?_;rintro e w1 ⟨wo,ps,ao,cap,rfl,hwo,hps,ho,t1⟩;have HR1:=H9 (t1.row HR.o (fun e=>hne e));have c0:w1.cell? ⟨rb,0,none⟩=some (.string ⟨#[]⟩):=fK w1 _ 0 _ _ _ HR1.o;have c1:w1.cell? ⟨rb,1,none⟩=some (.slice none 0 0):=fK w1 _ 1 _ _ _ HR1.o;have f0:w1.frozen? ⟨rb,0,none⟩=false:=fM w1 _ 0 _ _ HR1.o;have f1:w1.frozen? ⟨rb,1,none⟩=false:=fM w1 _ 1 _ _ HR1.o;have HT:Hid (Turns (fun i=>i=rb) w1 ((w1.setCell ⟨rb,0,none⟩ (.string wo)).setCell ⟨rb,1,none⟩ (.slice ao ps.length cap))) :=
  Turns.trans (S:=fun i=>i=rb) (Turns.setCell (fun i=>i=rb) w1 ⟨rb,0,none⟩ (.string wo) rfl) (Turns.setCell (fun i=>i=rb) _ _ _ rfl) (fun _ h _=>h)
 have HD:Hid (((w1.setCell ⟨rb,0,none⟩ (.string wo)).setCell ⟨rb,1,none⟩ (.slice ao ps.length cap)).heap[rb]? = some (.cells #[.string wo,.slice ao ps.length cap] 172 (0,0))):=by
  have h1:=fO w1 rb 0 _ _ (.string wo) HR1.o;have h2:=fO _ rb 1 _ _ (.slice ao ps.length cap) h1;unfold Hid;rw[h2];rfl
 have HO:=H9 (ho.turns HT.o (fun a e e2=>by have:=(ho.block a e).1;omega));have T2:Hid (Turns (both g rb) w ((w1.setCell ⟨rb,0,none⟩ (.string wo)).setCell ⟨rb,1,none⟩ (.slice ao ps.length cap))):=(t1.mono (S':=both g rb) (fun k e=>Or.inl e)).trans HT.o (fun i e _=>Or.inr e);have HE:Hid (wo.data.toList=x.1∧mq ps=x.2):=⟨hwo,hps⟩;clear hwo hps ho t1 HR1 HT;go_wp2;go_end0
 exact⟨rfl,⟨wo,ps,ao,cap,HD.o,HE.o.1,HE.o.2,HO.o⟩,T2.out⟩
theorem Sq (s:ay)(g rb:Nat)(w:World)(h:je w g s 0)(hs:s.size<=100000)(c:Nat)(hm:Pm.Ey s.data.toList 0=.inl c):
 Calls prog 211 #[.func (.func 212) #[] #[.pointer (some ⟨g,0,none⟩),.pointer (some ⟨rb,0,none⟩)]] w fun e w'=>e=.returned (.int .i64 (c:Int))∧Turns (only g) w w':=by
 have UL:∀(fn:Fn) (first cap:Array Value) (w:World),(Instr.makeFunc fn first cap).run prog w=.ok (.func fn first cap) w:=fun _ _ _ _=>rfl;have hlt:=h.lt;have hB:aj w (w.alloc (.cells #[.int .i64 0] 3)):=(fJ _ _).alloc (aM _) _;have R0:Hid ((w.alloc (.cells #[.int .i64 0] 3)).heap[w.heap.size]? = some (.cells #[.int .i64 0] 3 (0,0))):=fI w _;have HM:=H9 (Sn s g rb _ (h.keep hB) hs c hm);have T0:=H9 (Turns.of_below (S:=only g) hB);clear hm h hB;go_enter_defers func211,ntmps211
 go_wp2_with fail
 refine HM.o.mono ?_;rintro e w1 ⟨he,t1⟩;unfold gave at he;subst he;have R1:=H9 (t1.row R0.out (fun e=>by unfold only at e;omega));have T1:=H9 (T0.out.trans t1 (fun _ h _=>h));have c0:w1.cell? ⟨w.heap.size,0,none⟩=some (.int .i64 0):=fK w1 _ 0 _ _ _ R1.out;have f0:w1.frozen? ⟨w.heap.size,0,none⟩=false:=fM w1 _ 0 _ _ R1.out;have T2:Hid (Turns (only g) w (w1.setCell ⟨w.heap.size,0,none⟩ (.int .i64 c))):=T1.out.trans (Turns.setCell (fun k=>k=w.heap.size) _ _ _ rfl) (fun i e hi=>by omega);have c2:(w1.setCell ⟨w.heap.size,0,none⟩ (.int .i64 c)).cell? ⟨w.heap.size,0,none⟩=some (.int .i64 c):=fP w1 _ _ c0;clear t1 R0 R1 T0 T1;go_wp2;refine leaves_cons (f:=245) (args:=#[.pointer (some ⟨w.heap.size,0,none⟩)]) (by simp) (by simp[go_sem]) ?_;refine(CG ⟨w.heap.size,0,none⟩ 0 c [] _ c0 f0).mono ?_;rintro e u' w'' ⟨rfl,rfl,rfl⟩;simp[Leaves,settle,results,results211,go_sem,c2];exact T2.out
theorem Oh (s:ay)(g rb:Nat)(w:World)(h:je w g s 0)(hr:w.heap[rb]? = some (.cells #[.string ⟨#[]⟩,.slice none 0 0] 172 (0,0)))(hs:s.size<=100000)(x:av×List Pm.tL)(hm:Pm.Ey s.data.toList 0=.inr x):
 Calls prog 211 #[.func (.func 212) #[] #[.pointer (some ⟨g,0,none⟩),.pointer (some ⟨rb,0,none⟩)]] w fun e w'=>e=.returned (.int .i64 0)∧abR x w.heap.size rb w'∧Turns (both g rb) w w':=by
 have UL:∀(fn:Fn) (first cap:Array Value) (w:World),(Instr.makeFunc fn first cap).run prog w=.ok (.func fn first cap) w:=fun _ _ _ _=>rfl;have hlt:=h.lt;have aej:rb<w.heap.size:=(aL.1 hr).1;have hB:aj w (w.alloc (.cells #[.int .i64 0] 3)):=(fJ _ _).alloc (aM _) _;have R0:Hid ((w.alloc (.cells #[.int .i64 0] 3)).heap[w.heap.size]? = some (.cells #[.int .i64 0] 3 (0,0))):=fI w _;have HM:=H9 (Og s g rb _ (h.keep hB) ((hB.block rb aej).trans hr) hs x hm);have T0:=H9 (Turns.of_below (S:=both g rb) hB);have hz:(w.alloc (.cells #[.int .i64 0] 3)).heap.size=w.heap.size+1:=by simp
 rw[hz] at HM;clear hm h hB hr hz;go_enter_defers func211,ntmps211
 go_wp2_with fail
 refine HM.o.mono ?_;rintro e w1 ⟨rfl,⟨wo,ps,ao,cap,hd,hwo,hps,ho⟩,t1⟩;have R1:=H9 (t1.row R0.out (fun e=>by unfold both at e;omega));have T1:=H9 (T0.out.trans t1 (fun _ h _=>h));have c0:w1.cell? ⟨w.heap.size,0,none⟩=some (.int .i64 0):=fK w1 _ 0 _ _ _ R1.out;have f0:w1.frozen? ⟨w.heap.size,0,none⟩=false:=fM w1 _ 0 _ _ R1.out;have hS:=Turns.setCell (fun k=>k=w.heap.size) w1 ⟨w.heap.size,0,none⟩ (.int .i64 0) rfl;have T2:Hid (Turns (both g rb) w (w1.setCell ⟨w.heap.size,0,none⟩ (.int .i64 0))):=T1.out.trans hS (fun i e hi=>by omega);have HI:Hid (abR x w.heap.size rb (w1.setCell ⟨w.heap.size,0,none⟩ (.int .i64 0))) :=
  ⟨wo,ps,ao,cap,hS.row hd (by omega),hwo,hps,(ho.turns hS (fun a e e2=>by have:=(ho.block a e).1;omega)).mono (by omega)⟩
 have c2:(w1.setCell ⟨w.heap.size,0,none⟩ (.int .i64 0)).cell? ⟨w.heap.size,0,none⟩=some (.int .i64 0):=fP w1 _ _ c0;clear t1 R0 R1 T0 T1 hS hd hwo hps ho;go_wp2;refine leaves_cons (f:=245) (args:=#[.pointer (some ⟨w.heap.size,0,none⟩)]) (by simp) (by simp[go_sem]) ?_;refine(Oe ⟨w.heap.size,0,none⟩ _).mono ?_;rintro e u' w'' ⟨rfl,rfl,rfl⟩;simp[Leaves,settle,results,results211,go_sem,c2];exact⟨HI.o,T2.out⟩
end Go.Proofs.YtjmndjmhjleabaaGreatDoor